/-
  Mathematics of covers: what their prefixes are, how many they are, and what they have together.
-/
import Derived.Test.YthdmbggpokaggaaDoorMath
namespace Go.Proofs.YthdmbggpokaggaaDoor
open Go

theorem back32 (s n : Nat) : 32 - (32 - gx s n) = gx s n := by have := gx_le s n; omega

/-- Every prefix of a cover is one, and lies in the range. -/
theorem cov_mem (e : Nat) (he : e ≤ 4294967296) : ∀ (n s : Nat), e - s ≤ n → ∀ p ∈ cov s e, p.2 ≤ 32 ∧ 2 ^ (32 - p.2) ∣ p.1 ∧ s ≤ p.1 ∧ p.1 + 2 ^ (32 - p.2) ≤ e := by
  intro n
  induction n with
  | zero => intro s h p hp; rw [cov_end (by omega)] at hp; cases hp
  | succ n ih =>
    intro s h p hp
    by_cases hlt : s < e
    · rw [cov_step hlt] at hp
      have hpos := Nat.two_pow_pos (gx s (e - s))
      have hf := gx_fits s (e - s) (by omega) (by omega)
      rcases List.mem_cons.1 hp with rfl | hp
      · refine ⟨by simp, ?_, Nat.le_refl _, ?_⟩
        · simp only [back32]; exact gx_dvd s _ (by omega)
        · simp only [back32]; omega
      · obtain ⟨a, b, c, d⟩ := ih _ (by omega) p hp
        exact ⟨a, b, by omega, d⟩
    · rw [cov_end hlt] at hp; cases hp

/-- Does a prefix of that width at a have x? -/
def inP (x : Nat) (p : Nat × Nat) : Bool := decide (p.1 ≤ x ∧ x < p.1 + 2 ^ (32 - p.2))
theorem cov_count (e x : Nat) (he : e ≤ 4294967296) : ∀ (n s : Nat), e - s ≤ n → (cov s e).countP (inP x) = if s ≤ x ∧ x < e then 1 else 0 := by
  intro n
  induction n with
  | zero => intro s h; rw [cov_end (by omega), if_neg (by omega)]; rfl
  | succ n ih =>
    intro s h
    by_cases hlt : s < e
    · have hpos := Nat.two_pow_pos (gx s (e - s))
      have hf := gx_fits s (e - s) (by omega) (by omega)
      rw [cov_step hlt, List.countP_cons, ih _ (by omega)]
      unfold inP
      simp only [back32, decide_eq_true_eq]
      generalize 2 ^ gx s (e - s) = D at *
      split <;> split <;> split <;> omega
    · rw [cov_end hlt, if_neg (by omega)]; rfl

/-- Of two prefixes that follow on one another the first begins ahead, and they are no halves of one. -/
theorem cov_next (e : Nat) (he : e ≤ 4294967296) : ∀ (n s k : Nat), e - s ≤ n → ∀ p q, (cov s e)[k]? = some p → (cov s e)[k + 1]? = some q →
    p.1 < q.1 ∧ ¬ (p.2 = q.2 ∧ p.1 % (2 * 2 ^ (32 - q.2)) = 0 ∧ p.1 + 2 ^ (32 - q.2) = q.1) := by
  intro n
  induction n with
  | zero => intro s k h p q hp; rw [cov_end (by omega)] at hp; simp at hp
  | succ n ih =>
    intro s k h p q hp hq
    by_cases hlt : s < e
    · have hpos := Nat.two_pow_pos (gx s (e - s))
      have hf := gx_fits s (e - s) (by omega) (by omega)
      rw [cov_step hlt] at hp hq
      cases k with
      | succ k => exact ih (s + 2 ^ gx s (e - s)) k (by omega) p q (by simpa using hp) (by simpa using hq)
      | zero =>
        simp only [List.getElem?_cons_zero, Option.some.injEq] at hp
        rw [List.getElem?_cons_succ] at hq
        by_cases hl2 : s + 2 ^ gx s (e - s) < e
        · rw [cov_step hl2] at hq
          simp only [List.getElem?_cons_zero, Option.some.injEq] at hq
          have hf2 := gx_fits (s + 2 ^ gx s (e - s)) (e - (s + 2 ^ gx s (e - s))) (by omega) (by omega)
          subst hp hq
          refine ⟨by simp only; omega, ?_⟩
          rintro ⟨e1, e2, -⟩
          simp only [back32] at e1 e2
          have g1 := gx_le s (e - s)
          have g2 := gx_le (s + 2 ^ gx s (e - s)) (e - (s + 2 ^ gx s (e - s)))
          have eg : gx (s + 2 ^ gx s (e - s)) (e - (s + 2 ^ gx s (e - s))) = gx s (e - s) := by omega
          rw [eg] at hf2 e2
          have hd : 2 ^ (gx s (e - s) + 1) ∣ s := by
            rw [Nat.pow_succ, Nat.mul_comm]; exact Nat.dvd_of_mod_eq_zero e2
          have := gx_max s (e - s) (gx s (e - s) + 1) (by omega) (by omega) (by omega) hd (by rw [Nat.pow_succ]; omega)
          omega
        · rw [cov_end hl2] at hq; simp at hq
    · rw [cov_end hlt] at hp; simp at hp

theorem len_left (k : Nat) : ∀ a e : Nat, 2 ^ k ∣ a → a ≤ e → e < a + 2 ^ k → e ≤ 4294967296 → (cov a e).length ≤ k := by
  induction k with
  | zero => intro a e _ h1 h2 _; rw [cov_end (by simp at h2; omega)]; simp
  | succ k ih =>
    intro a e hd h1 h2 h3
    have hpp : 2 ^ (k + 1) = 2 ^ k + 2 ^ k := by rw [Nat.pow_succ]; omega
    have hd1 : 2 ^ k ∣ a := Nat.dvd_trans (Nat.pow_dvd_pow 2 (by omega)) hd
    by_cases h : e < a + 2 ^ k
    · have := ih a e hd1 h1 h h3; omega
    · rw [cov_cut a k (a + 2 ^ k) e hd rfl (by omega) (by omega) h3 _ a (Nat.le_refl _) (Nat.le_refl _) (by omega) (by omega)]
      rw [cov_whole a k hd1 (by omega)]
      have := ih (a + 2 ^ k) e (Nat.dvd_add hd1 (Nat.dvd_refl _)) (by omega) (by omega) h3
      simp; omega
theorem len_right (k : Nat) : ∀ a s : Nat, 2 ^ k ∣ a → a < s → s ≤ a + 2 ^ k → a + 2 ^ k ≤ 4294967296 → (cov s (a + 2 ^ k)).length ≤ k := by
  induction k with
  | zero => intro a s _ h1 h2 _; rw [cov_end (by simp at *; omega)]; simp
  | succ k ih =>
    intro a s hd h1 h2 h3
    have hpp : 2 ^ (k + 1) = 2 ^ k + 2 ^ k := by rw [Nat.pow_succ]; omega
    have hd1 : 2 ^ k ∣ a := Nat.dvd_trans (Nat.pow_dvd_pow 2 (by omega)) hd
    have hd2 : 2 ^ k ∣ a + 2 ^ k := Nat.dvd_add hd1 (Nat.dvd_refl _)
    by_cases h : a + 2 ^ k < s
    · have := ih (a + 2 ^ k) s hd2 h (by omega) (by omega)
      rw [hpp, ← Nat.add_assoc]; omega
    · rw [cov_cut a k (a + 2 ^ k) (a + 2 ^ (k + 1)) hd rfl (by omega) (by omega) h3 _ s (Nat.le_refl _) (by omega) (by omega) (by omega)]
      have := cov_whole (a + 2 ^ k) k hd2 (by omega)
      rw [Nat.add_assoc, ← hpp] at this
      rw [this]
      have := ih a s hd1 h1 (by omega) (by omega)
      simp; omega
theorem len_any (k : Nat) : ∀ a s e : Nat, 2 ^ k ∣ a → a ≤ s → s ≤ e → e ≤ a + 2 ^ k → a + 2 ^ k ≤ 4294967296 → (cov s e).length ≤ max 1 (2 * (k - 1)) := by
  induction k with
  | zero =>
    intro a s e hd h1 h2 h3 h4
    by_cases h : s < e
    · have e1 : s = a := by simp at h3; omega
      have e2 : e = a + 2 ^ 0 := by simp at h3; simp; omega
      rw [e1, e2, cov_whole a 0 hd h4]; simp
    · rw [cov_end h]; simp
  | succ k ih =>
    intro a s e hd h1 h2 h3 h4
    have hpp : 2 ^ (k + 1) = 2 ^ k + 2 ^ k := by rw [Nat.pow_succ]; omega
    have hd1 : 2 ^ k ∣ a := Nat.dvd_trans (Nat.pow_dvd_pow 2 (by omega)) hd
    have hd2 : 2 ^ k ∣ a + 2 ^ k := Nat.dvd_add hd1 (Nat.dvd_refl _)
    have hp := Nat.two_pow_pos k
    by_cases hA : e ≤ a + 2 ^ k
    · have := ih a s e hd1 h1 h2 hA (by omega); omega
    by_cases hB : a + 2 ^ k ≤ s
    · have := ih (a + 2 ^ k) s e hd2 hB h2 (by omega) (by omega); omega
    by_cases hw : s = a ∧ e = a + 2 ^ (k + 1)
    · obtain ⟨rfl, rfl⟩ := hw
      rw [cov_whole _ _ hd h4]; simp; omega
    · rw [cov_cut a k (a + 2 ^ k) e hd rfl h3 (by omega) (by omega) _ s (Nat.le_refl _) h1 (by omega) hw, List.length_append]
      have hk : 1 ≤ k := by
        apply Nat.pos_of_ne_zero
        intro h0; subst h0
        simp at *
        omega
      have l1 : (cov s (a + 2 ^ k)).length ≤ k := by
        by_cases hs : s = a
        · subst hs; rw [cov_whole _ _ hd1 (by omega)]; simpa using hk
        · exact len_right k a s hd1 (by omega) (by omega) (by omega)
      have l2 : (cov (a + 2 ^ k) e).length ≤ k := by
        by_cases hs : e = a + 2 ^ k + 2 ^ k
        · subst hs; rw [cov_whole _ _ hd2 (by omega)]; simpa using hk
        · exact len_left k (a + 2 ^ k) e hd2 (by omega) (by omega) (by omega)
      omega
theorem len_62 (s e : Nat) (h : s ≤ e) (he : e ≤ 4294967296) : (cov s e).length ≤ 62 := by
  have := len_any 32 0 s e (Nat.dvd_zero _) (Nat.zero_le _) h (by simpa using he) (by simp)
  omega
theorem len_pos (s e : Nat) (h : s < e) : 1 ≤ (cov s e).length := by rw [cov_step h]; simp

/-- How many addresses the prefixes of a list have. -/
def sizes : List (Nat × Nat) → Nat
  | [] => 0
  | p :: r => 2 ^ (32 - p.2) + sizes r
theorem sizes_append (l m : List (Nat × Nat)) : sizes (l ++ m) = sizes l + sizes m := by
  induction l with
  | nil => simp [sizes]
  | cons x l ih => simp [sizes, ih]; omega
theorem cov_sizes (e : Nat) (he : e ≤ 4294967296) : ∀ (n s : Nat), e - s ≤ n → s ≤ e → sizes (cov s e) = e - s := by
  intro n
  induction n with
  | zero => intro s h h2; rw [cov_end (by omega)]; simp [sizes]; omega
  | succ n ih =>
    intro s h h2
    by_cases hlt : s < e
    · have hpos := Nat.two_pow_pos (gx s (e - s))
      have hf := gx_fits s (e - s) (by omega) (by omega)
      rw [cov_step hlt]
      simp only [sizes, back32]
      rw [ih _ (by omega) (by omega)]
      omega
    · rw [cov_end hlt]; simp [sizes]; omega
end Go.Proofs.YthdmbggpokaggaaDoor
