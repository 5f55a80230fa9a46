/-
  Mathematics of covers: the greedy list of prefixes of a range, and that of halves from the top.
-/
import Derived.Lib.TrailingZeros
import Derived.Lib.BitFns
namespace Go.Proofs.YthdmbggpokaggaaDoor
open Go

theorem ctz_le (x : Nat) : Lib.ctz 32 x ≤ 32 := by
  unfold Lib.ctz; split
  · omega
  · by_cases h : x < 2 ^ 32
    · obtain ⟨m, _, h2⟩ := Lib.ctzFrom_spec 32 x (by omega) h; omega
    · have : ∀ f y, Lib.ctzFrom f y ≤ f := by
        intro f
        induction f with
        | zero => intro y; simp [Lib.ctzFrom]
        | succ f ih => intro y; simp only [Lib.ctzFrom]; split <;> (try omega); have := ih (y / 2); omega
      exact this 32 x
theorem ctz_dvd (x : Nat) (h : x < 4294967296) : 2 ^ Lib.ctz 32 x ∣ x := by
  unfold Lib.ctz; split
  · subst_vars; exact Nat.dvd_zero _
  · obtain ⟨m, h1, _⟩ := Lib.ctzFrom_spec 32 x (by omega) h
    exact ⟨2 * m + 1, h1⟩
theorem ctz_max (x j : Nat) (h : x < 4294967296) (h0 : x ≠ 0) (hj : 2 ^ j ∣ x) : j ≤ Lib.ctz 32 x := by
  unfold Lib.ctz; rw [if_neg h0]
  obtain ⟨m, h1, _⟩ := Lib.ctzFrom_spec 32 x (by omega) h
  generalize Lib.ctzFrom 32 x = c at *
  apply Nat.le_of_not_lt
  intro hlt
  have hd : 2 ^ (c + 1) ∣ x := Nat.dvd_trans (Nat.pow_dvd_pow 2 hlt) hj
  rw [h1, Nat.pow_succ] at hd
  have := Nat.dvd_of_mul_dvd_mul_left (Nat.two_pow_pos c) hd
  omega
theorem bitLen_spec : ∀ n : Nat, 0 < n → n < 18446744073709551616 → 2 ^ (Lib.bitLen n - 1) ≤ n ∧ n < 2 ^ Lib.bitLen n ∧ 1 ≤ Lib.bitLen n := by
  intro n
  induction n using Nat.strongRecOn with
  | _ n ih =>
    intro h0 h1
    rw [Lib.bitLen_half n (by omega) h1]
    by_cases h2 : n / 2 = 0
    · rw [h2]
      have e : n = 1 := by omega
      subst e
      decide
    · obtain ⟨a, b, c⟩ := ih (n / 2) (by omega) (by omega) (by omega)
      generalize Lib.bitLen (n / 2) = L at *
      obtain ⟨L, rfl⟩ : ∃ k, L = k + 1 := ⟨L - 1, by omega⟩
      simp only [Nat.add_sub_cancel, Nat.add_sub_cancel_left] at *
      rw [show 1 + (L + 1) = L + 1 + 1 from by omega]
      rw [Nat.pow_succ] at b
      refine ⟨?_, ?_, by omega⟩
      · rw [Nat.pow_succ]; omega
      · rw [Nat.pow_succ, Nat.pow_succ]; omega

/-- How wide the prefix is that begins at s and has no more than n addresses. -/
def gx (s n : Nat) : Nat := min (Lib.ctz 32 s) (Lib.bitLen n - 1)
theorem gx_le (s n : Nat) : gx s n ≤ 32 := Nat.le_trans (Nat.min_le_left _ _) (ctz_le s)
theorem gx_dvd (s n : Nat) (h : s < 4294967296) : 2 ^ gx s n ∣ s := Nat.dvd_trans (Nat.pow_dvd_pow 2 (Nat.min_le_left _ _)) (ctz_dvd s h)
theorem gx_fits (s n : Nat) (h1 : 1 ≤ n) (h2 : n ≤ 4294967296) : 2 ^ gx s n ≤ n :=
  Nat.le_trans (Nat.pow_le_pow_right (by omega) (Nat.min_le_right _ _)) (bitLen_spec n (by omega) (by omega)).1
theorem gx_max (s n j : Nat) (h : s < 4294967296) (h1 : 1 ≤ n) (h2 : n ≤ 4294967296) (hd : 2 ^ j ∣ s) (hf : 2 ^ j ≤ n) : j ≤ gx s n := by
  unfold gx
  have hb : j ≤ Lib.bitLen n - 1 := by
    obtain ⟨_, b, c⟩ := bitLen_spec n (by omega) (by omega)
    have : 2 ^ j < 2 ^ Lib.bitLen n := by omega
    have := (Nat.pow_lt_pow_iff_right (by omega : 1 < 2)).1 this
    omega
  have hc : j ≤ Lib.ctz 32 s := by
    by_cases h0 : s = 0
    · subst h0
      have : 2 ^ j ≤ 2 ^ 32 := by omega
      have := (Nat.pow_le_pow_iff_right (by omega : 1 < 2)).1 this
      have e : Lib.ctz 32 0 = 32 := rfl
      omega
    · exact ctz_max s j h h0 hd
  omega
theorem gx_eq (s n j : Nat) (h : s < 4294967296) (h1 : 1 ≤ n) (h2 : n ≤ 4294967296) (hd : 2 ^ j ∣ s) (hf : 2 ^ j ≤ n) (hm : gx s n ≤ j) : gx s n = j :=
  Nat.le_antisymm hm (gx_max s n j h h1 h2 hd hf)

/-- The greedy cover of the addresses from s to below e: the prefixes' first addresses and bits. -/
def covF : Nat → Nat → Nat → List (Nat × Nat)
  | 0, _, _ => []
  | f + 1, s, e => if s < e then (s, 32 - gx s (e - s)) :: covF f (s + 2 ^ gx s (e - s)) e else []
/-- With as many steps as there are addresses. -/
def cov (s e : Nat) : List (Nat × Nat) := covF (e - s) s e
theorem covF_end (f : Nat) {s e : Nat} (h : ¬ s < e) : covF f s e = [] := by
  cases f with
  | zero => rfl
  | succ f => rw [covF, if_neg h]
theorem covF_fuel : ∀ (f g s e : Nat), e - s ≤ f → e - s ≤ g → covF f s e = covF g s e := by
  intro f
  induction f with
  | zero =>
    intro g s e h1 _
    rw [covF_end 0 (by omega), covF_end g (by omega)]
  | succ f ih =>
    intro g s e h1 h2
    by_cases h : s < e
    · cases g with
      | zero => omega
      | succ g =>
        have hp := Nat.two_pow_pos (gx s (e - s))
        rw [covF, covF, if_pos h, if_pos h, ih g _ e (by omega) (by omega)]
    · rw [covF_end _ h, covF_end _ h]
theorem cov_step {s e : Nat} (h : s < e) : cov s e = (s, 32 - gx s (e - s)) :: cov (s + 2 ^ gx s (e - s)) e := by
  obtain ⟨n, hn⟩ : ∃ n, e - s = n + 1 := ⟨e - s - 1, by omega⟩
  have hp := Nat.two_pow_pos (gx s (e - s))
  unfold cov
  have : covF (e - s) s e = (s, 32 - gx s (e - s)) :: covF n (s + 2 ^ gx s (e - s)) e := by
    rw [hn, covF, if_pos h, hn]
  rw [this, covF_fuel n (e - (s + 2 ^ gx s (e - s))) _ e (by omega) (Nat.le_refl _)]
theorem cov_end {s e : Nat} (h : ¬ s < e) : cov s e = [] := covF_end _ h

theorem step_in (x m p : Nat) (h1 : p ∣ x) (h2 : p ∣ m) (h : x < m) : x + p ≤ m := by
  obtain ⟨a, rfl⟩ := h1
  obtain ⟨b, rfl⟩ := h2
  have : a < b := Nat.lt_of_mul_lt_mul_left h
  calc p * a + p = p * (a + 1) := by rw [Nat.mul_succ]
    _ ≤ p * b := Nat.mul_le_mul_left _ this
theorem cov_whole (a k : Nat) (hd : 2 ^ k ∣ a) (h : a + 2 ^ k ≤ 4294967296) : cov a (a + 2 ^ k) = [(a, 32 - k)] := by
  have hp := Nat.two_pow_pos k
  have e : gx a (a + 2 ^ k - a) = k := by
    rw [Nat.add_sub_cancel_left]
    refine gx_eq a (2 ^ k) k (by omega) hp (by omega) hd (Nat.le_refl _) ?_
    exact (Nat.pow_le_pow_iff_right (by omega : 1 < 2)).1 (gx_fits a (2 ^ k) hp (by omega))
  rw [cov_step (by omega), e, cov_end (by omega)]
theorem cov_cut (a k m e : Nat) (hd : 2 ^ (k + 1) ∣ a) (hm : m = a + 2 ^ k) (he : e ≤ a + 2 ^ (k + 1)) (hme : m ≤ e) (h32 : e ≤ 4294967296) :
    ∀ (n s : Nat), m - s ≤ n → a ≤ s → s ≤ m → ¬ (s = a ∧ e = a + 2 ^ (k + 1)) → cov s e = cov s m ++ cov m e := by
  intro n
  induction n with
  | zero => intro s h1 h2 h3 _; obtain rfl : s = m := by omega
            rw [cov_end (s := s) (e := s) (by omega)]; rfl
  | succ n ih =>
    intro s h1 h2 h3 hne
    by_cases hs : s = m
    · subst hs; rw [cov_end (s := s) (e := s) (by omega)]; rfl
    by_cases hm2 : m = e
    · subst hm2; rw [cov_end (s := m) (e := m) (by omega), List.append_nil]
    have hsl : s < 4294967296 := by omega
    have d1 := gx_dvd s (e - s) hsl
    have f1 := gx_fits s (e - s) (by omega) (by omega)
    have hp := Nat.two_pow_pos (gx s (e - s))
    have hin : s + 2 ^ gx s (e - s) ≤ m := by
      by_cases hg : gx s (e - s) ≤ k
      · refine step_in s m _ d1 ?_ (by omega)
        rw [hm]
        exact Nat.dvd_add (Nat.dvd_trans (Nat.pow_dvd_pow 2 (by omega)) hd) (Nat.pow_dvd_pow 2 hg)
      · exfalso
        have hpow : 2 ^ (k + 1) ≤ 2 ^ gx s (e - s) := Nat.pow_le_pow_right (by omega) (by omega)
        apply hne
        refine ⟨?_, by omega⟩
        have : 2 ^ (k + 1) ∣ s := Nat.dvd_trans (Nat.pow_dvd_pow 2 (by omega)) d1
        omega
    have e2 : gx s (m - s) = gx s (e - s) := by
      refine gx_eq s (m - s) _ hsl (by omega) (by omega) d1 (by omega) ?_
      exact gx_max s (e - s) _ hsl (by omega) (by omega) (gx_dvd s (m - s) hsl) (Nat.le_trans (gx_fits s (m - s) (by omega) (by omega)) (by omega))
    rw [cov_step (s := s) (e := e) (by omega), cov_step (s := s) (e := m) (by omega), e2, List.cons_append]
    rw [ih (s + 2 ^ gx s (e - s)) (by omega) (by omega) hin (by omega)]

/-- What of a prefix lies in a range, by halves. -/
def rcov : Nat → Nat → Nat → Nat → List (Nat × Nat)
  | k, a, f, t => if t < a ∨ a + 2 ^ k - 1 < f then [] else if f ≤ a ∧ a + 2 ^ k - 1 ≤ t then [(a, 32 - k)] else
    match k with
    | 0 => []
    | k + 1 => rcov k a f t ++ rcov k (a + 2 ^ k) f t
theorem rcov_eq (k : Nat) : ∀ (a f t : Nat), 2 ^ k ∣ a → a + 2 ^ k ≤ 4294967296 → f ≤ t → rcov k a f t = cov (max a f) (min (a + 2 ^ k) (t + 1)) := by
  induction k with
  | zero =>
    intro a f t hd h hft
    rw [rcov]
    simp only [Nat.pow_zero] at *
    split
    · rw [cov_end (by omega)]
    · split
      · have := cov_whole a 0 (by simp) (by simpa using h)
        rw [Nat.pow_zero] at this
        rw [show max a f = a from by omega, show min (a + 1) (t + 1) = a + 1 from by omega, this]
      · omega
  | succ k ih =>
    intro a f t hd h hft
    rw [rcov]
    have hp := Nat.two_pow_pos k
    have hpp : 2 ^ (k + 1) = 2 ^ k + 2 ^ k := by rw [Nat.pow_succ]; omega
    split
    · rw [cov_end (by omega)]
    · split
      · rw [show max a f = a from by omega, show min (a + 2 ^ (k + 1)) (t + 1) = a + 2 ^ (k + 1) from by omega, cov_whole a (k + 1) hd h]
      · have hd1 : 2 ^ k ∣ a := Nat.dvd_trans (Nat.pow_dvd_pow 2 (by omega)) hd
        rw [ih a f t hd1 (by omega) hft, ih (a + 2 ^ k) f t (Nat.dvd_add hd1 (Nat.dvd_refl _)) (by omega) hft]
        by_cases h1 : t + 1 ≤ a + 2 ^ k
        · rw [cov_end (s := max (a + 2 ^ k) f) (by omega), List.append_nil]
          congr 1; omega
        · by_cases h2 : a + 2 ^ k ≤ f
          · rw [cov_end (s := max a f) (e := min (a + 2 ^ k) (t + 1)) (by omega), List.nil_append]
            congr 1 <;> omega
          · rw [show min (a + 2 ^ k) (t + 1) = a + 2 ^ k from by omega, show max (a + 2 ^ k) f = a + 2 ^ k from by omega, show a + 2 ^ k + 2 ^ k = a + 2 ^ (k + 1) from by omega]
            exact (cov_cut a k (a + 2 ^ k) (min (a + 2 ^ (k + 1)) (t + 1)) hd rfl (by omega) (by omega) (by omega) _ (max a f) (Nat.le_refl _) (by omega) (by omega) (by omega)).symm
end Go.Proofs.YthdmbggpokaggaaDoor
