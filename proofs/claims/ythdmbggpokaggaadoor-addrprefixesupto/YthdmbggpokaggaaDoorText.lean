/-
  Mathematics of texts: numerals, what stands ahead of a sign, addresses and their texts.
-/
import Derived.Lib.ItoaNum
namespace Go.Proofs.YthdmbggpokaggaaDoor
open Go

/-- A byte's digit. -/
def dig (c : UInt8) : Nat := c.toNat - 48
def isDig (c : UInt8) : Bool := decide (48 ≤ c.toNat ∧ c.toNat ≤ 57)
/-- The number of a row of digits. -/
def val (l : List UInt8) : Nat := l.foldl (fun n c => n * 10 + dig c) 0
theorem val_snoc (l : List UInt8) (c : UInt8) : val (l ++ [c]) = val l * 10 + dig c := by simp [val, List.foldl_append]
/-- Digits one by one, from n on. -/
def walkN (most : Nat) : Nat → List UInt8 → Option Nat
  | n, [] => some n
  | n, c :: l => if isDig c = true then (if most < n * 10 + dig c then none else walkN most (n * 10 + dig c) l) else none
/-- Digits as a numeral has them. -/
def fine (l : List UInt8) : Bool := decide (l ≠ [] ∧ ¬ (1 < l.length ∧ l.head? = some 48))
def numL (most : Nat) (l : List UInt8) : Option Nat := if fine l = true then walkN most 0 l else none

theorem dig_le {c : UInt8} (h : isDig c = true) : dig c ≤ 9 := by unfold isDig at h; unfold dig; simp at h; omega
theorem foldl_ge (l : List UInt8) : ∀ n, n ≤ l.foldl (fun n c => n * 10 + dig c) n := by
  induction l with
  | nil => intro n; exact Nat.le_refl _
  | cons c l ih => intro n; simp only [List.foldl_cons]; exact Nat.le_trans (by omega) (ih _)
theorem walkN_eq (most : Nat) (l : List UInt8) : ∀ n, walkN most n l = if l.all isDig = true ∧ (l.foldl (fun n c => n * 10 + dig c) n ≤ most ∨ l = []) then some (l.foldl (fun n c => n * 10 + dig c) n) else none := by
  induction l with
  | nil => intro n; simp [walkN]
  | cons c l ih =>
    intro n
    unfold walkN
    by_cases hc : isDig c = true
    · rw [if_pos hc]
      have hge := foldl_ge l (n * 10 + dig c)
      by_cases hm : most < n * 10 + dig c
      · rw [if_pos hm, if_neg]
        rintro ⟨_, h | h⟩
        · simp only [List.foldl_cons] at h; omega
        · cases h
      · rw [if_neg hm, ih]
        simp only [List.all_cons, hc, Bool.true_and, List.foldl_cons]
        by_cases hl : l = []
        · subst hl; simp; omega
        · simp [hl]
    · rw [if_neg hc, if_neg]
      rintro ⟨h, _⟩
      simp [hc] at h
/-- The numeral of the number of fine digits is those digits. -/
theorem dec_val : ∀ (n : Nat) (l : List UInt8), l.length = n → l ≠ [] → l.all isDig = true → (1 < l.length → l.head? ≠ some 48) → Lib.decDigits (val l) = l := by
  intro n
  induction n with
  | zero => intro l h1 h2; exact absurd (List.length_eq_zero_iff.1 h1) h2
  | succ n ih =>
    intro l hn hne hd hz
    obtain ⟨m, c, rfl⟩ : ∃ m c, l = m ++ [c] := ⟨l.dropLast, l.getLast hne, (List.dropLast_concat_getLast hne).symm⟩
    simp only [List.all_append, List.all_cons, List.all_nil, Bool.and_true, Bool.and_eq_true] at hd
    obtain ⟨hm, hc⟩ := hd
    have hcl := dig_le hc
    have hback : UInt8.ofNat (48 + dig c) = c := by
      unfold isDig at hc; simp at hc
      apply UInt8.toNat_inj.1
      unfold dig
      rw [UInt8.toNat_ofNat']
      omega
    rw [val_snoc]
    by_cases hmn : m = []
    · subst hmn
      rw [show val [] = 0 from rfl, Lib.decDigits, dif_pos (by omega)]
      simp [hback]
    · have hlen : m.length = n := by simpa using hn
      have hz' : m.head? ≠ some 48 := by
        have := hz (by simp; cases m; exact absurd rfl hmn; simp)
        cases m with
        | nil => exact absurd rfl hmn
        | cons a b => simpa using this
      have ih' := ih m hlen hmn hm (fun _ => hz')
      have hpos : 1 ≤ val m := by
        cases m with
        | nil => exact absurd rfl hmn
        | cons a b =>
          have ha : isDig a = true := by simp at hm; exact hm.1
          have h1 : 1 ≤ dig a := by
            unfold isDig at ha; simp at ha
            unfold dig
            have : a.toNat ≠ 48 := fun h => hz' (by simp; exact UInt8.toNat_inj.1 h)
            omega
          unfold val
          simp only [List.foldl_cons]
          exact Nat.le_trans (by omega) (foldl_ge b _)
      rw [Lib.decDigits, dif_neg (by omega), show (val m * 10 + dig c) / 10 = val m from by omega, ih', show (val m * 10 + dig c) % 10 = dig c from by omega, hback]
/-- What numerals are made of. -/
theorem dec_digs (n : Nat) : (Lib.decDigits n).all isDig = true ∧ Lib.decDigits n ≠ [] ∧ (1 < (Lib.decDigits n).length → (Lib.decDigits n).head? ≠ some 48) ∧ val (Lib.decDigits n) = n := by
  induction n using Nat.strongRecOn with
  | _ n ih =>
    have key : ∀ d, d < 10 → isDig (UInt8.ofNat (48 + d)) = true ∧ dig (UInt8.ofNat (48 + d)) = d := by
      intro d hd
      unfold isDig dig
      rw [UInt8.toNat_ofNat']
      simp; omega
    rw [Lib.decDigits]
    by_cases h : n < 10
    · rw [dif_pos h]
      obtain ⟨k1, k2⟩ := key n h
      generalize UInt8.ofNat (48 + n) = q at *
      refine ⟨by simp [k1], by simp, by simp, ?_⟩
      simp [val, k2]
    · rw [dif_neg h]
      obtain ⟨a, b, c, d⟩ := ih (n / 10) (by omega)
      have hk := key (n % 10) (by omega)
      generalize UInt8.ofNat (48 + n % 10) = q at *
      refine ⟨by simp [a, hk.1], by simp, fun _ => ?_, ?_⟩
      · cases hx : Lib.decDigits (n / 10) with
        | nil => exact absurd hx b
        | cons x r =>
          simp only [List.cons_append, List.head?_cons]
          intro h48
          have hx0 : x = 48 := by simpa using h48
          rw [hx, hx0] at d
          by_cases hr : r = []
          · subst hr
            have : val [48] = 0 := by decide
            omega
          · refine c ?_ ?_
            · rw [hx]; cases r; exact absurd rfl hr; simp
            · rw [hx, hx0]; rfl
      · rw [val_snoc, d, hk.2]; omega
theorem numL_dec (most n : Nat) (h : n ≤ most) : numL most (Lib.decDigits n) = some n := by
  obtain ⟨a, b, c, d⟩ := dec_digs n
  have hf : fine (Lib.decDigits n) = true := by
    unfold fine; simp only [decide_eq_true_eq]
    exact ⟨b, fun ⟨h1, h2⟩ => c h1 h2⟩
  unfold numL
  rw [if_pos hf, walkN_eq, if_pos ⟨a, .inl (by show val (Lib.decDigits n) ≤ most; omega)⟩]
  show some (val (Lib.decDigits n)) = _
  rw [d]
theorem dec_of_numL {most n : Nat} {l : List UInt8} (h : numL most l = some n) : l = Lib.decDigits n ∧ n ≤ most := by
  unfold numL at h
  by_cases hf : fine l = true
  · rw [if_pos hf, walkN_eq] at h
    unfold fine at hf; simp only [decide_eq_true_eq] at hf
    split at h
    · rename_i hh
      have hv : val l = n := Option.some.inj h
      refine ⟨?_, ?_⟩
      · rw [← hv]; exact (dec_val l.length l rfl hf.1 hh.1 (fun h1 h2 => hf.2 ⟨h1, h2⟩)).symm
      · rcases hh.2 with h3 | h3
        · rw [← hv]; exact h3
        · exact absurd h3 hf.1
    · cases h
  · rw [if_neg hf] at h; cases h

/-- What stands ahead of the first c, behind it, and whether there is one. -/
def cutL (c : UInt8) : List UInt8 → List UInt8 × List UInt8 × Bool
  | [] => ([], [], false)
  | b :: l => if b = c then ([], l, true) else (b :: (cutL c l).1, (cutL c l).2.1, (cutL c l).2.2)
theorem cutL_hit (c : UInt8) (p r : List UInt8) (h : c ∉ p) : cutL c (p ++ c :: r) = (p, r, true) := by
  induction p with
  | nil => simp [cutL]
  | cons a p ih =>
    simp only [List.mem_cons, not_or] at h
    simp only [List.cons_append, cutL, ih h.2, if_neg (Ne.symm h.1)]
theorem cutL_miss (c : UInt8) (p : List UInt8) (h : c ∉ p) : cutL c p = (p, [], false) := by
  induction p with
  | nil => rfl
  | cons a p ih =>
    simp only [List.mem_cons, not_or] at h
    simp only [cutL, ih h.2, if_neg (Ne.symm h.1)]
theorem cutL_back (c : UInt8) (l : List UInt8) : (c ∉ (cutL c l).1) ∧ ((cutL c l).2.2 = true → l = (cutL c l).1 ++ c :: (cutL c l).2.1) ∧ ((cutL c l).2.2 = false → l = (cutL c l).1 ∧ (cutL c l).2.1 = []) := by
  induction l with
  | nil => simp [cutL]
  | cons b l ih =>
    obtain ⟨h1, h2, h3⟩ := ih
    unfold cutL
    by_cases hb : b = c
    · rw [if_pos hb]; subst hb; simp
    · rw [if_neg hb]
      refine ⟨?_, ?_, ?_⟩
      · simp only [List.mem_cons, not_or]; exact ⟨Ne.symm hb, h1⟩
      · intro h; rw [List.cons_append, ← h2 h]
      · intro h; exact ⟨by rw [← (h3 h).1], (h3 h).2⟩
theorem cutL_len (c : UInt8) (l : List UInt8) : (cutL c l).1.length ≤ l.length ∧ (cutL c l).2.1.length ≤ l.length := by
  induction l with
  | nil => simp [cutL]
  | cons b l ih =>
    unfold cutL
    split
    · simp
    · simp only [List.length_cons]; omega

/-- k numbers with a dot between each, the first ones told already. -/
def parseN : Nat → Nat → List UInt8 → Option Nat
  | 0, a, _ => some a
  | k + 1, a, l => if (cutL 46 l).2.2 = decide (0 < k) then (match numL 255 (cutL 46 l).1 with | none => none | some n => parseN k (a * 256 + n) (cutL 46 l).2.1) else none
def parseL (l : List UInt8) : Option Nat := parseN 4 0 l
def prtL (a : Nat) : List UInt8 := Lib.decDigits (a / 16777216) ++ 46 :: (Lib.decDigits (a / 65536 % 256) ++ 46 :: (Lib.decDigits (a / 256 % 256) ++ 46 :: Lib.decDigits (a % 256)))
theorem dec_no {c : UInt8} (h : isDig c = false) (n : Nat) : c ∉ Lib.decDigits n := fun hm => by
  have := List.all_eq_true.1 (dec_digs n).1 c hm
  rw [h] at this; cases this
theorem parseN_hit (k a n : Nat) (p r : List UInt8) (h : 46 ∉ p) (hn : numL 255 p = some n) (hk : 0 < k) : parseN (k + 1) a (p ++ 46 :: r) = parseN k (a * 256 + n) r := by
  rw [parseN, cutL_hit 46 p r h]
  simp [hk, hn]
theorem parseN_last (a n : Nat) (p : List UInt8) (h : 46 ∉ p) (hn : numL 255 p = some n) : parseN 1 a p = some (a * 256 + n) := by
  rw [parseN, cutL_miss 46 p h]
  simp [hn, parseN]
theorem parse_print (a : Nat) (h : a < 4294967296) : parseL (prtL a) = some a := by
  have hd : isDig 46 = false := by decide
  unfold parseL prtL
  rw [parseN_hit 3 0 _ _ _ (dec_no hd _) (numL_dec 255 _ (by omega)) (by omega), parseN_hit 2 _ _ _ _ (dec_no hd _) (numL_dec 255 _ (by omega)) (by omega), parseN_hit 1 _ _ _ _ (dec_no hd _) (numL_dec 255 _ (by omega)) (by omega), parseN_last _ _ _ (dec_no hd _) (numL_dec 255 _ (by omega))]
  congr 1; omega
theorem parseN_lt : ∀ (k a : Nat) (l : List UInt8) (c : Nat), parseN k a l = some c → c < (a + 1) * 256 ^ k ∧ a * 256 ^ k ≤ c := by
  intro k
  induction k with
  | zero => intro a l c h; unfold parseN at h; simp at h; subst h; simp
  | succ k ih =>
    intro a l c h
    unfold parseN at h
    split at h
    · split at h
      · cases h
      · rename_i n hn
        have := (dec_of_numL hn).2
        obtain ⟨h1, h2⟩ := ih _ _ _ h
        have hp : 0 < 256 ^ k := Nat.pow_pos (by omega)
        rw [Nat.pow_succ, Nat.mul_comm (256 ^ k) 256, ← Nat.mul_assoc, ← Nat.mul_assoc]
        constructor
        · exact Nat.lt_of_lt_of_le h1 (Nat.mul_le_mul_right _ (by omega))
        · exact Nat.le_trans (Nat.mul_le_mul_right _ (by omega)) h2
    · cases h
theorem print_parse {l : List UInt8} {a : Nat} (h : parseL l = some a) : l = prtL a ∧ a < 4294967296 := by
  unfold parseL at h
  have step : ∀ (k a : Nat) (l : List UInt8) (c : Nat), parseN (k + 1) a l = some c → ∃ n r, n ≤ 255 ∧ parseN k (a * 256 + n) r = some c ∧ ((0 < k ∧ l = Lib.decDigits n ++ 46 :: r) ∨ (k = 0 ∧ l = Lib.decDigits n)) := by
    intro k a l c h
    unfold parseN at h
    split at h
    · rename_i hc
      split at h
      · cases h
      · rename_i n hn
        obtain ⟨e1, e2⟩ := dec_of_numL hn
        obtain ⟨b1, b2, b3⟩ := cutL_back 46 l
        refine ⟨n, _, e2, h, ?_⟩
        rcases Nat.eq_zero_or_pos k with hk | hk
        · right
          have hf : (cutL 46 l).2.2 = false := by rw [hc]; simp [hk]
          exact ⟨hk, by rw [← e1]; exact (b3 hf).1⟩
        · left
          have hf : (cutL 46 l).2.2 = true := by rw [hc]; simpa using hk
          exact ⟨hk, by rw [← e1]; exact b2 hf⟩
    · cases h
  obtain ⟨n0, r0, h0, e0, c0⟩ := step 3 0 l a h
  obtain ⟨n1, r1, h1, e1, c1⟩ := step 2 _ r0 a e0
  obtain ⟨n2, r2, h2, e2, c2⟩ := step 1 _ r1 a e1
  obtain ⟨n3, r3, h3, e3, c3⟩ := step 0 _ r2 a e2
  unfold parseN at e3
  have ea : (((0 * 256 + n0) * 256 + n1) * 256 + n2) * 256 + n3 = a := Option.some.inj e3
  rcases c0 with ⟨_, c0⟩ | ⟨hh, _⟩
  · rcases c1 with ⟨_, c1⟩ | ⟨hh, _⟩
    · rcases c2 with ⟨_, c2⟩ | ⟨hh, _⟩
      · rcases c3 with ⟨hh, _⟩ | ⟨_, c3⟩
        · omega
        · refine ⟨?_, by omega⟩
          unfold prtL
          rw [show a / 16777216 = n0 from by omega, show a / 65536 % 256 = n1 from by omega, show a / 256 % 256 = n2 from by omega, show a % 256 = n3 from by omega]
          rw [c0, c1, c2, c3]
      · omega
    · omega
  · omega
end Go.Proofs.YthdmbggpokaggaaDoor
