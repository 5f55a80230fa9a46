/-
  Package cong: contracts (texts of an earlier round, put over).
-/
import Derived.Test.YtnhcjefbiihfjaaBa
namespace Go.Proofs.Ytnhcjefbiihfjaa.Cw
open Go.RowKit
set_option linter.unusedVariables false
set_option linter.unusedSimpArgs false

/-! Wn -/

/-- A window. -/
structure Wn where
  mss : Int
  size : Int
  slow : Int
/-- What always holds of one. -/
structure WOk (t : Wn) : Prop where
  m0 : 8 ≤ t.mss
  m1 : t.mss ≤ 1000
  s0 : t.mss ≤ t.size
  s1 : t.size ≤ 65535
  l0 : 2 * t.mss ≤ t.slow
  l1 : t.slow ≤ 65535
def wn0 (m : Int) : Wn := ⟨m, 2 * m, 65535⟩
theorem wn0_ok {m : Int} (h0 : 8 ≤ m) (h1 : m ≤ 1000) : WOk (wn0 m) := by
  refine ⟨h0, h1, ?_, ?_, ?_, ?_⟩ <;> (show _ ≤ _) <;> (unfold wn0; dsimp only; omega)
/-- The half of what was on its way, within its bounds. -/
def hv (m f : Int) : Int := min (max (max 0 f / 2) (2 * m)) 65535
theorem hv_lo {m : Int} (h0 : 8 ≤ m) (h1 : m ≤ 1000) (f : Int) : 2 * m ≤ hv m f ∧ hv m f ≤ 65535 := by unfold hv; omega
def lost (t : Wn) (f : Int) : Wn := ⟨t.mss, hv t.mss f, hv t.mss f⟩
def sil (t : Wn) (f : Int) : Wn := ⟨t.mss, t.mss, hv t.mss f⟩
/-- By how much Size gets more. -/
def gr (t : Wn) (n : Int) : Int := if t.size < t.slow then min n t.mss else max 1 (t.mss * t.mss / t.size)
def ack (t : Wn) (n : Int) : Wn := if n < 1 then t else ⟨t.mss, min (t.size + gr t n) 65535, t.slow⟩
section
variable {t : Wn}
theorem WOk.lost (h : WOk t) (f : Int) : WOk (lost t f) := by
  obtain ⟨a, b⟩ := hv_lo h.m0 h.m1 f
  have := h.m0
  exact ⟨h.m0, h.m1, by show t.mss ≤ hv t.mss f; omega, b, a, b⟩
theorem WOk.sil (h : WOk t) (f : Int) : WOk (sil t f) := by
  obtain ⟨a, b⟩ := hv_lo h.m0 h.m1 f
  have := h.m1
  exact ⟨h.m0, h.m1, by show t.mss ≤ t.mss; omega, by show t.mss ≤ 65535; omega, a, b⟩
theorem sq_bnd {m : Int} (h0 : 8 ≤ m) (h1 : m ≤ 1000) : 64 ≤ m * m ∧ m * m ≤ 1000000 := by
  have a := Int.mul_le_mul h0 h0 (by decide) (by omega : 0 ≤ m)
  have b := Int.mul_le_mul h1 h1 (by omega : 0 ≤ m) (by decide)
  omega
theorem quo_bnd {m s : Int} (h0 : 8 ≤ m) (hs : m ≤ s) : 0 ≤ m * m / s ∧ m * m / s ≤ m := by
  refine ⟨Int.ediv_nonneg (Int.mul_nonneg (by omega) (by omega)) (by omega), ?_⟩
  exact Int.ediv_le_of_le_mul (by omega) (Int.mul_le_mul_of_nonneg_left hs (by omega))
theorem gr_bnd (h : WOk t) {n : Int} (hn : 1 ≤ n) : 1 ≤ gr t n ∧ gr t n ≤ t.mss := by
  obtain ⟨q0, q1⟩ := quo_bnd h.m0 h.s0
  have := h.m0
  unfold gr
  split <;> omega
theorem ack_none {n : Int} (hn : n < 1) : ack t n = t := by unfold ack; rw [if_pos hn]
theorem ack_some {n : Int} (hn : 1 ≤ n) : ack t n = ⟨t.mss, min (t.size + gr t n) 65535, t.slow⟩ := by unfold ack; rw [if_neg (by omega)]
theorem WOk.ack (h : WOk t) (n : Int) : WOk (ack t n) := by
  by_cases hn : n < 1
  · rw [ack_none hn]; exact h
  · rw [ack_some (by omega)]
    obtain ⟨a, b⟩ := gr_bnd h (show 1 ≤ n by omega)
    have := h.m1
    have := h.s0
    exact ⟨h.m0, h.m1, by show t.mss ≤ min (t.size + gr t n) 65535; omega, by show min (t.size + gr t n) 65535 ≤ 65535; omega, h.l0, h.l1⟩
theorem ack_mss (n : Int) : (ack t n).mss = t.mss := by unfold ack; split <;> rfl
/-- What comes never narrows it, and widens it by a segment at most. -/
theorem ack_size (h : WOk t) (n : Int) : t.size ≤ (ack t n).size ∧ (ack t n).size ≤ t.size + t.mss := by
  have := h.m0
  have := h.s1
  by_cases hn : n < 1
  · rw [ack_none hn]; omega
  · rw [ack_some (by omega)]
    obtain ⟨a, b⟩ := gr_bnd h (show 1 ≤ n by omega)
    constructor <;> (dsimp only; omega)
end

/-- A block that holds a window. -/
def TB (b : Nat) (t : Wn) (W : World) : Prop := W.heap[b]? = some (.cells #[.int .i64 t.mss, .int .i64 t.size, .int .i64 t.slow] 109 (0, 0))
section
variable {b : Nat} {t : Wn} {W W' : World}
theorem TB.lt (h : TB b t W) : b < W.heap.size := lt_of_heap h
theorem TB.keep (h : TB b t W) (hb : Below W.heap.size W W') : TB b t W' := (hb.block _ h.lt).trans h
theorem TB.kp {bs : List Nat} (h : TB b t W) (hk : Kp bs W W') (hn : b ∉ bs) : TB b t W' := (hk.block b h.lt hn).trans h
theorem TB.drew (h : TB b t W) : TB b t W.drew := h
theorem TB.c0 (h : TB b t W) : W.cell? ⟨b, 0, none⟩ = some (.int .i64 t.mss) := Joins.cell_of_block h 0
theorem TB.c1 (h : TB b t W) : W.cell? ⟨b, 1, none⟩ = some (.int .i64 t.size) := Joins.cell_of_block h 1
theorem TB.c2 (h : TB b t W) : W.cell? ⟨b, 2, none⟩ = some (.int .i64 t.slow) := Joins.cell_of_block h 2
theorem TB.s1 (h : TB b t W) (x : Int) : TB b ⟨t.mss, x, t.slow⟩ (W.setCell ⟨b, 1, none⟩ (.int .i64 x)) := Joins.block_setCell h _
theorem TB.s2 (h : TB b t W) (x : Int) : TB b ⟨t.mss, t.size, x⟩ (W.setCell ⟨b, 2, none⟩ (.int .i64 x)) := Joins.block_setCell h _
theorem TB.free (h : TB b t W) (i : Nat) : W.frozen? ⟨b, i, none⟩ = false := Joins.unfrozen_of_block h i
end

/-! Fn -/

theorem new_bad (m : Int) (w : World) (h : m < 8 ∨ 1000 < m) :
    Calls Try.prog 37 #[.int .i64 m] w fun e w' => e = .returned (.tuple #[.pointer none, .int .i64 1]) ∧ w' = w := by
  by_cases h0 : m < 8
  · clear h
    go_enter Try.func37, Try.ntmps37
    go_wp2_with fail
    go_ret2
    exact ⟨rfl, rfl⟩
  · have h1 : 1000 < m := by omega
    clear h
    go_enter Try.func37, Try.ntmps37
    go_wp2_with fail
    go_ret2
    exact ⟨rfl, rfl⟩
theorem new_ok (m : Int) (w : World) (h0 : 8 ≤ m) (h1 : m ≤ 1000) :
    Calls Try.prog 37 #[.int .i64 m] w fun e w' => e = .returned (.tuple #[.pointer (some ⟨w.heap.size, 0, none⟩), .int .i64 0]) ∧ TB w.heap.size (wn0 m) w' ∧ Below w.heap.size w w' := by
  have T0 : Hid (TB w.heap.size (wn0 m) (w.alloc (.cells #[.int .i64 m, .int .i64 (2 * m), .int .i64 65535] 109))) := heap_alloc_new w _
  have b0 : Below w.heap.size w (w.alloc (.cells #[.int .i64 m, .int .i64 (2 * m), .int .i64 65535] 109)) := (Below.refl _ _).alloc (Nat.le_refl _) _
  go_enter Try.func37, Try.ntmps37
  go_wp2_with fail
  go_ret2
  exact ⟨rfl, T0.out, b0⟩

theorem size_any (b : Nat) (t : Wn) (w : World) (h : TB b t w) :
    Calls Try.prog 70 #[.pointer (some ⟨b, 0, none⟩)] w fun e w' => e = .returned (.int .i64 t.size) ∧ w' = w := by
  have c1 := h.c1
  go_enter Try.func70, Try.ntmps70
  go_wp2_with fail
  go_ret
  exact ⟨rfl, rfl⟩
theorem tdiv_neg2 {f : Int} (h : f < 0) : f.tdiv 2 = -((-f) / 2) := by
  have e : (-f).tdiv 2 = -(f.tdiv 2) := Int.neg_tdiv _ _
  rw [Int.tdiv_eq_ediv_of_nonneg (by omega)] at e
  omega
theorem hv_tdiv {m f : Int} (h0 : 8 ≤ m) (x : Int) (hx : x = min (max (f.tdiv 2) (2 * m)) 65535) : x = hv m f := by
  rw [hx]
  unfold hv
  by_cases h : 0 ≤ f
  · rw [Int.tdiv_eq_ediv_of_nonneg h]; omega
  · have := tdiv_neg2 (f := f) (by omega)
    omega
theorem halve_any (b : Nat) (t : Wn) (f : Int) (w : World) (h : TB b t w) (ok : WOk t) (f0 : -9223372036854775808 ≤ f) (f1 : f ≤ 9223372036854775807) :
    Calls Try.prog 67 #[.pointer (some ⟨b, 0, none⟩), .int .i64 f] w fun e w' => e = .returned (.tuple #[]) ∧ TB b ⟨t.mss, t.size, hv t.mss f⟩ w' ∧ Kp [b] w w' := by
  have c0 := h.c0
  have c2 := h.c2
  have f2 := h.free 2
  have m0 := ok.m0
  have m1 := ok.m1
  have HT : Hid (∀ x, x = min (max (f.tdiv 2) (2 * t.mss)) 65535 → TB b ⟨t.mss, t.size, hv t.mss f⟩ (w.setCell ⟨b, 2, none⟩ (.int .i64 x)) ∧ Kp [b] w (w.setCell ⟨b, 2, none⟩ (.int .i64 x))) := fun x hx => ⟨by rw [hv_tdiv m0 x hx]; exact h.s2 _, (Kp.refl _ _).setCell (Or.inl (by simp)) _⟩
  generalize t.mss = m at *
  generalize t.size = s at *
  generalize t.slow = l at *
  have HW : Hid (IntKind.i64.wrap (f.tdiv 2) = f.tdiv 2) := by
    show _ = _
    rw [IntKind.wrap_i64]
    by_cases h : 0 ≤ f
    · rw [Int.tdiv_eq_ediv_of_nonneg h]; omega
    · have := tdiv_neg2 (f := f) (by omega)
      omega
  clear h ok
  go_enter Try.func67, Try.ntmps67
  go_wp2_with fail
  all_goals refine bodyPost_end (results_none rfl _ _ _) rfl ?_
  all_goals exact ⟨rfl, HT.out _ (by first | rfl | (simp only [HW.out]; done) | (rw [HW.out]))⟩

theorem lost_any (b : Nat) (t : Wn) (f : Int) (w : World) (h : TB b t w) (ok : WOk t) (f0 : -9223372036854775808 ≤ f) (f1 : f ≤ 9223372036854775807) :
    Calls Try.prog 98 #[.pointer (some ⟨b, 0, none⟩), .int .i64 f] w fun e w' => e = .returned (.tuple #[]) ∧ TB b (lost t f) w' ∧ Kp [b] w w' := by
  have HH : Hid (Calls Try.prog 67 #[.pointer (some ⟨b, 0, none⟩), .int .i64 f] w fun e w' => e = .returned (.tuple #[]) ∧ TB b ⟨t.mss, t.size, hv t.mss f⟩ w' ∧ Kp [b] w w') := halve_any b t f w h ok f0 f1
  have HE : Hid (∀ w', TB b ⟨t.mss, t.size, hv t.mss f⟩ w' → Kp [b] w w' → TB b (lost t f) (w'.setCell ⟨b, 1, none⟩ (.int .i64 (hv t.mss f))) ∧ Kp [b] w (w'.setCell ⟨b, 1, none⟩ (.int .i64 (hv t.mss f)))) := fun w' h1 h2 => ⟨h1.s1 _, h2.setCell (Or.inl (by simp)) _⟩
  generalize lost t f = t' at *
  generalize hv t.mss f = v at *
  clear h ok
  go_enter Try.func98, Try.ntmps98
  go_wp2_with fail
  refine HH.out.mono ?_; rintro e w1 ⟨rfl, h1, h2⟩
  have f1 := h1.free 1
  have d1 := h1.c1
  have d2 := h1.c2
  have HF := Lib.hid (HE.out _ h1 h2)
  clear h1 h2 HE HH
  go_wp2_with fail
  refine bodyPost_end (results_none rfl _ _ _) rfl ?_
  exact ⟨rfl, HF.out⟩
theorem sil_any (b : Nat) (t : Wn) (f : Int) (w : World) (h : TB b t w) (ok : WOk t) (f0 : -9223372036854775808 ≤ f) (f1 : f ≤ 9223372036854775807) :
    Calls Try.prog 43 #[.pointer (some ⟨b, 0, none⟩), .int .i64 f] w fun e w' => e = .returned (.tuple #[]) ∧ TB b (sil t f) w' ∧ Kp [b] w w' := by
  have HH : Hid (Calls Try.prog 67 #[.pointer (some ⟨b, 0, none⟩), .int .i64 f] w fun e w' => e = .returned (.tuple #[]) ∧ TB b ⟨t.mss, t.size, hv t.mss f⟩ w' ∧ Kp [b] w w') := halve_any b t f w h ok f0 f1
  have HE : Hid (∀ w', TB b ⟨t.mss, t.size, hv t.mss f⟩ w' → Kp [b] w w' → TB b (sil t f) (w'.setCell ⟨b, 1, none⟩ (.int .i64 t.mss)) ∧ Kp [b] w (w'.setCell ⟨b, 1, none⟩ (.int .i64 t.mss))) := fun w' h1 h2 => ⟨h1.s1 _, h2.setCell (Or.inl (by simp)) _⟩
  generalize sil t f = t' at *
  generalize hv t.mss f = v at *
  clear h ok
  go_enter Try.func43, Try.ntmps43
  go_wp2_with fail
  refine HH.out.mono ?_; rintro e w1 ⟨rfl, h1, h2⟩
  have f1 := h1.free 1
  have d0 := h1.c0
  have d1 := h1.c1
  have HF := Lib.hid (HE.out _ h1 h2)
  clear h1 h2 HE HH
  go_wp2_with fail
  refine bodyPost_end (results_none rfl _ _ _) rfl ?_
  exact ⟨rfl, HF.out⟩

set_option maxHeartbeats 1000000 in
theorem growth_any (b : Nat) (t : Wn) (n : Int) (w : World) (h : TB b t w) (ok : WOk t) (n1 : 1 ≤ n) (n2 : n ≤ 9223372036854775807) :
    Calls Try.prog 97 #[.pointer (some ⟨b, 0, none⟩), .int .i64 n] w fun e w' => e = .returned (.int .i64 (gr t n)) ∧ Below w.heap.size w w' := by
  have c0 := h.c0
  have c1 := h.c1
  have c2 := h.c2
  have T1 : TB b t w.drew := h
  have d0 := T1.c0
  have d1 := T1.c1
  have HG : Hid (gr t n = if t.size < t.slow then min n t.mss else max 1 (t.mss * t.mss / t.size)) := rfl
  obtain ⟨m0, m1, s0, s1, l0, l1⟩ := ok
  have HQ : Hid ((t.mss * t.mss).tdiv t.size = t.mss * t.mss / t.size) := Int.tdiv_eq_ediv_of_nonneg (Int.mul_nonneg (by omega) (by omega))
  obtain ⟨q0, q1⟩ := quo_bnd m0 s0
  obtain ⟨r0, r1⟩ := sq_bnd m0 m1
  have B1 : Hid (Below w.heap.size w w.drew) := (Below.refl _ _).drew
  have B2 : Hid (Below w.heap.size w w.drew.drew) := (Below.refl _ _).drew.drew
  clear h T1
  generalize gr t n = G at *
  generalize t.mss = m at *
  generalize t.size = s at *
  generalize t.slow = l at *
  have hz : (s == 0) = false := by simp; omega
  have HW1 : Hid (IntKind.i64.wrap (m * m) = m * m) := by show _ = _; rw [IntKind.wrap_i64]; omega
  have HW2 : Hid (IntKind.i64.wrap (m * m / s) = m * m / s) := by show _ = _; rw [IntKind.wrap_i64]; omega
  by_cases hlt : s < l
  · replace HG : Hid (G = min n m) := by have := HG.out; rw [if_pos hlt] at this; exact this
    go_enter Try.func97, Try.ntmps97
    go_wp2_with fail
    go_region
    all_goals go_wp2_with fail
    all_goals go_ret
    all_goals exact ⟨ret_int HG.out.symm, B1.out⟩
  · replace HG : Hid (G = max 1 (m * m / s)) := by have := HG.out; rw [if_neg hlt] at this; exact this
    go_enter Try.func97, Try.ntmps97
    go_wp2_with fail
    go_region
    all_goals go_wp2_with fail
    all_goals go_region
    all_goals go_wp2_with fail
    all_goals go_ret
    all_goals exact ⟨ret_int (by first | exact HG.out.symm | (rw [HQ.out]; exact HG.out.symm) | (rw [HW1.out, HQ.out]; exact HG.out.symm) | (rw [HW1.out, HQ.out, HW2.out]; exact HG.out.symm)), B2.out⟩

/-! Ak -/

set_option maxHeartbeats 2000000 in
theorem ack_any (b : Nat) (t : Wn) (n : Int) (w : World) (h : TB b t w) (ok : WOk t) (n0 : -9223372036854775808 ≤ n) (n2 : n ≤ 9223372036854775807) :
    Calls Try.prog 88 #[.pointer (some ⟨b, 0, none⟩), .int .i64 n] w fun e w' => e = .returned (.tuple #[]) ∧ TB b (ack t n) w' ∧ Kp [b] w w' := by
  by_cases hn : n < 1
  · have HE : Hid (TB b (ack t n) w) := by show TB b (ack t n) w; rw [ack_none hn]; exact h
    generalize ack t n = t' at *
    clear h ok
    go_enter Try.func88, Try.ntmps88
    go_wp2_with fail
    first | (refine bodyPost_ret (results_none rfl _ _ _) rfl ?_) | (refine bodyPost_end (results_none rfl _ _ _) rfl ?_)
    exact ⟨rfl, HE.out, Kp.refl _ _⟩
  · have n1 : 1 ≤ n := by omega
    have HP : Hid (∀ w', TB b t w' → Calls Try.prog 97 #[.pointer (some ⟨b, 0, none⟩), .int .i64 n] w' fun e w'' => e = .returned (.int .i64 (gr t n)) ∧ Below w'.heap.size w' w'') := fun w' h' => growth_any b t n w' h' ok n1 n2
    have c1 := h.c1
    have T1 : Hid (TB b t w.drew) := h.drew
    have HC : Hid (∀ w1, Below w.drew.heap.size w.drew w1 → w1.cell? ⟨b, 1, none⟩ = some (.int .i64 t.size) ∧ w1.frozen? ⟨b, 1, none⟩ = false) := fun w1 hb => ⟨(h.drew.keep hb).c1, (h.drew.keep hb).free 1⟩
    have HF : Hid (∀ w1, Below w.drew.heap.size w.drew w1 → ∀ x, x = min (t.size + gr t n) 65535 → TB b (ack t n) (w1.setCell ⟨b, 1, none⟩ (.int .i64 x)) ∧ Kp [b] w (w1.setCell ⟨b, 1, none⟩ (.int .i64 x))) := fun w1 hb x hx => ⟨by rw [ack_some n1, hx]; exact (h.drew.keep hb).s1 _, (Kp.ofBelow ((Below.refl _ _).drew.trans hb)).setCell (Or.inl (by simp)) _⟩
    obtain ⟨g0, g1⟩ := gr_bnd ok n1
    have m1 := ok.m1
    have s1 := ok.s1
    have s0 := ok.s0
    have m0 := ok.m0
    have d1 : w.drew.cell? ⟨b, 1, none⟩ = some (.int .i64 t.size) := c1
    clear h ok
    generalize ack t n = t' at *
    generalize gr t n = G at *
    generalize t.size = s at *
    have HW : Hid (IntKind.i64.wrap (s + G) = s + G) := by show _ = _; rw [IntKind.wrap_i64]; omega
    go_enter Try.func88, Try.ntmps88
    go_wp2_with fail
    go_region_with (go_at_call 97; refine (HP.out _ ?_).mono ?_; exact T1.out; rintro e w1 ⟨rfl, hb1⟩; obtain ⟨d3, f3⟩ := HC.out _ hb1)
    all_goals go_wp2_with fail
    all_goals refine bodyPost_end (results_none rfl _ _ _) rfl ?_
    all_goals exact ⟨rfl, HF.out _ hb1 _ (by rw [HW.out])⟩
end Go.Proofs.Ytnhcjefbiihfjaa.Cw
