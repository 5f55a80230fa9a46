/-
  Contracts of package cong.
-/
import Derived.Test.YtlhbdljajalmaaaWn
namespace Go.Proofs.Ytlhbdljajalmaaa
open Go.RowKit
set_option linter.unusedVariables false
set_option linter.unusedSimpArgs false

theorem new_bad (m : Int) (w : World) (h : m < 8 ∨ 1000 < m) :
    Calls Try.prog 5 #[.int .i64 m] w fun e w' => e = .returned (.tuple #[.pointer none, .int .i64 1]) ∧ w' = w := by
  by_cases h0 : m < 8
  · clear h
    go_enter Try.func5, Try.ntmps5
    go_wp2_with fail
    go_ret2
    exact ⟨rfl, rfl⟩
  · have h1 : 1000 < m := by omega
    clear h
    go_enter Try.func5, Try.ntmps5
    go_wp2_with fail
    go_ret2
    exact ⟨rfl, rfl⟩
theorem new_ok (m : Int) (w : World) (h0 : 8 ≤ m) (h1 : m ≤ 1000) :
    Calls Try.prog 5 #[.int .i64 m] w fun e w' => e = .returned (.tuple #[.pointer (some ⟨w.heap.size, 0, none⟩), .int .i64 0]) ∧ TB w.heap.size (wn0 m) w' ∧ Below w.heap.size w w' := by
  have T0 : Hid (TB w.heap.size (wn0 m) (w.alloc (.cells #[.int .i64 m, .int .i64 (2 * m), .int .i64 65535] 52))) := heap_alloc_new w _
  have b0 : Below w.heap.size w (w.alloc (.cells #[.int .i64 m, .int .i64 (2 * m), .int .i64 65535] 52)) := (Below.refl _ _).alloc (Nat.le_refl _) _
  go_enter Try.func5, Try.ntmps5
  go_wp2_with fail
  go_ret2
  exact ⟨rfl, T0.out, b0⟩

theorem size_any (b : Nat) (t : Wn) (w : World) (h : TB b t w) :
    Calls Try.prog 14 #[.pointer (some ⟨b, 0, none⟩)] w fun e w' => e = .returned (.int .i64 t.size) ∧ w' = w := by
  have c1 := h.c1
  go_enter Try.func14, Try.ntmps14
  go_wp2_with fail
  go_ret
  exact ⟨rfl, rfl⟩
theorem slow_any (b : Nat) (t : Wn) (w : World) (h : TB b t w) :
    Calls Try.prog 15 #[.pointer (some ⟨b, 0, none⟩)] w fun e w' => e = .returned (.int .i64 t.slow) ∧ w' = w := by
  have c2 := h.c2
  go_enter Try.func15, Try.ntmps15
  go_wp2_with fail
  go_ret
  exact ⟨rfl, rfl⟩

theorem tdiv_neg2 {f : Int} (h : f < 0) : f.tdiv 2 = -((-f) / 2) := by
  have e : (-f).tdiv 2 = -(f.tdiv 2) := Int.neg_tdiv _ _
  rw [Int.tdiv_eq_ediv_of_nonneg (by omega)] at e
  omega
theorem hv_tdiv {m f : Int} (h0 : 8 ≤ m) (x : Int) (hx : x = min (max (f.tdiv 2) (2 * m)) 65535) : x = hv m f := by
  rw [hx]
  unfold hv
  by_cases h : 0 ≤ f
  · rw [Int.tdiv_eq_ediv_of_nonneg h]; omega
  · have := tdiv_neg2 (f := f) (by omega)
    omega
theorem halve_any (b : Nat) (t : Wn) (f : Int) (w : World) (h : TB b t w) (ok : WOk t) (f0 : -9223372036854775808 ≤ f) (f1 : f ≤ 9223372036854775807) :
    Calls Try.prog 18 #[.pointer (some ⟨b, 0, none⟩), .int .i64 f] w fun e w' => e = .returned (.tuple #[]) ∧ TB b ⟨t.mss, t.size, hv t.mss f⟩ w' ∧ Kp [b] w w' := by
  have c0 := h.c0
  have c2 := h.c2
  have f2 := h.free 2
  have m0 := ok.m0
  have m1 := ok.m1
  have HT : Hid (∀ x, x = min (max (f.tdiv 2) (2 * t.mss)) 65535 → TB b ⟨t.mss, t.size, hv t.mss f⟩ (w.setCell ⟨b, 2, none⟩ (.int .i64 x)) ∧ Kp [b] w (w.setCell ⟨b, 2, none⟩ (.int .i64 x))) := fun x hx => ⟨by rw [hv_tdiv m0 x hx]; exact h.s2 _, (Kp.refl _ _).setCell (Or.inl (by simp)) _⟩
  generalize t.mss = m at *
  generalize t.size = s at *
  generalize t.slow = l at *
  have HW : Hid (IntKind.i64.wrap (f.tdiv 2) = f.tdiv 2) := by
    show _ = _
    rw [IntKind.wrap_i64]
    by_cases h : 0 ≤ f
    · rw [Int.tdiv_eq_ediv_of_nonneg h]; omega
    · have := tdiv_neg2 (f := f) (by omega)
      omega
  clear h ok
  go_enter Try.func18, Try.ntmps18
  go_wp2_with fail
  all_goals refine bodyPost_end (results_none rfl _ _ _) rfl ?_
  all_goals exact ⟨rfl, HT.out _ (by first | rfl | (simp only [HW.out]; done) | (rw [HW.out]))⟩

theorem lost_any (b : Nat) (t : Wn) (f : Int) (w : World) (h : TB b t w) (ok : WOk t) (f0 : -9223372036854775808 ≤ f) (f1 : f ≤ 9223372036854775807) :
    Calls Try.prog 8 #[.pointer (some ⟨b, 0, none⟩), .int .i64 f] w fun e w' => e = .returned (.tuple #[]) ∧ TB b (lost t f) w' ∧ Kp [b] w w' := by
  have HH : Hid (Calls Try.prog 18 #[.pointer (some ⟨b, 0, none⟩), .int .i64 f] w fun e w' => e = .returned (.tuple #[]) ∧ TB b ⟨t.mss, t.size, hv t.mss f⟩ w' ∧ Kp [b] w w') := halve_any b t f w h ok f0 f1
  have HE : Hid (∀ w', TB b ⟨t.mss, t.size, hv t.mss f⟩ w' → Kp [b] w w' → TB b (lost t f) (w'.setCell ⟨b, 1, none⟩ (.int .i64 (hv t.mss f))) ∧ Kp [b] w (w'.setCell ⟨b, 1, none⟩ (.int .i64 (hv t.mss f)))) := fun w' h1 h2 => ⟨h1.s1 _, h2.setCell (Or.inl (by simp)) _⟩
  generalize lost t f = t' at *
  generalize hv t.mss f = v at *
  clear h ok
  go_enter Try.func8, Try.ntmps8
  go_wp2_with fail
  refine HH.out.mono ?_; rintro e w1 ⟨rfl, h1, h2⟩
  have f1 := h1.free 1
  have d1 := h1.c1
  have d2 := h1.c2
  have HF := Lib.hid (HE.out _ h1 h2)
  clear h1 h2 HE HH
  go_wp2_with fail
  refine bodyPost_end (results_none rfl _ _ _) rfl ?_
  exact ⟨rfl, HF.out⟩
theorem sil_any (b : Nat) (t : Wn) (f : Int) (w : World) (h : TB b t w) (ok : WOk t) (f0 : -9223372036854775808 ≤ f) (f1 : f ≤ 9223372036854775807) :
    Calls Try.prog 10 #[.pointer (some ⟨b, 0, none⟩), .int .i64 f] w fun e w' => e = .returned (.tuple #[]) ∧ TB b (sil t f) w' ∧ Kp [b] w w' := by
  have HH : Hid (Calls Try.prog 18 #[.pointer (some ⟨b, 0, none⟩), .int .i64 f] w fun e w' => e = .returned (.tuple #[]) ∧ TB b ⟨t.mss, t.size, hv t.mss f⟩ w' ∧ Kp [b] w w') := halve_any b t f w h ok f0 f1
  have HE : Hid (∀ w', TB b ⟨t.mss, t.size, hv t.mss f⟩ w' → Kp [b] w w' → TB b (sil t f) (w'.setCell ⟨b, 1, none⟩ (.int .i64 t.mss)) ∧ Kp [b] w (w'.setCell ⟨b, 1, none⟩ (.int .i64 t.mss))) := fun w' h1 h2 => ⟨h1.s1 _, h2.setCell (Or.inl (by simp)) _⟩
  generalize sil t f = t' at *
  generalize hv t.mss f = v at *
  clear h ok
  go_enter Try.func10, Try.ntmps10
  go_wp2_with fail
  refine HH.out.mono ?_; rintro e w1 ⟨rfl, h1, h2⟩
  have f1 := h1.free 1
  have d0 := h1.c0
  have d1 := h1.c1
  have HF := Lib.hid (HE.out _ h1 h2)
  clear h1 h2 HE HH
  go_wp2_with fail
  refine bodyPost_end (results_none rfl _ _ _) rfl ?_
  exact ⟨rfl, HF.out⟩

set_option maxHeartbeats 1000000 in
theorem growth_any (b : Nat) (t : Wn) (n : Int) (w : World) (h : TB b t w) (ok : WOk t) (n1 : 1 ≤ n) (n2 : n ≤ 9223372036854775807) :
    Calls Try.prog 19 #[.pointer (some ⟨b, 0, none⟩), .int .i64 n] w fun e w' => e = .returned (.int .i64 (gr t n)) ∧ Below w.heap.size w w' := by
  have c0 := h.c0
  have c1 := h.c1
  have c2 := h.c2
  have T1 : TB b t w.drew := h
  have d0 := T1.c0
  have d1 := T1.c1
  have HG : Hid (gr t n = if t.size < t.slow then min n t.mss else max 1 (t.mss * t.mss / t.size)) := rfl
  obtain ⟨m0, m1, s0, s1, l0, l1⟩ := ok
  have HQ : Hid ((t.mss * t.mss).tdiv t.size = t.mss * t.mss / t.size) := Int.tdiv_eq_ediv_of_nonneg (Int.mul_nonneg (by omega) (by omega))
  obtain ⟨q0, q1⟩ := quo_bnd m0 s0
  obtain ⟨r0, r1⟩ := sq_bnd m0 m1
  have B1 : Hid (Below w.heap.size w w.drew) := (Below.refl _ _).drew
  have B2 : Hid (Below w.heap.size w w.drew.drew) := (Below.refl _ _).drew.drew
  clear h T1
  generalize gr t n = G at *
  generalize t.mss = m at *
  generalize t.size = s at *
  generalize t.slow = l at *
  have hz : (s == 0) = false := by simp; omega
  have HW1 : Hid (IntKind.i64.wrap (m * m) = m * m) := by show _ = _; rw [IntKind.wrap_i64]; omega
  have HW2 : Hid (IntKind.i64.wrap (m * m / s) = m * m / s) := by show _ = _; rw [IntKind.wrap_i64]; omega
  by_cases hlt : s < l
  · replace HG : Hid (G = min n m) := by have := HG.out; rw [if_pos hlt] at this; exact this
    go_enter Try.func19, Try.ntmps19
    go_wp2_with fail
    go_region
    all_goals go_wp2_with fail
    all_goals go_ret
    all_goals exact ⟨ret_int HG.out.symm, B1.out⟩
  · replace HG : Hid (G = max 1 (m * m / s)) := by have := HG.out; rw [if_neg hlt] at this; exact this
    go_enter Try.func19, Try.ntmps19
    go_wp2_with fail
    go_region
    all_goals go_wp2_with fail
    all_goals go_region
    all_goals go_wp2_with fail
    all_goals go_ret
    all_goals exact ⟨ret_int (by first | exact HG.out.symm | (rw [HQ.out]; exact HG.out.symm) | (rw [HW1.out, HQ.out]; exact HG.out.symm) | (rw [HW1.out, HQ.out, HW2.out]; exact HG.out.symm)), B2.out⟩
end Go.Proofs.Ytlhbdljajalmaaa
