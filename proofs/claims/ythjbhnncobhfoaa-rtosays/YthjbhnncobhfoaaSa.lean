/-
  Contracts of shift and Sample (package rto).
-/
import Derived.Test.YthjbhnncobhfoaaLo
namespace Go.Proofs.Ythjbhnncobhfoaa
open Go.RowKit
set_option linter.unusedVariables false
set_option linter.unusedSimpArgs false

/-- What shift leaves. -/
def shf (t : Tm) (d : Int) : Tm := { t with mean := t.mean + d, spread := t.spread + (max d (-d) - t.spread / 4) }
set_option maxHeartbeats 1000000 in
theorem shift_any (b : Nat) (t : Tm) (d : Int) (w : World) (h : TB b t w) (ok : TOk t) (hd : -1099511627776 ≤ d ∧ d ≤ 1099511627776) (hm : 0 ≤ t.mean + d) :
    Calls Try.prog 16 #[.pointer (some ⟨b, 0, none⟩), .int .i64 d] w fun e w' => e = .returned (.tuple #[]) ∧ TB b (shf t d) w' ∧ Kp [b] w w' := by
  have c1 := h.c1
  have f1 := h.free 1
  have T1 := Lib.hid (h.s1 (t.mean + d))
  have c2 : ((w.setCell ⟨b, 1, none⟩ (.int .i64 (t.mean + d))).drew).cell? ⟨b, 2, none⟩ = some (.int .i64 t.spread) := T1.out.c2
  have f2 : ((w.setCell ⟨b, 1, none⟩ (.int .i64 (t.mean + d))).drew).frozen? ⟨b, 2, none⟩ = false := T1.out.free 2
  have HT : Hid (∀ x, x = t.spread + (max d (-d) - t.spread / 4) → TB b (shf t d) (((w.setCell ⟨b, 1, none⟩ (.int .i64 (t.mean + d))).setCell ⟨b, 2, none⟩ (.int .i64 x)).drew)) := fun x hx => by rw [hx]; exact (T1.out.s2 _).drew
  have HK : Hid (∀ v, Kp [b] w (((w.setCell ⟨b, 1, none⟩ (.int .i64 (t.mean + d))).setCell ⟨b, 2, none⟩ v).drew)) := fun v => (((Kp.refl _ _).setCell (Or.inl (by simp)) _).setCell (Or.inl (by simp)) _).drew
  obtain ⟨m0, m1, s0, s1, _, _⟩ := ok
  obtain ⟨d0, d1⟩ := hd
  generalize t.mean = m at *
  generalize t.spread = s at *
  generalize shf t d = t' at *
  clear h
  go_enter Try.func16, Try.ntmps16
  go_wp2_with fail
  generalize w.setCell ⟨b, 1, none⟩ (.int .i64 (m + d)) = W1 at *
  go_region
  all_goals go_wp2_with fail
  all_goals refine bodyPost_end (results_none rfl _ _ _) rfl ?_
  all_goals exact ⟨rfl, HT.out _ rfl, HK.out _⟩

theorem smp_first {t : Tm} (h : t.known = false) (r : Int) : smp t r = ⟨true, 8 * r, 2 * r, 0⟩ := by unfold smp; rw [h]; rfl
theorem smp_next {t : Tm} (h : t.known = true) (r : Int) : smp t r = { shf t (r - t.mean / 8) with dbl := 0 } := by
  unfold smp shf
  rw [h]; rfl

theorem sample_bad (b : Nat) (r : Int) (w : World) (hr : r < 0 ∨ 1099511627776 < r) :
    Calls Try.prog 8 #[.pointer (some ⟨b, 0, none⟩), .int .i64 r] w fun e w' => e = .returned (.int .i64 1) ∧ w' = w := by
  by_cases h0 : r < 0
  · clear hr
    go_enter Try.func8, Try.ntmps8
    go_wp2_with fail
    go_ret
    exact ⟨rfl, rfl⟩
  · have h1 : 1099511627776 < r := by omega
    clear hr
    go_enter Try.func8, Try.ntmps8
    go_wp2_with fail
    go_ret
    exact ⟨rfl, rfl⟩

set_option maxHeartbeats 1000000 in
theorem sample_ok (b : Nat) (t : Tm) (r : Int) (w : World) (h : TB b t w) (ok : TOk t) (hr : 0 ≤ r ∧ r ≤ 1099511627776) :
    Calls Try.prog 8 #[.pointer (some ⟨b, 0, none⟩), .int .i64 r] w fun e w' => e = .returned (.int .i64 0) ∧ TB b (smp t r) w' ∧ Kp [b] w w' := by
  have c0 := h.c0
  have c1 := h.c1
  have f0 := h.free 0
  obtain ⟨r0, r1⟩ := hr
  have h0 : ¬ r < 0 := by omega
  have h1 : ¬ 1099511627776 < r := by omega
  have m0 := ok.m0
  have m1 := ok.m1
  cases hk : t.known with
  | false =>
    rw [hk] at c0
    have T0 := Lib.hid h
    have T1 := Lib.hid (h.s0 true)
    have T2 := Lib.hid (T1.out.s1 (8 * r))
    have T3 := Lib.hid (T2.out.s2 (2 * r))
    have T4 := Lib.hid (T3.out.s3 0)
    have HS := Lib.hid (smp_first hk r)
    have f1 := T1.out.free 1
    have f2 := T2.out.free 2
    have f3 := T3.out.free 3
    have d1 := T1.out.c1
    have d2 := T2.out.c2
    have d3 := T3.out.c3
    have K4 : Hid (Kp [b] w ((((w.setCell ⟨b, 0, none⟩ (.bool true)).setCell ⟨b, 1, none⟩ (.int .i64 (8 * r))).setCell ⟨b, 2, none⟩ (.int .i64 (2 * r))).setCell ⟨b, 3, none⟩ (.int .i64 0))) := ((((Kp.refl _ _).setCell (Or.inl (by simp)) _).setCell (Or.inl (by simp)) _).setCell (Or.inl (by simp)) _).setCell (Or.inl (by simp)) _
    clear h ok
    go_enter Try.func8, Try.ntmps8
    go_wp2_with fail
    go_ret
    refine ⟨rfl, ?_, K4.out⟩
    rw [HS.out]
    exact T4.out
  | true =>
    rw [hk] at c0
    have HS := Lib.hid (smp_next hk r)
    have HSh : Hid (Calls Try.prog 16 #[.pointer (some ⟨b, 0, none⟩), .int .i64 (r - t.mean / 8)] w fun e w' => e = .returned (.tuple #[]) ∧ TB b (shf t (r - t.mean / 8)) w' ∧ Kp [b] w w') := shift_any b t (r - t.mean / 8) w h ok (by omega) (by omega)
    have HEnd : Hid (∀ w', TB b (shf t (r - t.mean / 8)) w' → Kp [b] w w' → TB b (smp t r) (w'.setCell ⟨b, 3, none⟩ (.int .i64 0)) ∧ Kp [b] w (w'.setCell ⟨b, 3, none⟩ (.int .i64 0))) := fun w' h1 h2 => ⟨by rw [HS.out]; exact h1.s3 0, h2.setCell (Or.inl (by simp)) _⟩
    generalize t.mean = m at *
    generalize smp t r = t' at *
    clear h ok HS
    go_enter Try.func8, Try.ntmps8
    go_wp2_with fail
    refine HSh.out.mono ?_; rintro e w1 ⟨rfl, h1, h2⟩
    have f3 := h1.free 3
    have d3 := h1.c3
    have HF := Lib.hid (HEnd.out _ h1 h2)
    clear h1 h2
    generalize shf t (r - m / 8) = t'' at *
    go_wp2_with fail
    go_ret
    exact ⟨rfl, HF.out⟩
end Go.Proofs.Ythjbhnncobhfoaa
