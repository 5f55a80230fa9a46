/-
  The document's own timer: contract of Sample.
-/
import Derived.Test.YthjbhnncobhfoaaRv
namespace Go.Proofs.Ythjbhnncobhfoaa
open Go.RowKit
set_option linter.unusedVariables false
set_option linter.unusedSimpArgs false

theorem rsample_bad (b : Nat) (r : Int) (w : World) (hr : r < 0 ∨ 1099511627776 < r) :
    Calls Try.prog 10 #[.pointer (some ⟨b, 0, none⟩), .int .i64 r] w fun e w' => e = .returned (.int .i64 1) ∧ w' = w := by
  have HO : Hid (∀ w', Calls Try.prog 17 #[.int .i64 r, .int .i64 0, .int .i64 1099511627776] w' fun e w'' => e = .returned (.bool true) ∧ w'' = w') := fun w' => outside_t r 0 1099511627776 w' hr
  clear hr
  go_enter Try.func10, Try.ntmps10
  go_wp2_with fail
  refine (HO.out _).mono ?_; rintro e w1 ⟨rfl, rfl⟩
  go_wp2_with fail
  go_ret
  exact ⟨rfl, rfl⟩

set_option maxHeartbeats 2000000 in
theorem rsample_ok (b : Nat) (t : Tm) (r : Int) (w : World) (h : RB b t w) (ok : TOk t) (hr : 0 ≤ r ∧ r ≤ 1099511627776) :
    Calls Try.prog 10 #[.pointer (some ⟨b, 0, none⟩), .int .i64 r] w fun e w' => e = .returned (.int .i64 0) ∧ RB b (smp t r) w' ∧ Kp [b] w w' := by
  have HO : Hid (∀ w', Calls Try.prog 17 #[.int .i64 r, .int .i64 0, .int .i64 1099511627776] w' fun e w'' => e = .returned (.bool false) ∧ w'' = w') := fun w' => outside_f r 0 1099511627776 w' (by omega)
  obtain ⟨r0, r1⟩ := hr
  have c0 := h.c0
  have c2 := h.c2
  have f2 := h.free 2
  have R1 : RB b { t with dbl := 0 } (w.setCell ⟨b, 2, none⟩ (.int .i64 0)) := Joins.block_setCell h _
  have e0 := R1.c0
  have g0 := R1.free 0
  have e1 := R1.c1
  have g1 := R1.free 1
  have K1 : Kp [b] w (w.setCell ⟨b, 2, none⟩ (.int .i64 0)) := (Kp.refl _ _).setCell (Or.inl (by simp)) _
  cases hk : t.known with
  | false =>
    rw [hk] at c0 e0
    replace e0 : (w.setCell ⟨b, 2, none⟩ (.int .i64 0)).cell? ⟨b, 0, none⟩ = some (.int .i64 (-1)) := e0
    have R2 : RB b ⟨true, 8 * r, t.spread, 0⟩ ((w.setCell ⟨b, 2, none⟩ (.int .i64 0)).setCell ⟨b, 0, none⟩ (.int .i64 (8 * r))) := Joins.block_setCell R1 _
    have R3 : RB b ⟨true, 8 * r, 2 * r, 0⟩ (((w.setCell ⟨b, 2, none⟩ (.int .i64 0)).setCell ⟨b, 0, none⟩ (.int .i64 (8 * r))).setCell ⟨b, 1, none⟩ (.int .i64 (2 * r))) := Joins.block_setCell R2 _
    have x1 := R2.c1
    have y1 := R2.free 1
    have K3 := Lib.hid ((K1.setCell (p := ⟨b, 0, none⟩) (Or.inl (by simp)) (.int .i64 (8 * r))).setCell (p := ⟨b, 1, none⟩) (Or.inl (by simp)) (.int .i64 (2 * r)))
    have HS := Lib.hid (smp_first hk r)
    have R3 := Lib.hid R3
    clear h R1 R2 K1 ok
    go_enter Try.func10, Try.ntmps10
    go_wp2_with fail
    refine (HO.out _).mono ?_; rintro e w1 ⟨rfl, rfl⟩
    go_wp2_with fail
    go_ret
    refine ⟨rfl, ?_, K3.out⟩
    rw [HS.out]
    exact R3.out
  | true =>
    obtain ⟨m0, m1, s0, s1, _, _⟩ := ok
    rw [hk] at c0 e0
    replace e0 : (w.setCell ⟨b, 2, none⟩ (.int .i64 0)).cell? ⟨b, 0, none⟩ = some (.int .i64 t.mean) := e0
    have H8 : Hid (∀ w', Calls Try.prog 18 #[.int .i64 t.mean, .int .i64 8] w' fun e w'' => e = .returned (.int .i64 (t.mean / 8)) ∧ w'' = w') := fun w' => down_any t.mean 8 w' m0 (by omega) (by omega) (by omega)
    have H4 : Hid (∀ w', Calls Try.prog 18 #[.int .i64 t.spread, .int .i64 4] w' fun e w'' => e = .returned (.int .i64 (t.spread / 4)) ∧ w'' = w') := fun w' => down_any t.spread 4 w' s0 (by omega) (by omega) (by omega)
    have R2 : RB b ⟨true, t.mean + (r - t.mean / 8), t.spread, 0⟩ ((w.setCell ⟨b, 2, none⟩ (.int .i64 0)).setCell ⟨b, 0, none⟩ (.int .i64 (t.mean + (r - t.mean / 8)))) := Joins.block_setCell R1 _
    have x1 := R2.c1
    have y1 := R2.free 1
    have K2 := K1.setCell (p := ⟨b, 0, none⟩) (Or.inl (by simp)) (.int .i64 (t.mean + (r - t.mean / 8)))
    have HEnd : Hid (∀ x, x = t.spread + (max (r - t.mean / 8) (-(r - t.mean / 8)) - t.spread / 4) → RB b (smp t r) (((w.setCell ⟨b, 2, none⟩ (.int .i64 0)).setCell ⟨b, 0, none⟩ (.int .i64 (t.mean + (r - t.mean / 8)))).setCell ⟨b, 1, none⟩ (.int .i64 x)) ∧ Kp [b] w (((w.setCell ⟨b, 2, none⟩ (.int .i64 0)).setCell ⟨b, 0, none⟩ (.int .i64 (t.mean + (r - t.mean / 8)))).setCell ⟨b, 1, none⟩ (.int .i64 x))) := fun x hx => by
      have e : smp t r = ⟨true, t.mean + (r - t.mean / 8), x, 0⟩ := by rw [smp_next hk, hx]; unfold shf; rw [hk]
      rw [e]
      exact ⟨Joins.block_setCell R2 _, K2.setCell (Or.inl (by simp)) _⟩
    clear h R1 R2 K1 K2
    generalize t.mean = m at *
    generalize t.spread = s at *
    generalize smp t r = t' at *
    go_enter Try.func10, Try.ntmps10
    go_wp2_with fail
    refine (HO.out _).mono ?_; rintro e w1 ⟨rfl, rfl⟩
    go_wp2_with fail
    refine (H8.out _).mono ?_; rintro e w1 ⟨rfl, rfl⟩
    have hd0 : -1099511627776 ≤ r - m / 8 := by omega
    have hd1 : r - m / 8 ≤ 1099511627776 := by omega
    have hd2 : 0 ≤ m + (r - m / 8) := by omega
    have hd3 : m + (r - m / 8) ≤ 9000000000000 := by omega
    go_wp2_with fail
    generalize r - m / 8 = d at *
    generalize (w1.setCell ⟨b, 2, none⟩ (.int .i64 0)).setCell ⟨b, 0, none⟩ (.int .i64 (m + d)) = W2 at *
    have w1e : Hid (IntKind.i64.wrap (-d) = -d) := by show _ = _; rw [IntKind.wrap_i64]; omega
    have w2e : Hid (IntKind.i64.wrap (max d (-d) - s / 4) = max d (-d) - s / 4) := by show _ = _; rw [IntKind.wrap_i64]; omega
    have w3e : Hid (IntKind.i64.wrap (s + (max d (-d) - s / 4)) = s + (max d (-d) - s / 4)) := by show _ = _; rw [IntKind.wrap_i64]; omega
    have HE3 : Hid (∀ x, x = s + (max d (-d) - s / 4) → RB b t' ((W2.setCell ⟨b, 1, none⟩ (.int .i64 x)).drew) ∧ Kp [b] w1 ((W2.setCell ⟨b, 1, none⟩ (.int .i64 x)).drew)) := fun x hx => ⟨(HEnd.out x hx).1.drew, (HEnd.out x hx).2.drew⟩
    go_region_with (go_at_call 18; refine (H4.out _).mono ?_; rintro e w2 ⟨rfl, rfl⟩)
    all_goals go_wp2_with fail
    all_goals go_ret
    all_goals exact ⟨rfl, HE3.out _ (by rw [w1e.out, w2e.out, w3e.out])⟩
end Go.Proofs.Ythjbhnncobhfoaa
