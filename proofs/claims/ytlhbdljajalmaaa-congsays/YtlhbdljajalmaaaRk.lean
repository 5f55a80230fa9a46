/-
  The document's own window: contract of Acked.
-/
import Derived.Test.YtlhbdljajalmaaaRn
namespace Go.Proofs.Ytlhbdljajalmaaa
open Go.RowKit
set_option linter.unusedVariables false
set_option linter.unusedSimpArgs false

set_option maxHeartbeats 4000000 in
theorem rack_any (b : Nat) (t : Wn) (n : Int) (w : World) (h : RB b t w) (ok : WOk t) (n0 : -9223372036854775808 ≤ n) (n2 : n ≤ 9223372036854775807) :
    Calls Try.prog 13 #[.pointer (some ⟨b, 0, none⟩), .int .i64 n] w fun e w' => e = .returned (.tuple #[]) ∧ RB b (ack t n) w' ∧ Kp [b] w w' := by
  by_cases hn : n < 1
  · have HE : Hid (RB b (ack t n) w) := by show RB b (ack t n) w; rw [ack_none hn]; exact h
    generalize ack t n = t' at *
    clear h ok
    go_enter Try.func13, Try.ntmps13
    go_wp2_with fail
    first | (refine bodyPost_ret (results_none rfl _ _ _) rfl ?_) | (refine bodyPost_end (results_none rfl _ _ _) rfl ?_)
    exact ⟨rfl, HE.out, Kp.refl _ _⟩
  · have n1 : 1 ≤ n := by omega
    have c0 := h.c0
    have c1 := h.c1
    have c2 := h.c2
    have g1 := h.free 1
    have HG : Hid (gr t n = if t.size < t.slow then min n t.mss else max 1 (t.mss * t.mss / t.size)) := rfl
    have H1 : Hid (∀ W x, RB b t W → RB b ⟨t.mss, x, t.slow⟩ (W.setCell ⟨b, 1, none⟩ (.int .i64 x))) := fun W x h => h.s1 x
    have T1 : Hid (RB b t w.drew) := h.drew
    have T2 : Hid (RB b t w.drew.drew) := h.drew.drew
    have HF : Hid (∀ W y x, RB b ⟨t.mss, y, t.slow⟩ W → Kp [b] w W → x = min (t.size + gr t n) 65535 → RB b (ack t n) (W.setCell ⟨b, 1, none⟩ (.int .i64 x)) ∧ Kp [b] w (W.setCell ⟨b, 1, none⟩ (.int .i64 x))) := fun W y x hW hk hx => ⟨by rw [ack_some n1, hx]; exact hW.s1 _, hk.setCell (Or.inl (by simp)) _⟩
    obtain ⟨g0, gb⟩ := gr_bnd ok n1
    obtain ⟨m0, m1, s0, s1, l0, l1⟩ := ok
    have HQ : Hid ((t.mss * t.mss).tdiv t.size = t.mss * t.mss / t.size) := Int.tdiv_eq_ediv_of_nonneg (Int.mul_nonneg (by omega) (by omega))
    obtain ⟨q0, q1⟩ := quo_bnd m0 s0
    obtain ⟨r0, r1⟩ := sq_bnd m0 m1
    have b1 := T1.out.c0
    have b2 := T1.out.c1
    have b3 := T1.out.c2
    have b4 := T1.out.free 1
    have K1 : Hid (Kp [b] w w.drew) := (Kp.refl _ _).drew
    clear h T2
    generalize ack t n = t' at *
    generalize hG0 : gr t n = G at *
    clear hG0
    have HW0 : Hid (IntKind.i64.wrap (t.size + G) = t.size + G) := by show _ = _; rw [IntKind.wrap_i64]; omega
    have HW1 : Hid (IntKind.i64.wrap (t.mss * t.mss) = t.mss * t.mss) := by show _ = _; rw [IntKind.wrap_i64]; omega
    have HW2 : Hid (IntKind.i64.wrap (t.mss * t.mss / t.size) = t.mss * t.mss / t.size) := by show _ = _; rw [IntKind.wrap_i64]; omega
    have hz : (t.size == 0) = false := by simp; omega
    have HM : Hid (RB b t w.drew → RB b ⟨t.mss, t.size + G, t.slow⟩ (w.drew.setCell ⟨b, 1, none⟩ (.int .i64 (t.size + G))).drew) := fun h => (h.s1 _).drew
    go_enter Try.func13, Try.ntmps13
    go_wp2_with fail
    by_cases hlt : t.size < t.slow
    · replace HG : Hid (G = min n t.mss) := by have := HG.out; rw [if_pos hlt] at this; exact this
      go_region
      go_wp2_with fail
      have T2 : RB b ⟨t.mss, t.size + G, t.slow⟩ (w.drew.setCell ⟨b, 1, none⟩ (.int .i64 (t.size + G))).drew := HM.out T1.out
      have e1 : (w.drew.setCell ⟨b, 1, none⟩ (.int .i64 (t.size + G))).drew.cell? ⟨b, 1, none⟩ = some (.int .i64 (t.size + G)) := T2.c1
      have e2 := T2.free 1
      have HF2 := Lib.hid (HF.out _ _ (min (t.size + G) 65535) T2 ((K1.out.setCell (Or.inl (by simp)) _).drew) rfl)
      clear T2
      generalize w.drew = W1 at *
      go_region
      all_goals (
        rw [show min n t.mss = G from HG.out.symm]
        try rw [HW0.out]
        generalize (W1.setCell ⟨b, 1, none⟩ (.int .i64 (t.size + G))).drew = W2 at *
        go_wp2_with fail
        refine bodyPost_end (results_none rfl _ _ _) rfl ?_
        exact ⟨rfl, HF2.out⟩)
    · replace HG : Hid (G = max 1 (t.mss * t.mss / t.size)) := by have := HG.out; rw [if_neg hlt] at this; exact this
      go_region
      go_wp2_with fail
      have T2 : RB b ⟨t.mss, t.size + G, t.slow⟩ (w.drew.setCell ⟨b, 1, none⟩ (.int .i64 (t.size + G))).drew := HM.out T1.out
      have e1 : (w.drew.setCell ⟨b, 1, none⟩ (.int .i64 (t.size + G))).drew.cell? ⟨b, 1, none⟩ = some (.int .i64 (t.size + G)) := T2.c1
      have e2 := T2.free 1
      have HF2 := Lib.hid (HF.out _ _ (min (t.size + G) 65535) T2 ((K1.out.setCell (Or.inl (by simp)) _).drew) rfl)
      clear T2
      generalize w.drew = W1 at *
      go_region
      all_goals (
        try rw [HW1.out]
        try rw [HQ.out]
        try rw [HW2.out]
        rw [show max 1 (t.mss * t.mss / t.size) = G from HG.out.symm]
        try rw [HW0.out]
        generalize (W1.setCell ⟨b, 1, none⟩ (.int .i64 (t.size + G))).drew = W2 at *
        go_wp2_with fail
        refine bodyPost_end (results_none rfl _ _ _) rfl ?_
        exact ⟨rfl, HF2.out⟩)
end Go.Proofs.Ytlhbdljajalmaaa
