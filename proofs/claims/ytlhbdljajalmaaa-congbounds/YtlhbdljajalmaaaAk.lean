/-
  Contract of Acked (package cong).
-/
import Derived.Test.YtlhbdljajalmaaaFn
namespace Go.Proofs.Ytlhbdljajalmaaa
open Go.RowKit
set_option linter.unusedVariables false
set_option linter.unusedSimpArgs false

set_option maxHeartbeats 2000000 in
theorem ack_any (b : Nat) (t : Wn) (n : Int) (w : World) (h : TB b t w) (ok : WOk t) (n0 : -9223372036854775808 ≤ n) (n2 : n ≤ 9223372036854775807) :
    Calls Try.prog 12 #[.pointer (some ⟨b, 0, none⟩), .int .i64 n] w fun e w' => e = .returned (.tuple #[]) ∧ TB b (ack t n) w' ∧ Kp [b] w w' := by
  by_cases hn : n < 1
  · have HE : Hid (TB b (ack t n) w) := by show TB b (ack t n) w; rw [ack_none hn]; exact h
    generalize ack t n = t' at *
    clear h ok
    go_enter Try.func12, Try.ntmps12
    go_wp2_with fail
    first | (refine bodyPost_ret (results_none rfl _ _ _) rfl ?_) | (refine bodyPost_end (results_none rfl _ _ _) rfl ?_)
    exact ⟨rfl, HE.out, Kp.refl _ _⟩
  · have n1 : 1 ≤ n := by omega
    have HP : Hid (∀ w', TB b t w' → Calls Try.prog 19 #[.pointer (some ⟨b, 0, none⟩), .int .i64 n] w' fun e w'' => e = .returned (.int .i64 (gr t n)) ∧ Below w'.heap.size w' w'') := fun w' h' => growth_any b t n w' h' ok n1 n2
    have c1 := h.c1
    have T1 : Hid (TB b t w.drew) := h.drew
    have HC : Hid (∀ w1, Below w.drew.heap.size w.drew w1 → w1.cell? ⟨b, 1, none⟩ = some (.int .i64 t.size) ∧ w1.frozen? ⟨b, 1, none⟩ = false) := fun w1 hb => ⟨(h.drew.keep hb).c1, (h.drew.keep hb).free 1⟩
    have HF : Hid (∀ w1, Below w.drew.heap.size w.drew w1 → ∀ x, x = min (t.size + gr t n) 65535 → TB b (ack t n) (w1.setCell ⟨b, 1, none⟩ (.int .i64 x)) ∧ Kp [b] w (w1.setCell ⟨b, 1, none⟩ (.int .i64 x))) := fun w1 hb x hx => ⟨by rw [ack_some n1, hx]; exact (h.drew.keep hb).s1 _, (Kp.ofBelow ((Below.refl _ _).drew.trans hb)).setCell (Or.inl (by simp)) _⟩
    obtain ⟨g0, g1⟩ := gr_bnd ok n1
    have m1 := ok.m1
    have s1 := ok.s1
    have s0 := ok.s0
    have m0 := ok.m0
    have d1 : w.drew.cell? ⟨b, 1, none⟩ = some (.int .i64 t.size) := c1
    clear h ok
    generalize ack t n = t' at *
    generalize gr t n = G at *
    generalize t.size = s at *
    have HW : Hid (IntKind.i64.wrap (s + G) = s + G) := by show _ = _; rw [IntKind.wrap_i64]; omega
    go_enter Try.func12, Try.ntmps12
    go_wp2_with fail
    go_region_with (go_at_call 19; refine (HP.out _ ?_).mono ?_; exact T1.out; rintro e w1 ⟨rfl, hb1⟩; obtain ⟨d3, f3⟩ := HC.out _ hb1)
    all_goals go_wp2_with fail
    all_goals refine bodyPost_end (results_none rfl _ _ _) rfl ?_
    all_goals exact ⟨rfl, HF.out _ hb1 _ (by rw [HW.out])⟩
end Go.Proofs.Ytlhbdljajalmaaa
