/-
  The small functions: contracts of New, Late, plain, Value, shift, Sample (package rto).
-/
import Derived.Test.YthjbhnncobhfoaaTm
namespace Go.Proofs.Ythjbhnncobhfoaa
open Go.RowKit
set_option linter.unusedVariables false
set_option linter.unusedSimpArgs false

theorem new_any (w : World) :
    Calls Try.prog 6 #[] w fun e w' => e = .returned (.pointer (some ⟨w.heap.size, 0, none⟩)) ∧ TB w.heap.size tm0 w' ∧ Below w.heap.size w w' := by
  have T0 : Hid (TB w.heap.size tm0 (w.alloc (.cells #[.bool false, .int .i64 0, .int .i64 0, .int .i64 0] 50))) := heap_alloc_new w _
  have b0 : Below w.heap.size w (w.alloc (.cells #[.bool false, .int .i64 0, .int .i64 0, .int .i64 0] 50)) := (Below.refl _ _).alloc (Nat.le_refl _) _
  go_enter Try.func6, Try.ntmps6
  go_wp2_with fail
  go_ret
  exact ⟨rfl, T0.out, b0⟩

theorem late_any (b : Nat) (t : Tm) (w : World) (h : TB b t w) (ok : TOk t) :
    Calls Try.prog 11 #[.pointer (some ⟨b, 0, none⟩)] w fun e w' => e = .returned (.tuple #[]) ∧ TB b (late t) w' ∧ Kp [b] w w' := by
  have c3 := h.c3
  have f3 := h.free 3
  have hd0 := ok.d0
  have hd1 := ok.d1
  have HT : Hid (∀ x, x = min (t.dbl + 1) 6 → TB b (late t) (w.setCell ⟨b, 3, none⟩ (.int .i64 x))) := fun x hx => by rw [hx]; exact h.s3 _
  have HK : Hid (∀ v, Kp [b] w (w.setCell ⟨b, 3, none⟩ v)) := fun v => (Kp.refl _ _).setCell (Or.inl (by simp)) _
  generalize t.dbl = d at *
  generalize late t = t' at *
  clear h ok
  go_enter Try.func11, Try.ntmps11
  go_wp2_with fail
  all_goals refine bodyPost_end (results_none rfl _ _ _) rfl ?_
  all_goals exact ⟨rfl, HT.out _ (by omega), HK.out _⟩

theorem plain_any (b : Nat) (t : Tm) (w : World) (h : TB b t w) (ok : TOk t) :
    Calls Try.prog 19 #[.pointer (some ⟨b, 0, none⟩)] w fun e w' => e = .returned (.int .i64 (base t)) ∧ Below w.heap.size w w' := by
  have c0 := h.c0
  have c1 := h.c1
  have c2 := h.c2
  obtain ⟨m0, m1, s0, s1, _, _⟩ := ok
  have HB : Hid (base t = if t.known then t.mean / 8 + max 1 t.spread else 3) := rfl
  have hq : Hid (t.mean.tdiv 8 = t.mean / 8) := Int.tdiv_eq_ediv_of_nonneg m0
  generalize base t = B at *
  cases hk : t.known with
  | false =>
    rw [hk] at c0 HB
    go_enter Try.func19, Try.ntmps19
    go_wp2_with fail
    go_ret
    exact ⟨ret_int HB.out.symm, Below.refl _ _⟩
  | true =>
    rw [hk] at c0 HB
    go_enter Try.func19, Try.ntmps19
    go_wp2_with fail
    go_region
    all_goals go_wp2_with fail
    all_goals go_ret
    all_goals exact ⟨ret_int (by rw [HB.out]; simp), (Below.refl _ _).drew⟩

end Go.Proofs.Ythjbhnncobhfoaa
