/-
  A step's kind as a number.
-/
import Derived.Test.YthkmdonmbdncaaaRn
import Derived.Test.YthkmdonmbdncaaaOpen
namespace Go.Proofs.Ythkmdonmbdncaaa
open Go.RowKit
set_option linter.unusedVariables false
set_option linter.unusedSimpArgs false

set_option maxHeartbeats 400000 in
theorem of_any (cs : List Value) (s : Stp) (m : Int) (w : World) (h : StpCells cs s) (h1 : 1 ≤ m) (hm : m ≤ 1000) :
    Calls Try.prog 7 #[.agg cs.toArray, .int .i64 m] w fun e w' => e = .returned (.int .i64 (s.kind % m)) ∧ Below w.heap.size w w' := by
  have HR : Hid (∀ w', Calls Try.prog 25 #[.int .i64 s.kind, .int .i64 m] w' fun e w'' => e = .returned (.int .i64 (s.kind % m)) ∧ w'' = w') := fun w' => rest_any s.kind m w' h1 (by omega) h.k1 h.k2
  have c0 : (w.alloc (.cells cs.toArray 42)).cell? ⟨w.heap.size, 0, none⟩ = some (.int .i64 s.kind) := by
    rw [Joins.cell_of_block (heap_alloc_new w _) 0, List.getElem?_toArray]; exact h.c0
  have b0 : Below w.heap.size w (w.alloc (.cells cs.toArray 42)) := (Below.refl _ _).alloc (Nat.le_refl _) _
  generalize s.kind % m = r at *
  go_enter Try.func7, Try.ntmps7
  go_wp2_with fail
  refine (HR.out _).mono ?_; rintro e w1 ⟨rfl, rfl⟩
  go_wp2_with fail
  go_ret
  exact ⟨rfl, b0⟩
end Go.Proofs.Ythkmdonmbdncaaa
