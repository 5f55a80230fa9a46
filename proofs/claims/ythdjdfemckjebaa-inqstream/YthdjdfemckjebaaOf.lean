/-
  A step's kind as a number.
-/
import Derived.Test.YthdjdfemckjebaaQb
import Derived.Test.YthdjdfemckjebaaOpen
namespace Go.Proofs.Ythdjdfemckjebaa
open Go.RowKit
set_option linter.unusedVariables false
set_option linter.unusedSimpArgs false

theorem emod_of_tmod (n m : Int) (h1 : 1 ≤ m) : n % m = if n.tmod m < 0 then n.tmod m + m else n.tmod m := by
  have e : n = n.tmod m + m * n.tdiv m := (Int.tmod_add_mul_tdiv n m).symm
  have l1 := Int.tmod_lt_of_pos n (show 0 < m by omega)
  have l2 := Int.lt_tmod_of_pos n (show 0 < m by omega)
  have e2 : n % m = (n.tmod m) % m := by
    conv => lhs; rw [e]
    rw [Int.add_mul_emod_self_left]
  rw [e2]
  split
  · rw [← Int.add_emod_right, Int.emod_eq_of_lt (by omega) (by omega)]
  · rw [Int.emod_eq_of_lt (by omega) (by omega)]
theorem rest_any (n m : Int) (w : World) (h1 : 1 ≤ m) (hm : m ≤ 9223372036854775807) (hn : -9223372036854775808 ≤ n) (hn2 : n ≤ 9223372036854775807) :
    Calls Try.prog 23 #[.int .i64 n, .int .i64 m] w fun e w' => e = .returned (.int .i64 (n % m)) ∧ w' = w := by
  have hz : (m == 0) = false := by simp; omega
  have HE : Hid (n % m = if n.tmod m < 0 then n.tmod m + m else n.tmod m) := emod_of_tmod n m h1
  have l2 := Int.lt_tmod_of_pos n (show 0 < m by omega)
  by_cases hneg : n.tmod m < 0
  · go_enter Try.func23, Try.ntmps23
    go_wp2
    go_ret
    exact ⟨ret_int (by rw [HE.out, if_pos hneg]), rfl⟩
  · go_enter Try.func23, Try.ntmps23
    go_wp2
    go_ret
    exact ⟨ret_int (by rw [HE.out, if_neg (by omega)]), rfl⟩
set_option maxHeartbeats 400000 in
theorem of_any (cs : List Value) (s : Stp) (m : Int) (w : World) (h : StpCells cs s) (h1 : 1 ≤ m) (hm : m ≤ 1000) :
    Calls Try.prog 9 #[.agg cs.toArray, .int .i64 m] w fun e w' => e = .returned (.int .i64 (s.kind % m)) ∧ Below w.heap.size w w' := by
  have HR : Hid (∀ w', Calls Try.prog 23 #[.int .i64 s.kind, .int .i64 m] w' fun e w'' => e = .returned (.int .i64 (s.kind % m)) ∧ w'' = w') := fun w' => rest_any s.kind m w' h1 (by omega) h.k1 h.k2
  have c0 : (w.alloc (.cells cs.toArray 41)).cell? ⟨w.heap.size, 0, none⟩ = some (.int .i64 s.kind) := by
    rw [Joins.cell_of_block (heap_alloc_new w _) 0, List.getElem?_toArray]; exact h.c0
  have b0 : Below w.heap.size w (w.alloc (.cells cs.toArray 41)) := (Below.refl _ _).alloc (Nat.le_refl _) _
  generalize s.kind % m = r at *
  go_enter Try.func9, Try.ntmps9
  go_wp2_with fail
  refine (HR.out _).mono ?_; rintro e w1 ⟨rfl, rfl⟩
  go_wp2_with fail
  go_ret
  exact ⟨rfl, b0⟩
end Go.Proofs.Ythdjdfemckjebaa
