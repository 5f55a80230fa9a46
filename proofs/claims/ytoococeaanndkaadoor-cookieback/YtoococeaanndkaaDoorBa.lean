/-
  The four numbers into which a text is stirred, and in memory; a round of both sides.
-/
import Derived.Test.YtoococeaanndkaaDoorRows
import Derived.WalkKit
import Derived.ProofKit
import Derived.Deep.RegionHeld3
import Derived.Deep.RegionWith
import Derived.Laws.NewBlocks
import Derived.BigCall
import Derived.BigGuard
import Derived.BigQuiet
import Derived.BigRegion
import Derived.Lib.Hide
import Derived.Lib.Walk
import Derived.Below
import Derived.Deep.WholeRow
import Derived.Lib.SmallJoins
namespace Go.Proofs.YtoococeaanndkaaDoor
open Go.RowKit
set_option linter.unusedVariables false
set_option linter.unusedSimpArgs false

theorem ret_int {k : IntKind} {a b : Int} (h : a = b) : Ending.returned (.int k a) = .returned (.int k b) := by rw [h]
theorem val_int {k : IntKind} {a b : Int} (h : a = b) : Value.int k a = .int k b := by rw [h]
theorem lt_of_heap {W : World} {k : Nat} {o : Obj} (h : W.heap[k]? = some o) : k < W.heap.size := (Array.getElem?_eq_some_iff.1 h).1
theorem ret_bool {a b : Bool} (h : a = b) : Ending.returned (.bool a) = .returned (.bool b) := by rw [h]

/-- x moved up by n bits, those that go out coming in below. -/
def rot (x : Int) (n : Nat) : Int := bits .or .u64 (IntKind.u64.wrap (x * 2 ^ n)) (x / 2 ^ (64 - n))

theorem rotl_13 (x : Int) (w : World) : Calls Tryd.prog 35 #[.int .u64 x, .int .i64 13] w fun e w' => e = .returned (.int .u64 (rot x 13)) ∧ w' = w := by
  have hb : bits .and .u64 13 63 = 13 := by kernel_rfl
  go_enter Tryd.func35, Tryd.ntmps35
  go_wp2_with fail
  go_ret
  exact ⟨rfl, rfl⟩
theorem rotl_16 (x : Int) (w : World) : Calls Tryd.prog 35 #[.int .u64 x, .int .i64 16] w fun e w' => e = .returned (.int .u64 (rot x 16)) ∧ w' = w := by
  have hb : bits .and .u64 16 63 = 16 := by kernel_rfl
  go_enter Tryd.func35, Tryd.ntmps35
  go_wp2_with fail
  go_ret
  exact ⟨rfl, rfl⟩
theorem rotl_17 (x : Int) (w : World) : Calls Tryd.prog 35 #[.int .u64 x, .int .i64 17] w fun e w' => e = .returned (.int .u64 (rot x 17)) ∧ w' = w := by
  have hb : bits .and .u64 17 63 = 17 := by kernel_rfl
  go_enter Tryd.func35, Tryd.ntmps35
  go_wp2_with fail
  go_ret
  exact ⟨rfl, rfl⟩
theorem rotl_21 (x : Int) (w : World) : Calls Tryd.prog 35 #[.int .u64 x, .int .i64 21] w fun e w' => e = .returned (.int .u64 (rot x 21)) ∧ w' = w := by
  have hb : bits .and .u64 21 63 = 21 := by kernel_rfl
  go_enter Tryd.func35, Tryd.ntmps35
  go_wp2_with fail
  go_ret
  exact ⟨rfl, rfl⟩
theorem rotl_32 (x : Int) (w : World) : Calls Tryd.prog 35 #[.int .u64 x, .int .i64 32] w fun e w' => e = .returned (.int .u64 (rot x 32)) ∧ w' = w := by
  have hb : bits .and .u64 32 63 = 32 := by kernel_rfl
  go_enter Tryd.func35, Tryd.ntmps35
  go_wp2_with fail
  go_ret
  exact ⟨rfl, rfl⟩
theorem round_any (x : Int) (n : Nat) (w : World) (hn : n ≤ 63) :
    Calls Tryd.prog 32 #[.int .u64 x, .int .i64 (n : Int)] w fun e w' => e = .returned (.int .u64 (rot x n)) ∧ w' = w.drew := by
  go_enter Tryd.func32, Tryd.ntmps32
  go_wp2_with fail
  go_region
  all_goals go_wp2_with fail
  all_goals go_ret
  all_goals exact ⟨rfl, rfl⟩
end Go.Proofs.YtoococeaanndkaaDoor
