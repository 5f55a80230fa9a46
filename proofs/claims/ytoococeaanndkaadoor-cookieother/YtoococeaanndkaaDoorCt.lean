/-
  What the laid variable gives the walks.
-/
import Derived.Test.YtoococeaanndkaaDoorCk
import Derived.Lib.LaidTab
import Derived.MakeChecks
namespace Go.Proofs.YtoococeaanndkaaDoor
open Go

theorem steps_data : (Rows.laid_packetboat_cookie_steps : DataW Unit) = Lib.tabData .i64 [8, 64, 216, 400, 536, 700, 850, 1000] := by kernel_rfl
theorem cells3 : Tryd.prog.cellsOf 3 = 1 := by kernel_rfl
theorem tab_of {rest : List (String × DataW Unit)} {W : World} (h : laidMet Tryd.prog (("packetboat/cookie.steps", Rows.laid_packetboat_cookie_steps) :: rest) W) : Tab W := by
  rw [steps_data] at h
  have ht := Lib.tabIs_of_head (by kernel_rfl : Tryd.prog.globalNamed "packetboat/cookie.steps" = some 0) (by kernel_rfl : (Tryd.prog.globals[0]?).map (·.type) = some 42) Tryd.underlying42 Tryd.underlying3 cells3 (by kernel_rfl) h
  intro j u hu
  have hj : j < 8 := by
    rcases Nat.lt_or_ge j 8 with h | h
    · exact h
    · rw [List.getElem?_eq_none (by simpa [stp] using h)] at hu; cases hu
  have := ht.cell (by kernel_rfl : Tryd.prog.globalNamed "packetboat/cookie.steps" = some 0) j hj
  rw [Nat.zero_add, this, ← hu]
  have h8 : j = 0 ∨ j = 1 ∨ j = 2 ∨ j = 3 ∨ j = 4 ∨ j = 5 ∨ j = 6 ∨ j = 7 := by omega
  rcases h8 with rfl | rfl | rfl | rfl | rfl | rfl | rfl | rfl <;> rfl
end Go.Proofs.YtoococeaanndkaaDoor
