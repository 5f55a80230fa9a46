/-
  What the listed table gives the walks.
-/
import Derived.Test.YthdmbggpokaggabDoorRows
import Derived.Test.YthdmbggpokaggabDoorCov
import Derived.Lib.LaidTab
import Derived.MakeChecks
namespace Go.Proofs.YthdmbggpokaggabDoor
open Go

theorem tab_data : (Rows.laid_math_bits_deBruijn32tab : DataW Unit) = Lib.tabData .u8 (Lib.deBruijn32tab.map fun n : Nat => (n : Int)) := by kernel_rfl
theorem cells5 : Tryd.prog.cellsOf 5 = 1 := by kernel_rfl
theorem cells36 : Tryd.prog.cellsOf 36 = 32 := by kernel_rfl
theorem tab_of {name : String} {rest : List (String × DataW Unit)} {W : World} (hg : Tryd.prog.globalNamed name = some 0) (ht : (Tryd.prog.globals[0]?).map (·.type) = some 36)
    (h : laidMet Tryd.prog ((name, Rows.laid_math_bits_deBruijn32tab) :: rest) W) : Tab W := by
  rw [tab_data] at h
  have := Lib.tabIs_of_head hg ht Tryd.underlying36 Tryd.underlying5 cells5 cells36 h
  intro j hj
  rw [this.cell hg j (by simpa [Lib.deBruijn32tab] using hj)]
  congr 2
  rw [List.getD_eq_getElem?_getD, List.getElem?_map, List.getD_eq_getElem?_getD]
  cases Lib.deBruijn32tab[j]? <;> rfl
end Go.Proofs.YthdmbggpokaggabDoor
