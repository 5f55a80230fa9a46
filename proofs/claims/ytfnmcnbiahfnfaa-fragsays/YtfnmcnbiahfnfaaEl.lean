/-
  The document's In: where fragments lie; where a loop's count lies.
-/
import Derived.Test.YtfnmcnbiahfnfaaEj
namespace Go.Proofs.Ytfnmcnbiahfnfaa
open Go.RowKit
set_option linter.unusedVariables false
set_option linter.unusedSimpArgs false

section
variable {w W : World} {ub B kb k : Nat} {s0 : Value} {U0 U : List DE} {p : Pk}
/-- Where the fragments of one lie; they. -/
theorem DM.ce {g n c : Nat} {j : Nat} {e : DE} (h : DM w ub B s0 U0 p kb k (.slice (some ⟨g, 0, none⟩) n c) U W) (he : U[j]? = some e) : W.cell? ⟨g, j * 2, none⟩ = some e.v := by
  have hl := (List.getElem?_eq_some_iff.1 he).1
  have hr := h.ut.row
  obtain ⟨o, c', e1, _⟩ := own_form hr
  injection e1 with _ e2 _
  rw [← e2] at hr
  exact (hr.cellAt (j * 2) (by omega)).trans (ocells_get U j e he).1
theorem DM.cq {j i ge n c : Nat} {l : List Pk} {age : Int} {q : Pk} {s : Value} (h : DM w ub B s0 U0 p kb k s U W) (he : U[j]? = some ⟨.slice (some ⟨ge, 0, none⟩) n c, l, age⟩) (hq : l[i]? = some q) : W.rangeAt ge (i * 9) (pcl q) :=
  PRow.range (h.ut.ls _ (List.mem_of_getElem? he)) hq
end
/-- Where the count of a loop lies. -/
def kAt (kb : Nat) (W : World) : Nat := match W.cell? ⟨kb, 0, none⟩ with
  | some v => (intOf v).toNat
  | none => 0
theorem kAt_of {kb k : Nat} {W : World} (h : W.cell? ⟨kb, 0, none⟩ = some (.int .i64 (k : Int))) : kAt kb W = k := by
  unfold kAt; rw [h]; simp [intOf]

end Go.Proofs.Ytfnmcnbiahfnfaa
