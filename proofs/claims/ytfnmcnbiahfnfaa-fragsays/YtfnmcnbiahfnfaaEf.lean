/-
  The zero packet built; the document's In where nothing is kept.
-/
import Derived.Test.YtfnmcnbiahfnfaaEe
import Derived.BigQuiet
import Derived.Deep.QuietTactic
import Derived.Deep.CutRange
import Derived.Deep.CutBlock
namespace Go.Proofs.Ytfnmcnbiahfnfaa
open Go.RowKit
set_option linter.unusedVariables false
set_option linter.unusedSimpArgs false

theorem run_build24 (w : World) : (Instr.build 24 #[]).run Try.prog w = .ok (.agg pzc) w := by kernel_rfl
theorem wpList_build24 {ops : Array Oper} {rest : List Oper} {op : Oper} {a : Act} {w : World} {Q : Exit → Act → World → Prop} (hgd : op.guard = none) (ho : op.op = .build 24 #[])
    (h : wpList Try.prog ops Q rest (a.put op.dst (.agg pzc)) w) : wpList Try.prog ops Q (op :: rest) a w :=
  wpList_plain hgd fun K hK => by
    have e := run_build24 w
    unfold Oper.wp execOp
    simp only [ho, Sem.run_bind, Sem.run_pure, Result.andThen_ok]
    simp only [List.map_toArray, List.map_nil, e, Result.andThen_ok]
    exact hK _ _ h
/-- Nothing is kept: the table is as it was. -/
theorem DPost.early {w W : World} {ub B : Nat} {s0 : Value} {U0 : List DE} {C : List (Nm × Gm)} {p : Pk} (h : UT w ub B s0 U0) (S : Sim C U0) (hb : Below w.heap.size w W) {V : Pk × Bool × Int} (hV : inM C p = (V, C)) (vs : List Value) :
    DPost w ub B s0 U0 C p (.returned (.tuple #[pv V.1, .bool V.2.1, .int .i64 V.2.2])) (W.setCells (w.heap.size + 2) 0 vs) := by
  have hK : Kp (ub :: s0.ownBlock.toList) w (W.setCells (w.heap.size + 2) 0 vs) := Kp.setCells vs 0 (Kp.ofBelow hb) (Or.inr (by omega))
  have hK2 : Kp [w.heap.size + 2] w (W.setCells (w.heap.size + 2) 0 vs) := Kp.setCells vs 0 (Kp.ofBelow hb) (Or.inr (by omega))
  refine ⟨s0, U0, by rw [hV], h.keep fun k hk => hK2.block k (h.blt k hk) ?_, by rw [hV]; exact S, fun m hm e he => Nat.le_succ_of_le (hm e he), hK, fun b hb => Or.inl hb⟩
  have := h.blt k hk
  simp; omega

end Go.Proofs.Ytfnmcnbiahfnfaa
