/-
  Three operations on the packet that is zero.
-/
import Derived.Test.YtfnmcnbiahfnfaaWb
namespace Go.Proofs.Ytfnmcnbiahfnfaa
open Go.RowKit Go.Maps
set_option linter.unusedVariables false
set_option linter.unusedSimpArgs false

theorem run_build24 (w : World) : (Instr.build 24 #[]).run Try.prog w = .ok (.agg pzc) w := by kernel_rfl
theorem run_eqz (w : World) : (binOp .eql 24 (.agg pzc) (.agg pzc)).run Try.prog w = .ok (.bool true) w := by kernel_rfl
theorem wpList_build24 {ops : Array Oper} {rest : List Oper} {op : Oper} {a : Act} {w : World} {Q : Exit → Act → World → Prop} (hgd : op.guard = none) (ho : op.op = .build 24 #[])
    (h : wpList Try.prog ops Q rest (a.put op.dst (.agg pzc)) w) : wpList Try.prog ops Q (op :: rest) a w :=
  wpList_plain hgd fun K hK => by
    have e := run_build24 w
    unfold Oper.wp execOp
    simp only [ho, Sem.run_bind, Sem.run_pure, Result.andThen_ok]
    simp only [List.map_toArray, List.map_nil, e, Result.andThen_ok]
    exact hK _ _ h
theorem wpList_eqz {ops : Array Oper} {rest : List Oper} {op : Oper} {a : Act} {w : World} {Q : Exit → Act → World → Prop} {x y : Operand} {t : TypeId} (hgd : op.guard = none) (ho : op.op = .binOp .eql 24 x y t) (hx : a.eval x = .agg pzc) (hy : a.eval y = .agg pzc)
    (hg : (eqGuard .eql 24 x y (.agg pzc) (.agg pzc)).run Try.prog w = .ok () w)
    (h : wpList Try.prog ops Q rest (a.put op.dst (.bool true)) w) : wpList Try.prog ops Q (op :: rest) a w :=
  wpList_plain hgd fun K hK => by
    have e := run_eqz w
    unfold Oper.wp execOp
    simp only [ho, hx, hy, Sem.run_bind, hg, e, Sem.run_pure, Result.andThen_ok]
    exact hK _ _ h
end Go.Proofs.Ytfnmcnbiahfnfaa
