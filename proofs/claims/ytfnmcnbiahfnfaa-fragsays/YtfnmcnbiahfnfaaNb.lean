/-
  Blocks that hold a name.
-/
import Derived.Test.YtfnmcnbiahfnfaaGm
namespace Go.Proofs.Ytfnmcnbiahfnfaa
open Go.RowKit
set_option linter.unusedVariables false

/-- A block that holds a name. -/
def NB (k : Nat) (n : Nm) (W : World) : Prop := W.heap[k]? = some (.cells (nc n) 74 (0, 0))
theorem NB.new (w : World) (n : Nm) : NB w.heap.size n (w.alloc (.cells (nc n) 74)) := heap_alloc_new _ _
theorem NB.lt {k : Nat} {n : Nm} {W : World} (h : NB k n W) : k < W.heap.size := lt_of_heap h
theorem NB.keep {k : Nat} {n : Nm} {W W' : World} (h : NB k n W) (hb : Below W.heap.size W W') : NB k n W' := (hb.block _ h.lt).trans h
theorem NB.alloc {k : Nat} {n : Nm} {W : World} (h : NB k n W) (o : Obj) : NB k n (W.alloc o) := (Below.heap_alloc _ _ _ h.lt).trans h
theorem NB.kp {k : Nat} {n : Nm} {bs : List Nat} {W W' : World} (h : NB k n W) (hk : Kp bs W W') (hn : k ∉ bs) : NB k n W' := (hk.block k h.lt hn).trans h
theorem NB.c0 {k : Nat} {n : Nm} {W : World} (h : NB k n W) : W.cell? ⟨k, 0, none⟩ = some (.int .u32 (n.1 : Int)) := Joins.cell_of_block h 0
theorem NB.c1 {k : Nat} {n : Nm} {W : World} (h : NB k n W) : W.cell? ⟨k, 1, none⟩ = some (.int .u32 (n.2.1 : Int)) := Joins.cell_of_block h 1
theorem NB.c2 {k : Nat} {n : Nm} {W : World} (h : NB k n W) : W.cell? ⟨k, 2, none⟩ = some (.int .i64 n.2.2.1) := Joins.cell_of_block h 2
theorem NB.c3 {k : Nat} {n : Nm} {W : World} (h : NB k n W) : W.cell? ⟨k, 3, none⟩ = some (.int .i64 n.2.2.2) := Joins.cell_of_block h 3
end Go.Proofs.Ytfnmcnbiahfnfaa
