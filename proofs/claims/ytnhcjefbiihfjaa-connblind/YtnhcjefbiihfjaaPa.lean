/-
  A pair of connections in memory.
-/
import Derived.Test.YtnhcjefbiihfjaaRs
import Derived.Test.YtnhcjefbiihfjaaOr
import Derived.Test.YtnhcjefbiihfjaaTr
import Derived.Deep.CutBlock
namespace Go.Proofs.Ytnhcjefbiihfjaa
open Go.RowKit
open Tc (Sg gchk gv gc)
set_option linter.unusedVariables false
set_option linter.unusedSimpArgs false

/-- What a pair keeps beside its two connections. -/
structure Pr where
  air : List Sg
  w0 : ByteArray
  w1 : ByteArray
  g0 : ByteArray
  g1 : ByteArray
  s0 : Bool
  s1 : Bool
  o0 : Bool
  o1 : Bool
  e0 : Nat
  e1 : Nat
  t0 : Bool
  t1 : Bool
  br : Bool
def pr0 : Pr := ⟨[], ⟨#[]⟩, ⟨#[]⟩, ⟨#[]⟩, ⟨#[]⟩, false, false, false, false, 0, 0, false, false, false⟩
abbrev pac (p : Pr) (u v : Value) (a : Value) : Array Value := #[u, v, .int .u32 1, .int .i64 40000, .int .u32 2, .int .i64 80, a, .string p.w0, .string p.w1, .string p.g0, .string p.g1, .bool p.s0, .bool p.s1, .bool p.o0, .bool p.o1, .int .u32 (p.e0 : Int), .int .u32 (p.e1 : Int), .bool p.t0, .bool p.t1, .bool p.br]
/-- Where a pair's things are: its block, the row of what is in the air, both connections. -/
structure Pl where
  x : Nat
  a : Value
  b : Nat
  P : Pt
  d : Nat
  Q : Pt
/-- A pair in memory, all new. -/
structure PM (w : World) (L : Pl) (p : Pr) (c e : Cn) (W : World) : Prop where
  blk : W.heap[L.x]? = some (.cells (pac p (ptr L.b) (ptr L.d) L.a) 64 (0, 0))
  row : ORow W w.heap.size L.a p.air
  two : N2 w L.b c L.P L.d e L.Q W
  lo : w.heap.size ≤ L.x
section
variable {w W W' : World} {L : Pl} {p q : Pr} {c c' e e' : Cn} {P' Q' : Pt}
theorem PM.lt (h : PM w L p c e W) : L.x < W.heap.size := lt_of_heap h.blk
theorem PM.be (h : PM w L p c e W) : Below w.heap.size w W := h.two.be
theorem CT.no_pair {b : Nat} {c : Cn} {P : Pt} {W : World} (h : CT b c P W) {g : Nat} {cs : Array Value} {m : Nat × Nat} (hg : W.heap[g]? = some (.cells cs 64 m)) : g ∉ fp b P := h.no_type hg (by decide) (by decide) (by decide) (by decide) (by decide) (by decide) (by decide)
theorem PM.keep (h : PM w L p c e W) (u : Below W.heap.size W W') : PM w L p c e W' := ⟨(u.block _ h.lt).trans h.blk, h.row.on u, h.two.keep u, h.lo⟩
theorem PM.left (h : PM w L p c e W) (h' : CT L.b c' P' W') (u : Up L.b L.P P' W W') : PM w { L with P := P' } p c' e W' :=
  ⟨(u.kp.block _ h.lt (h.two.ca.no_pair h.blk)).trans h.blk, h.row.up h.two.ca u, h.two.left h' u, h.lo⟩
theorem PM.right (h : PM w L p c e W) (h' : CT L.d e' Q' W') (u : Up L.d L.Q Q' W W') : PM w { L with Q := Q' } p c e' W' :=
  ⟨(u.kp.block _ h.lt (h.two.cb.no_pair h.blk)).trans h.blk, h.row.up h.two.cb u, h.two.right h' u, h.lo⟩
/-- Another row of segments is left alone. -/
theorem SRow.pair {B : Nat} {v : Value} {l : List Sg} (h : SRow W B v l) {x : Nat} {cs : Array Value} (hx : W.heap[x]? = some (.cells cs 64 (0, 0))) (i : Nat) (y : Value) : SRow (W.setCell ⟨x, i, none⟩ y) B v l :=
  h.kp (bs := [x]) ((Kp.refl _ _).setCell (Or.inl (by simp)) _) fun g hg => by
    obtain ⟨cur, hh⟩ := h.blk hg
    simpa using ne_type hh hx (by decide)
theorem ORow.pair {B : Nat} {v : Value} {l : List Sg} (h : ORow W B v l) {x : Nat} {cs : Array Value} (hx : W.heap[x]? = some (.cells cs 64 (0, 0))) (i : Nat) (y : Value) : ORow (W.setCell ⟨x, i, none⟩ y) B v l :=
  h.kp (bs := [x]) ((Kp.refl _ _).setCell (Or.inl (by simp)) _) fun g hg => by
    obtain ⟨cur, hh⟩ := h.blk hg
    simpa using ne_type hh hx (by decide)
/-- One of its own cells is turned. -/
theorem PM.set (h : PM w L p c e W) (i : Nat) (y : Value) (q : Pr) (hq : (pac p (ptr L.b) (ptr L.d) L.a).setIfInBounds i y = pac q (ptr L.b) (ptr L.d) L.a) (ha : q.air = p.air) : PM w L q c e (W.setCell ⟨L.x, i, none⟩ y) := by
  have hk : Kp [L.x] W (W.setCell ⟨L.x, i, none⟩ y) := (Kp.refl _ _).setCell (Or.inl (by simp)) _
  refine ⟨?_, by rw [ha]; exact h.row.pair h.blk i y, ⟨h.two.ca.kp hk fun x hx hm => ?_, h.two.cb.kp hk fun x hx hm => ?_, h.two.be.setCell h.lo _, h.two.la, h.two.lb, h.two.dj⟩, h.lo⟩
  · rw [← hq]; exact Joins.block_setCell h.blk y
  · obtain rfl : x = L.x := by simpa using hm
    exact h.two.ca.no_pair h.blk hx
  · obtain rfl : x = L.x := by simpa using hm
    exact h.two.cb.no_pair h.blk hx
/-- What is in the air is another row. -/
theorem PM.setAir (h : PM w L p c e W) {a' : Value} {l : List Sg} (hr : ORow W w.heap.size a' l) : PM w { L with a := a' } { p with air := l } c e (W.setCell ⟨L.x, 6, none⟩ a') := by
  have hk : Kp [L.x] W (W.setCell ⟨L.x, 6, none⟩ a') := (Kp.refl _ _).setCell (Or.inl (by simp)) _
  refine ⟨Joins.block_setCell h.blk a', hr.pair h.blk 6 a', ⟨h.two.ca.kp hk fun x hx hm => ?_, h.two.cb.kp hk fun x hx hm => ?_, h.two.be.setCell h.lo _, h.two.la, h.two.lb, h.two.dj⟩, h.lo⟩
  · obtain rfl : x = L.x := by simpa using hm
    exact h.two.ca.no_pair h.blk hx
  · obtain rfl : x = L.x := by simpa using hm
    exact h.two.cb.no_pair h.blk hx
/-- A row of segments grows: the pair stays. -/
theorem PM.grow (h : PM w L p c e W) {v : Value} {B : Nat} {l : List Sg} (hv : SRow W B v l) (hB : w.heap.size ≤ B) (hg : W.grownBy W' v.ownBlock) (hr : ORow W' w.heap.size L.a p.air) : PM w L p c e W' := by
  have hk : Kp v.ownBlock.toList W W' := ⟨hg.os, hg.tape, hg.output, hg.size, fun k hk hn => hg.block k hk (fun e => hn (by rw [← e]; simp))⟩
  have hx : ∀ x, x ∈ v.ownBlock.toList → ∃ cur, W.heap[x]? = some (.cells cur 35 (0, 0)) := fun x hx => hv.blk (by simpa using hx)
  refine ⟨(hk.block _ h.lt fun hm => ?_).trans h.blk, hr, ⟨h.two.ca.kp hk fun x hx' hm => ?_, h.two.cb.kp hk fun x hx' hm => ?_, h.two.be.grown hg h.two.be.size fun j hj => Nat.le_trans hB (hv.lt j hj).1, h.two.la, h.two.lb, h.two.dj⟩, h.lo⟩
  · obtain ⟨cur, hh⟩ := hx _ hm; exact ne_type hh h.blk (by decide) rfl
  · obtain ⟨cur, hh⟩ := hx _ hm; exact h.two.ca.no_seg hh hx'
  · obtain ⟨cur, hh⟩ := hx _ hm; exact h.two.cb.no_seg hh hx'
theorem PM.cell (h : PM w L p c e W) (i : Nat) : W.cell? ⟨L.x, i, none⟩ = (pac p (ptr L.b) (ptr L.d) L.a)[i]? := Joins.cell_of_block h.blk i
theorem PM.free (h : PM w L p c e W) (i : Nat) : W.frozen? ⟨L.x, i, none⟩ = false := Joins.unfrozen_of_block h.blk i
end
end Go.Proofs.Ytnhcjefbiihfjaa
