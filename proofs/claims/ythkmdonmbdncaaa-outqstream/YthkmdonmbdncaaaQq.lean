/-
  The queue as a plain record, and in memory; pieces.
-/
import Derived.Test.YthkmdonmbdncaaaRows
import Derived.WalkKit
import Derived.ProofKit
import Derived.Deep.RegionHeld3
import Derived.Deep.RegionWith
import Derived.Deep.RegionLaw
import Derived.Deep.CutRange
import Derived.Deep.MidRow
import Derived.Laws.NewBlocks
import Derived.Laws.BytesArg
import Derived.Laws.CopyOwn
import Derived.Laws.Strings2
import Derived.Lib.AppendStr
import Derived.Lib.SliceRun
import Derived.BigCall
import Derived.BigGuard
import Derived.BigRegion
import Derived.BigQuiet
import Derived.Lib.Hide
import Derived.Lib.Walk
import Derived.Below
import Derived.Deep.WholeRow
import Derived.Lib.SmallJoins
namespace Go.Proofs.Ythkmdonmbdncaaa
open Go.RowKit
set_option linter.unusedVariables false
set_option linter.unusedSimpArgs false

theorem ret_int {k : IntKind} {a b : Int} (h : a = b) : Ending.returned (.int k a) = .returned (.int k b) := by rw [h]
theorem val_int {k : IntKind} {a b : Int} (h : a = b) : Value.int k a = .int k b := by rw [h]
theorem lt_of_heap {W : World} {k : Nat} {o : Obj} (h : W.heap[k]? = some o) : k < W.heap.size := (Array.getElem?_eq_some_iff.1 h).1
theorem ret_bool {a b : Bool} (h : a = b) : Ending.returned (.bool a) = .returned (.bool b) := by rw [h]
theorem ret_str {a b : ByteArray} (h : a = b) : Ending.returned (.string a) = .returned (.string b) := by rw [h]

/-- All blocks that were there are as they were, but for those of the list. -/
structure Kp (bs : List Nat) (w w' : World) : Prop where
  os : w'.os = w.os
  tape : w'.tape = w.tape
  output : w'.output = w.output
  size : w.heap.size ≤ w'.heap.size
  block : ∀ k, k < w.heap.size → k ∉ bs → w'.heap[k]? = w.heap[k]?
theorem Kp.ofBelow {bs : List Nat} {w w' : World} (h : Below w.heap.size w w') : Kp bs w w' := ⟨h.os, h.tape, h.output, h.size, fun k hk _ => h.block k hk⟩
theorem Kp.refl (bs : List Nat) (w : World) : Kp bs w w := .ofBelow (Below.refl _ _)
theorem Kp.trans {bs cs : List Nat} {w w1 w2 : World} (h : Kp bs w w1) (k : Kp cs w1 w2) (hc : ∀ x ∈ cs, x ∈ bs ∨ w.heap.size ≤ x) : Kp bs w w2 :=
  ⟨k.os.trans h.os, k.tape.trans h.tape, k.output.trans h.output, Nat.le_trans h.size k.size, fun x hx hn =>
    (k.block x (Nat.lt_of_lt_of_le hx h.size) fun hm => (hc x hm).elim hn fun hle => by omega).trans (h.block x hx hn)⟩
theorem Kp.mono {bs cs : List Nat} {w w' : World} (h : Kp bs w w') (hs : ∀ x ∈ bs, x ∈ cs) : Kp cs w w' := ⟨h.os, h.tape, h.output, h.size, fun k hk hn => h.block k hk fun hm => hn (hs k hm)⟩
theorem Kp.setCell {bs : List Nat} {w w' : World} (h : Kp bs w w') {p : Addr} (hp : p.block ∈ bs ∨ w.heap.size ≤ p.block) (u : Value) : Kp bs w (w'.setCell p u) :=
  ⟨h.os, h.tape, h.output, by simpa using h.size, fun k hk hn => (Below.heap_setCell _ _ _ _ (fun e => by rcases hp with hp | hp; exact hn (e ▸ hp); omega)).trans (h.block k hk hn)⟩
theorem Kp.setCells {bs : List Nat} {w w' : World} (h : Kp bs w w') {b : Nat} (hp : b ∈ bs ∨ w.heap.size ≤ b) (vs : List Value) (o : Nat) : Kp bs w (w'.setCells b o vs) := by
  induction vs generalizing w' o with
  | nil => exact h
  | cons v r ih => exact ih (h.setCell (p := ⟨b, o, none⟩) hp v) (o + 1)
theorem Kp.drew {bs : List Nat} {w w' : World} (h : Kp bs w w') : Kp bs w w'.drew := ⟨h.os, h.tape, h.output, h.size, h.block⟩
theorem Kp.drewN {bs : List Nat} {w w' : World} (h : Kp bs w w') (n : Nat) : Kp bs w (w'.drewN n) := ⟨h.os, h.tape, h.output, h.size, h.block⟩
theorem Kp.below {bs : List Nat} {w w' : World} (h : Kp bs w w') {B : Nat} (hB : B ≤ w.heap.size) (hb : ∀ k ∈ bs, B ≤ k) : Below B w w' :=
  ⟨h.os, h.tape, h.output, h.size, fun k hk => h.block k (by omega) fun hm => by have := hb k hm; omega⟩
theorem Kp.then {bs : List Nat} {w w1 w2 : World} (h : Kp bs w w1) (hb : Below w1.heap.size w1 w2) : Kp bs w w2 := h.trans (cs := []) (Kp.ofBelow hb) (by simp)
theorem Kp.grown {bs : List Nat} {w w1 w2 : World} {row : Option Nat} (h : Kp bs w w1) (hg : w1.grownBy w2 row) (hr : ∀ k, row = some k → k ∈ bs) : Kp bs w w2 :=
  h.trans (cs := row.toList) ⟨hg.os, hg.tape, hg.output, hg.size, fun k hk hn => hg.block k hk (fun e => hn (by rw [← e]; simp))⟩ (fun x hx => Or.inl (hr x (by simpa using hx)))
theorem below_drewN (W : World) (n : Nat) : Below W.heap.size W (W.drewN n) := ⟨rfl, rfl, rfl, Nat.le_refl _, fun _ _ => rfl⟩

/-- The row of a slice. -/
def rw' (v : Value) : List Nat := v.ownBlock.toList

/-- A block that holds a queue: its bytes K, the place behind the last one, whether it is closed, Una, Cur, Sent. -/
structure QR (B b : Nat) (v : Value) (K : ByteArray) (l : Int) (sh : Bool) (u c s : Int) (W : World) : Prop where
  blk : W.heap[b]? = some (.cells #[v, .int .i64 l, .bool sh, .int .i64 u, .int .i64 c, .int .i64 s] 59 (0, 0))
  own : W.ownsRow B 5 1 v K.size (Lib.strCells K)
  lo : B ≤ b
section
variable {B b : Nat} {v : Value} {K : ByteArray} {l : Int} {sh : Bool} {u c s : Int} {W W' : World}
theorem own_block {w : World} {base : Nat} {e : TypeId} {size : Nat} {v : Value} {n : Nat} {xs : List Value} (h : w.ownsRow base e size v n xs) {g : Nat} (hg : v.ownBlock = some g) : ∃ cur, w.heap[g]? = some (.cells cur e (0, 0)) := by
  rcases h.2 with ⟨rfl, _⟩ | ⟨g', cap, cur, rfl, _, hgg, _⟩
  · simp [Value.ownBlock] at hg
  · simp [Value.ownBlock] at hg
    subst hg
    exact ⟨cur, hgg⟩
/-- A block of another type is not the row. -/
theorem QR.row_ne (h : QR B b v K l sh u c s W) {k : Nat} {t : TypeId} {cs : Array Value} (hk : W.heap[k]? = some (.cells cs t (0, 0))) (ht : t ≠ 5) : v.ownBlock ≠ some k := fun e => by
  obtain ⟨cur, hc⟩ := own_block h.own e
  rw [hk] at hc
  injection hc with hc
  injection hc with _ hc
  exact ht hc
theorem QR.not_mem (h : QR B b v K l sh u c s W) {k : Nat} {t : TypeId} {cs : Array Value} (hk : W.heap[k]? = some (.cells cs t (0, 0))) (ht : t ≠ 5) (hb : k ≠ b) : k ∉ b :: rw' v := fun hm => by
  rcases List.mem_cons.1 hm with e | e
  · exact hb e
  · unfold rw' at e
    exact h.row_ne hk ht (by simpa using e)
theorem QR.lt (h : QR B b v K l sh u c s W) : b < W.heap.size := lt_of_heap h.blk
theorem QR.base (h : QR B b v K l sh u c s W) : B ≤ W.heap.size := Nat.le_trans h.lo (Nat.le_of_lt h.lt)
theorem QR.shape (h : QR B b v K l sh u c s W) : ∃ o cap, v = .slice o K.size cap := by
  rcases h.own.2 with ⟨rfl, h0⟩ | ⟨g, cap, cur, rfl, _⟩
  · exact ⟨none, 0, by rw [h0]⟩
  · exact ⟨_, cap, rfl⟩
theorem QR.kp {bs : List Nat} (h : QR B b v K l sh u c s W) (hk : Kp bs W W') (hn : b ∉ bs) (hr : ∀ g, v.ownBlock = some g → g ∉ bs) : QR B b v K l sh u c s W' := by
  refine ⟨(hk.block b h.lt hn).trans h.blk, ⟨h.own.1, ?_⟩, h.lo⟩
  rcases h.own.2 with h2 | ⟨g, cap, cur, hv, hg, hh, r⟩
  · exact Or.inl h2
  · exact Or.inr ⟨g, cap, cur, hv, hg, (hk.block g (lt_of_heap hh) (hr g (by rw [hv]; rfl))).trans hh, r⟩
theorem QR.keep (h : QR B b v K l sh u c s W) (hb : Below W.heap.size W W') : QR B b v K l sh u c s W' := h.kp (bs := []) (Kp.ofBelow hb) (by simp) (by simp)
theorem QR.drewN (h : QR B b v K l sh u c s W) (n : Nat) : QR B b v K l sh u c s (W.drewN n) := h.keep (below_drewN W n)
theorem QR.drew (h : QR B b v K l sh u c s W) : QR B b v K l sh u c s W.drew := h.keep ⟨rfl, rfl, rfl, Nat.le_refl _, fun _ _ => rfl⟩
theorem QR.alloc (h : QR B b v K l sh u c s W) (o : Obj) : QR B b v K l sh u c s (W.alloc o) := h.keep ((Below.refl _ _).alloc (Nat.le_refl _) _)
theorem QR.c0 (h : QR B b v K l sh u c s W) : W.cell? ⟨b, 0, none⟩ = some v := Joins.cell_of_block h.blk 0
theorem QR.c1 (h : QR B b v K l sh u c s W) : W.cell? ⟨b, 1, none⟩ = some (.int .i64 l) := Joins.cell_of_block h.blk 1
theorem QR.c2 (h : QR B b v K l sh u c s W) : W.cell? ⟨b, 2, none⟩ = some (.bool sh) := Joins.cell_of_block h.blk 2
theorem QR.c3 (h : QR B b v K l sh u c s W) : W.cell? ⟨b, 3, none⟩ = some (.int .i64 u) := Joins.cell_of_block h.blk 3
theorem QR.c4 (h : QR B b v K l sh u c s W) : W.cell? ⟨b, 4, none⟩ = some (.int .i64 c) := Joins.cell_of_block h.blk 4
theorem QR.c5 (h : QR B b v K l sh u c s W) : W.cell? ⟨b, 5, none⟩ = some (.int .i64 s) := Joins.cell_of_block h.blk 5
theorem QR.free (h : QR B b v K l sh u c s W) (i : Nat) : W.frozen? ⟨b, i, none⟩ = false := Joins.unfrozen_of_block h.blk i
theorem QR.own_set (h : QR B b v K l sh u c s W) (i : Nat) (x : Value) : (W.setCell ⟨b, i, none⟩ x).ownsRow B 5 1 v K.size (Lib.strCells K) := by
  refine ⟨h.own.1, ?_⟩
  rcases h.own.2 with h2 | ⟨g, cap, cur, hv, hg, hh, r⟩
  · exact Or.inl h2
  · refine Or.inr ⟨g, cap, cur, hv, hg, (Below.heap_setCell _ _ _ _ ?_).trans hh, r⟩
    intro e
    exact h.row_ne h.blk (by decide) (by rw [hv]; show some g = some b; rw [e])
theorem QR.set1 (h : QR B b v K l sh u c s W) (x : Int) : QR B b v K x sh u c s (W.setCell ⟨b, 1, none⟩ (.int .i64 x)) := ⟨Joins.block_setCell h.blk _, h.own_set 1 _, h.lo⟩
theorem QR.set2 (h : QR B b v K l sh u c s W) (x : Bool) : QR B b v K l x u c s (W.setCell ⟨b, 2, none⟩ (.bool x)) := ⟨Joins.block_setCell h.blk _, h.own_set 2 _, h.lo⟩
theorem QR.set3 (h : QR B b v K l sh u c s W) (x : Int) : QR B b v K l sh x c s (W.setCell ⟨b, 3, none⟩ (.int .i64 x)) := ⟨Joins.block_setCell h.blk _, h.own_set 3 _, h.lo⟩
theorem QR.set4 (h : QR B b v K l sh u c s W) (x : Int) : QR B b v K l sh u x s (W.setCell ⟨b, 4, none⟩ (.int .i64 x)) := ⟨Joins.block_setCell h.blk _, h.own_set 4 _, h.lo⟩
theorem QR.set5 (h : QR B b v K l sh u c s W) (x : Int) : QR B b v K l sh u c x (W.setCell ⟨b, 5, none⟩ (.int .i64 x)) := ⟨Joins.block_setCell h.blk _, h.own_set 5 _, h.lo⟩
/-- The bytes are stored anew. -/
theorem QR.put (h : QR B b v K l sh u c s W) {row : Option Nat} {v' : Value} {K' : ByteArray} (hg : W.grownBy W' row) (hr : row ≠ some b) (hown : W'.ownsRow B 5 1 v' K'.size (Lib.strCells K')) :
    QR B b v' K' l sh u c s (W'.setCell ⟨b, 0, none⟩ v') := by
  have hb : W'.heap[b]? = some (.cells #[v, .int .i64 l, .bool sh, .int .i64 u, .int .i64 c, .int .i64 s] 59 (0, 0)) := (hg.block b h.lt (fun e => hr e.symm)).trans h.blk
  refine ⟨Joins.block_setCell hb _, ⟨hown.1, ?_⟩, h.lo⟩
  rcases hown.2 with h2 | ⟨g, cap, cur, hv, hgl, hh, r⟩
  · exact Or.inl h2
  · refine Or.inr ⟨g, cap, cur, hv, hgl, (Below.heap_setCell _ _ _ _ ?_).trans hh, r⟩
    intro e
    have e : g = b := e
    subst e
    rw [hb] at hh
    injection hh with hh
    injection hh with _ hh
    exact absurd hh (by decide)
end

/-- A block that holds the document's queue. -/
def UR (b : Nat) (A : ByteArray) (sh : Bool) (u c s : Int) (W : World) : Prop := W.heap[b]? = some (.cells #[.string A, .bool sh, .int .i64 u, .int .i64 c, .int .i64 s] 27 (0, 0))
section
variable {b : Nat} {A : ByteArray} {sh : Bool} {u c s : Int} {W W' : World}
theorem UR.lt (h : UR b A sh u c s W) : b < W.heap.size := lt_of_heap h
theorem UR.kp {bs : List Nat} (h : UR b A sh u c s W) (hk : Kp bs W W') (hn : b ∉ bs) : UR b A sh u c s W' := (hk.block b h.lt hn).trans h
theorem UR.keep (h : UR b A sh u c s W) (hb : Below W.heap.size W W') : UR b A sh u c s W' := (hb.block _ h.lt).trans h
theorem UR.drew (h : UR b A sh u c s W) : UR b A sh u c s W.drew := h
theorem UR.drewN (h : UR b A sh u c s W) (n : Nat) : UR b A sh u c s (W.drewN n) := h
theorem UR.alloc (h : UR b A sh u c s W) (o : Obj) : UR b A sh u c s (W.alloc o) := h.keep ((Below.refl _ _).alloc (Nat.le_refl _) _)
theorem UR.c0 (h : UR b A sh u c s W) : W.cell? ⟨b, 0, none⟩ = some (.string A) := Joins.cell_of_block h 0
theorem UR.c1 (h : UR b A sh u c s W) : W.cell? ⟨b, 1, none⟩ = some (.bool sh) := Joins.cell_of_block h 1
theorem UR.c2 (h : UR b A sh u c s W) : W.cell? ⟨b, 2, none⟩ = some (.int .i64 u) := Joins.cell_of_block h 2
theorem UR.c3 (h : UR b A sh u c s W) : W.cell? ⟨b, 3, none⟩ = some (.int .i64 c) := Joins.cell_of_block h 3
theorem UR.c4 (h : UR b A sh u c s W) : W.cell? ⟨b, 4, none⟩ = some (.int .i64 s) := Joins.cell_of_block h 4
theorem UR.free (h : UR b A sh u c s W) (i : Nat) : W.frozen? ⟨b, i, none⟩ = false := Joins.unfrozen_of_block h i
theorem UR.set0 (h : UR b A sh u c s W) (x : ByteArray) : UR b x sh u c s (W.setCell ⟨b, 0, none⟩ (.string x)) := Joins.block_setCell h _
theorem UR.set1 (h : UR b A sh u c s W) (x : Bool) : UR b A x u c s (W.setCell ⟨b, 1, none⟩ (.bool x)) := Joins.block_setCell h _
theorem UR.set2 (h : UR b A sh u c s W) (x : Int) : UR b A sh x c s (W.setCell ⟨b, 2, none⟩ (.int .i64 x)) := Joins.block_setCell h _
theorem UR.set3 (h : UR b A sh u c s W) (x : Int) : UR b A sh u x s (W.setCell ⟨b, 3, none⟩ (.int .i64 x)) := Joins.block_setCell h _
theorem UR.set4 (h : UR b A sh u c s W) (x : Int) : UR b A sh u c x (W.setCell ⟨b, 4, none⟩ (.int .i64 x)) := Joins.block_setCell h _
end

/-- A piece. -/
structure Pc where
  at' : Int
  syn : Bool
  fin : Bool
  body : ByteArray
abbrev pcl (p : Pc) : List Value := [.int .i64 p.at', .bool p.syn, .bool p.fin, .string p.body]
abbrev pcs (p : Pc) : Array Value := #[.int .i64 p.at', .bool p.syn, .bool p.fin, .string p.body]
abbrev pvv (p : Pc) : Value := .agg (pcs p)
def pc0 : Pc := ⟨0, false, false, ⟨#[]⟩⟩
theorem info46 : (Try.prog.info? 46).map (·.size) = some 4 := by kernel_rfl
theorem pcs_one (p : Pc) : (pcs p).all (·.oneCell') = true := by
  refine all_oneCell_toArray (cs := pcl p) ?_
  intro v hv
  simp only [List.mem_cons, List.not_mem_nil, or_false] at hv
  rcases hv with rfl | rfl | rfl | rfl <;> rfl
/-- A block that holds a piece. -/
def PB (b : Nat) (p : Pc) (W : World) : Prop := W.heap[b]? = some (.cells (pcs p) 46 (0, 0))
section
variable {b : Nat} {p : Pc} {W W' : World}
theorem PB.new (w : World) (p : Pc) : PB w.heap.size p (w.alloc (.cells (pcs p) 46)) := heap_alloc_new _ _
theorem PB.lt (h : PB b p W) : b < W.heap.size := lt_of_heap h
theorem PB.keep (h : PB b p W) (hb : Below W.heap.size W W') : PB b p W' := (hb.block _ h.lt).trans h
theorem PB.kp {bs : List Nat} (h : PB b p W) (hk : Kp bs W W') (hn : b ∉ bs) : PB b p W' := (hk.block b h.lt hn).trans h
theorem PB.alloc (h : PB b p W) (o : Obj) : PB b p (W.alloc o) := h.keep ((Below.refl _ _).alloc (Nat.le_refl _) _)
theorem PB.drew (h : PB b p W) : PB b p W.drew := h
theorem PB.drewN (h : PB b p W) (n : Nat) : PB b p (W.drewN n) := h
theorem PB.c0 (h : PB b p W) : W.cell? ⟨b, 0, none⟩ = some (.int .i64 p.at') := Joins.cell_of_block h 0
theorem PB.c1 (h : PB b p W) : W.cell? ⟨b, 1, none⟩ = some (.bool p.syn) := Joins.cell_of_block h 1
theorem PB.c2 (h : PB b p W) : W.cell? ⟨b, 2, none⟩ = some (.bool p.fin) := Joins.cell_of_block h 2
theorem PB.c3 (h : PB b p W) : W.cell? ⟨b, 3, none⟩ = some (.string p.body) := Joins.cell_of_block h 3
theorem PB.free (h : PB b p W) (i : Nat) : W.frozen? ⟨b, i, none⟩ = false := Joins.unfrozen_of_block h i
theorem PB.there (h : PB b p W) : W.there b 0 4 := fun j hj => by
  rw [Nat.zero_add, Joins.cell_of_block h j]
  exact ⟨by rw [Array.getElem?_eq_getElem (show j < (pcs p).size from hj)]; rfl, Joins.unfrozen_of_block h j⟩
theorem PB.range (h : PB b p W) : W.rangeAt b 0 (pcl p) := World.rangeAt_of_block h 0 4
theorem PB.set1 {C : Array Value} (h : W.heap[b]? = some (.cells C 46 (0, 0))) (i : Nat) (v : Value) : (W.setCell ⟨b, i, none⟩ v).heap[b]? = some (.cells (C.setIfInBounds i v) 46 (0, 0)) := Joins.block_setCell (i := i) h v
theorem PB.put (h : PB b p W) (q : Pc) : PB b q (W.setCells b 0 (pcl q)) := by
  have h1 := PB.set1 h 0 (.int .i64 q.at')
  have h2 := PB.set1 h1 1 (.bool q.syn)
  have h3 := PB.set1 h2 2 (.bool q.fin)
  exact PB.set1 h3 3 (.string q.body)
/-- What is told out of a cell of the call's own. -/
theorem told (W : World) (b : Nat) (p q : Pc) (h : PB b p W) : (loadVar 46 ⟨b, 0, none⟩).run Try.prog (W.setCells b 0 (pcl q)) = .ok (pvv q) (W.setCells b 0 (pcl q)) :=
  run_loadVar_mid _ _ _ 46 (pcl q) _ (World.rangeAt_setCells_same _ _ _ _ h.there) Try.underlying46 rfl info46
end
theorem below_setCells {B b : Nat} {a W : World} (hb : Below B a W) (hB : B ≤ b) (vs : List Value) (o : Nat) : Below B a (W.setCells b o vs) := by
  induction vs generalizing W o with
  | nil => exact hb
  | cons v r ih => exact ih (hb.setCell (p := ⟨b, o, none⟩) hB v) (o + 1)

/-- append of a text onto a row of the call's own, as a step of a region that draws its order. -/
theorem step_append_own_string {P : Program} {ops : Array Oper} {o : Oper} {a : Act} {w : World} {K : Act → World → Prop} {Q : Exit → Act → World → Prop} {E : Prop}
    (hg : o.guard = none) (sl x : Operand) (t u : TypeId) (ho : o.op = Op.call { callee := Callee.builtin Builtin.append, args := #[sl, x], argTypes := #[t, u] })
    (base : Nat) (e : TypeId) (i : TypeInfo) (ht : P.underlying t = some (.slice e)) (hu : P.underlying u = some .string) (hi : P.info? e = some i) (hz : i.zero = some (.int .u8 0)) (hsize : i.size = 1) (hby : i.bytes = 1)
    (v : Value) (n : Nat) (xs : List Value) (hs : a.eval sl = v) (hown : w.ownsRow base e 1 v n xs) (s : ByteArray) (hx : a.eval x = .string s)
    (h63 : n + s.size ≤ maxLen) (hbytes : n + s.size ≤ 140737488355328) (hbase : base ≤ w.heap.size)
    (hK : ∀ v' w', w'.ownsRow base e 1 v' (n + s.size) (xs ++ Lib.strCells s) → w.grownBy w' v.ownBlock → K (a.put o.dst v') w') :
    if Region.wanted o (yielded ops a.tmps) = true then Oper.wp P o a w K Q else E := by
  have hw : Region.wanted o (yielded ops a.tmps) = true := by simp [Region.wanted, hg]
  rw [if_pos hw]
  obtain ⟨v', w', hr, h2, h3, h4⟩ := Lib.run_append_own_string (P := P) w base t u o.type e i ht hu hi hz hsize hby v n xs hown s h63 hbytes hbase
  unfold Oper.wp execOp
  simp only [ho, resolve, invoke, builtin, Sem.run_bind, Sem.run_pure, Result.andThen_ok, List.map_toArray, List.map_cons, List.map_nil, hs, hx, hr]
  exact hK v' w' h2 h3
theorem info5 : (Try.prog.info? 5).map (fun i => (i.zero, i.size, i.bytes)) = some (some (.int .u8 0), 1, 1) := by kernel_rfl

theorem strCells_append (a b : ByteArray) : Lib.strCells (a ++ b) = Lib.strCells a ++ Lib.strCells b := by
  unfold Lib.strCells
  rw [ByteArray.data_append, Array.toList_append, List.map_append]
theorem strCells_extract (a : ByteArray) (i j : Nat) : Lib.strCells (a.extract i j) = ((Lib.strCells a).take j).drop i := by
  unfold Lib.strCells
  rw [ByteArray.data_extract, Array.toList_extract, List.extract_eq_take_drop, ← List.map_take, ← List.map_drop]
  congr 1
  rw [List.drop_take]
theorem ext_list {a b : ByteArray} (h : a.data.toList = b.data.toList) : a = b := by
  cases a; cases b; congr 1; exact Array.toList_inj.1 h
theorem extract_list (s : ByteArray) (a b : Nat) : (s.extract a b).data.toList = (s.data.toList.take b).drop a := by
  rw [ByteArray.data_extract, Array.toList_extract, List.extract_eq_take_drop, List.drop_take]

/-- A piece of the bytes of a row, as a text. -/
theorem sub_row {W : World} {B : Nat} {v : Value} {K : ByteArray} (hown : W.ownsRow B 5 1 v K.size (Lib.strCells K)) (x y : Nat) (hx : x ≤ y) (hy : y ≤ K.size) :
    ∃ S : Value, (∀ w', (Instr.slice 57 v (some (.int .i64 (x : Int))) (some (.int .i64 (y : Int))) none).run Try.prog w' = .ok S w') ∧
      ∀ n, (convert 57 9 S).run Try.prog (W.drewN n) = .ok (.string (K.extract x y)) (W.drewN n) := by
  obtain ⟨i0, hi, hz0, hz1, hz2⟩ := info_parts info5
  rcases hown.2 with ⟨rfl, h0⟩ | ⟨g, cap, cur, rfl, hbg, hg, hnc, hcm, hcs, htake⟩
  · obtain rfl : y = 0 := by omega
    obtain rfl : x = 0 := by omega
    refine ⟨.slice none 0 0, fun w' => ?_, fun n => ?_⟩
    · simp [Instr.slice, Instr.sliceBounds, Instr.sliceBound, asIntOf, run_underlying Try.underlying57, sizeOf, typeInfo, hi, go_sem]
    · have := run_convert_bytes_nil (P := Try.prog) (W.drewN n) 57 5 Try.underlying57 Try.underlying5 0 0 9 Try.underlying9
      rw [this]
      congr 2
      apply ext_list
      rw [extract_list]; simp
  · have hyc : y ≤ cap := by omega
    refine ⟨.slice (some (if cap = x then ⟨g, 0, none⟩ else ⟨g, x, none⟩)) (y - x) (cap - x), fun w' => ?_, fun n => ?_⟩
    · have h1 : ((0 : Int) ≤ (y : Int) ∧ (y : Int) ≤ (cap : Int)) := by omega
      have h2 : ((0 : Int) ≤ (x : Int) ∧ (x : Int) ≤ (y : Int)) := by omega
      by_cases hc : cap = x
      · simp [Instr.slice, Instr.sliceBounds, Instr.sliceBound, asIntOf, run_underlying Try.underlying57, sizeOf, typeInfo, hi, hz1, go_sem, h1, h2, hc]
        rw [if_pos (by omega), if_pos hx]
      · simp [Instr.slice, Instr.sliceBounds, Instr.sliceBound, asIntOf, run_underlying Try.underlying57, sizeOf, typeInfo, hi, hz1, go_sem, h1, h2, hc]
        rw [if_pos (by omega), if_pos hx]
    · have hz : ∀ b off c, (b = g ∧ off = x ∨ x = y) → (convert 57 9 (.slice (some ⟨b, off, none⟩) (y - x) c)).run Try.prog (W.drewN n) = .ok (.string (K.extract x y)) (W.drewN n) := by
        intro b off c hb
        have hl : ((K.extract x y).data.toList.map fun (u : UInt8) => (u.toNat : Int)).length = y - x := by
          rw [List.length_map, extract_list]; simp; omega
        have := run_convert_bytes_arg (P := Try.prog) (W.drewN n) 57 5 Try.underlying57 Try.underlying5 b off (y - x) c _ hl (fun i hi => ?_) 9 Try.underlying9
        · rw [this]
          congr 2
          apply ext_list
          rw [strOfNums_data, List.map_map]
          conv => rhs; rw [← List.map_id (K.extract x y).data.toList]
          apply List.map_congr_left
          intro u _
          simp
        · rcases hb with ⟨rfl, rfl⟩ | rfl
          · have hd : (Lib.strCells K)[off + i]? = some (.int .u8 ((K.data.toList[off + i]'(by simp; omega)).toNat)) := by
              unfold Lib.strCells
              rw [List.getElem?_map, List.getElem?_eq_getElem (by simp; omega)]
              rfl
            rw [← htake, List.getElem?_take, if_pos (by omega)] at hd
            show W.cell? ⟨b, off + i, none⟩ = _
            rw [Joins.cell_of_block hg, ← Array.getElem?_toList, hd, List.getD_eq_getElem?_getD, List.getElem?_map, extract_list, List.getElem?_drop, List.getElem?_take, if_pos (by omega), List.getElem?_eq_getElem (by simp; omega)]
            rfl
          · omega
      by_cases hc : cap = x
      · rw [if_pos hc]; exact hz _ _ _ (Or.inr (by omega))
      · rw [if_neg hc]; exact hz _ _ _ (Or.inl ⟨rfl, rfl⟩)
end Go.Proofs.Ythkmdonmbdncaaa
