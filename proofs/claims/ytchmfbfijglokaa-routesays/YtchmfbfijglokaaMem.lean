/-
  A tree of nodes in memory: how it lies there, what a store, a new block or a call that writes into it leaves of it.
-/
import Derived.Test.YtchmfbfijglokaaMath
import Derived.Below
import Derived.OneCell
import Derived.Lib.SmallJoins
namespace Go.Proofs.Ytchmfbfijglokaa
open Go.RowKit
set_option linter.unusedVariables false

/-- A node's address, or nil. -/
def ptrOf : LT → Value
  | .nil => .pointer none
  | .node k _ _ _ _ => .pointer (some ⟨k, 0, none⟩)
theorem ptr_form (t : LT) : ∃ p, (ptrOf t) = .pointer p := by cases t <;> exact ⟨_, rfl⟩
/-- A tree lies in memory. -/
def Tin (w : World) : LT → Prop
  | .nil => True
  | .node k _ (th, v) l r => w.heap[k]? = some (.cells #[(ptrOf l), (ptrOf r), .bool th, .int .i64 v] 73 (0, 0)) ∧ Tin w l ∧ Tin w r
theorem Tin.lt {w : World} : ∀ {t : LT}, Tin w t → ∀ k ∈ blocks t, k < w.heap.size
  | .nil, _, _, h => by cases h
  | .node k o0 (th, v) l r, h, j, hj => by
    rw [blocks, List.mem_cons, List.mem_append] at hj
    rcases hj with rfl | hj | hj
    · exact lt_of_block h.1
    · exact Tin.lt h.2.1 j hj
    · exact Tin.lt h.2.2 j hj
theorem Tin.keep {w w' : World} : ∀ {t : LT}, Tin w t → (∀ k ∈ blocks t, w'.heap[k]? = w.heap[k]?) → Tin w' t
  | .nil, _, _ => trivial
  | .node k o0 (th, v) l r, h, hk => ⟨(hk k (by simp [blocks])).trans h.1, Tin.keep h.2.1 fun j hj => hk j (by simp [blocks, hj]), Tin.keep h.2.2 fun j hj => hk j (by simp [blocks, hj])⟩
theorem Tin.below {w w' : World} {t : LT} (h : Tin w t) {B : Nat} (hb : Below B w w') (hB : ∀ k ∈ blocks t, k < B) : Tin w' t := h.keep fun k hk => hb.block k (hB k hk)

/-- All blocks that were there are as they were, but for those of the list. -/
structure Kp (bs : List Nat) (w w' : World) : Prop where
  os : w'.os = w.os
  tape : w'.tape = w.tape
  output : w'.output = w.output
  size : w.heap.size ≤ w'.heap.size
  block : ∀ k, k < w.heap.size → k ∉ bs → w'.heap[k]? = w.heap[k]?
theorem Kp.ofBelow {bs : List Nat} {w w' : World} (h : Below w.heap.size w w') : Kp bs w w' := ⟨h.os, h.tape, h.output, h.size, fun k hk _ => h.block k hk⟩
theorem Kp.refl (bs : List Nat) (w : World) : Kp bs w w := .ofBelow (Below.refl _ _)
theorem Kp.trans {bs cs : List Nat} {w w1 w2 : World} (h : Kp bs w w1) (k : Kp cs w1 w2) (hc : ∀ x ∈ cs, x ∈ bs ∨ w.heap.size ≤ x) : Kp bs w w2 :=
  ⟨k.os.trans h.os, k.tape.trans h.tape, k.output.trans h.output, Nat.le_trans h.size k.size, fun i hi hn =>
    (k.block i (Nat.lt_of_lt_of_le hi h.size) (fun hm => by rcases hc i hm with h1 | h1; exact hn h1; omega)).trans (h.block i hi hn)⟩
theorem Kp.mono {bs cs : List Nat} {w w' : World} (h : Kp bs w w') (hs : ∀ x ∈ bs, x ∈ cs) : Kp cs w w' := ⟨h.os, h.tape, h.output, h.size, fun k hk hn => h.block k hk fun hm => hn (hs k hm)⟩
theorem Kp.setCell {bs : List Nat} {w w' : World} (h : Kp bs w w') {p : Addr} (hp : p.block ∈ bs ∨ w.heap.size ≤ p.block) (u : Value) : Kp bs w (w'.setCell p u) :=
  h.trans (cs := [p.block]) ⟨rfl, rfl, rfl, by simp [World.setCell], fun k hk hn => Below.heap_setCell _ _ _ _ (by simpa using hn)⟩ (by simpa using hp)
theorem Kp.drew {bs : List Nat} {w w' : World} (h : Kp bs w w') : Kp bs w w'.drew := ⟨h.os, h.tape, h.output, h.size, h.block⟩
theorem Kp.below {bs : List Nat} {w w' : World} (h : Kp bs w w') {B : Nat} (hB : B ≤ w.heap.size) (hb : ∀ k ∈ bs, B ≤ k) : Below B w w' :=
  ⟨h.os, h.tape, h.output, h.size, fun k hk => h.block k (by omega) fun hm => by have := hb k hm; omega⟩
theorem Tin.kp {w w' : World} {t : LT} {bs : List Nat} (h : Tin w t) (hk : Kp bs w w') (hn : ∀ k ∈ blocks t, k ∉ bs) : Tin w' t := h.keep fun k hm => hk.block k (h.lt k hm) (hn k hm)

theorem nodup_node {k o0 : Nat} {th : Bool} {v : Int} {l r : LT} (h : (blocks (.node k o0 (th, v) l r)).Nodup) :
    (blocks l).Nodup ∧ (blocks r).Nodup ∧ k ∉ blocks l ∧ k ∉ blocks r ∧ ∀ x, x ∈ blocks l → x ∉ blocks r := by
  rw [blocks, List.nodup_cons, List.nodup_append] at h
  obtain ⟨h1, h2, h3, h4⟩ := h
  rw [List.mem_append] at h1
  exact ⟨h2, h3, fun hm => h1 (Or.inl hm), fun hm => h1 (Or.inr hm), fun x hx hy => h4 x hx x hy rfl⟩
theorem nodup_mk {k o0 : Nat} {th : Bool} {v : Int} {l r : LT} (h1 : (blocks l).Nodup) (h2 : (blocks r).Nodup) (h3 : k ∉ blocks l) (h4 : k ∉ blocks r) (h5 : ∀ x, x ∈ blocks l → x ∉ blocks r) : (blocks (.node k o0 (th, v) l r)).Nodup := by
  rw [blocks, List.nodup_cons, List.nodup_append, List.mem_append]
  exact ⟨fun h => h.elim h3 h4, h1, h2, fun a ha b hb e => h5 a ha (e ▸ hb)⟩

/-- What a call that writes into the tree t leaves: t' in its place. -/
structure Wr (w w' : World) (t t' : LT) : Prop where
  lies : Tin w' t'
  nod : (blocks t').Nodup
  kept : Kp (blocks t) w w'
  sub : ∀ k ∈ blocks t', k ∈ blocks t ∨ w.heap.size ≤ k

/-- New blocks ahead of the call. -/
theorem Wr.ahead {w w0 w1 : World} {t t' : LT} (hb : Below w.heap.size w w0) (h : Wr w0 w1 t t') : Wr w w1 t t' :=
  ⟨h.lies, h.nod, (Kp.ofBelow hb).trans h.kept fun x hx => Or.inl hx, fun k hk => (h.sub k hk).imp id (fun h1 => Nat.le_trans hb.size h1)⟩
/-- .. a node among them, which is the tree. -/
theorem Wr.fresh {w w0 w1 : World} {k o0 : Nat} {t' : LT} (hb : Below w.heap.size w w0) (hk : w.heap.size ≤ k) (h : Wr w0 w1 (.node k o0 (false, 0) .nil .nil) t') : Wr w w1 .nil t' := by
  refine ⟨h.lies, h.nod, (Kp.ofBelow hb).trans h.kept fun x hx => Or.inr ?_, fun j hj => Or.inr ?_⟩
  · simp [blocks] at hx; omega
  · rcases h.sub j hj with h1 | h1
    · simp [blocks] at h1; omega
    · exact Nat.le_trans hb.size h1
/-- The tree is let go. -/
theorem Wr.gone {w w1 : World} {t t' : LT} (h : Wr w w1 t t') : Wr w w1 t .nil := ⟨trivial, by simp [blocks], h.kept, fun k hk => by cases hk⟩
theorem Wr.drew {w w1 : World} {t t' : LT} (h : Wr w w1 t t') : Wr w w1.drew t t' := ⟨h.lies.keep fun _ _ => rfl, h.nod, h.kept.drew, h.sub⟩

theorem Wr.alloc {w w1 : World} {t t' : LT} (h : Wr w w1 t t') (o : Obj) : Wr w (w1.alloc o) t t' := by
  have hk : ∀ k, k < w1.heap.size → (w1.alloc o).heap[k]? = w1.heap[k]? := fun k hk => Below.heap_alloc _ _ _ hk
  refine ⟨h.lies.keep fun k hm => hk k (h.lies.lt k hm), h.nod, h.kept.trans (cs := []) (Kp.ofBelow ((Below.refl _ _).alloc (Nat.le_refl _) _)) (fun x hx => by cases hx), h.sub⟩
/-- A node of the call's own is the tree. -/
theorem Wr.new {w w0 : World} {k o0 : Nat} {th : Bool} {v : Int} (hb : Below w.heap.size w w0) (hk : w.heap.size ≤ k) (h : w0.heap[k]? = some (.cells #[.pointer none, .pointer none, .bool th, .int .i64 v] 73 (0, 0))) : Wr w w0 .nil (.node k o0 (th, v) .nil .nil) :=
  ⟨⟨h, trivial, trivial⟩, by simp [blocks], Kp.ofBelow hb, fun j hj => by simp [blocks] at hj; subst hj; exact Or.inr hk⟩

/-- The node's own block behind a call that wrote into one of its subtrees. -/
theorem Wr.root {w w0 w1 : World} {k o0 : Nat} {th : Bool} {v : Int} {l r s s' : LT} (hin : Tin w (.node k o0 (th, v) l r)) (hb : Below w.heap.size w w0) (hw : Wr w0 w1 s s') (hk : k ∉ blocks s) :
    w1.heap[k]? = some (.cells #[(ptrOf l), (ptrOf r), .bool th, .int .i64 v] 73 (0, 0)) := by
  have hlt := lt_of_block hin.1
  rw [hw.kept.block k (Nat.lt_of_lt_of_le hlt hb.size) hk, hb.block k hlt]
  exact hin.1

theorem Wr.set_left {w w0 w1 : World} {k o0 : Nat} {th : Bool} {v : Int} {l r l' : LT} (hin : Tin w (.node k o0 (th, v) l r)) (hnd : (blocks (.node k o0 (th, v) l r)).Nodup) (hb : Below w.heap.size w w0) (hw : Wr w0 w1 l l') :
    Wr w (w1.setCell ⟨k, 0, none⟩ (ptrOf l')) (.node k o0 (th, v) l r) (.node k o0 (th, v) l' r) := by
  obtain ⟨n1, n2, n3, n4, n5⟩ := nodup_node hnd
  have hr := Wr.root hin hb hw n3
  have hlt := lt_of_block hin.1
  have hk' : k ∉ blocks l' := fun hm => by
    rcases hw.sub k hm with h1 | h1
    · exact n3 h1
    · have := hb.size; omega
  have hrl : ∀ j ∈ blocks r, j < w.heap.size := hin.2.2.lt
  refine ⟨⟨?_, ?_, ?_⟩, ?_, ?_, ?_⟩
  · rw [Joins.block_setCell hr]; rfl
  · exact hw.lies.keep fun j hj => Below.heap_setCell _ _ _ _ (fun e : j = k => hk' (e ▸ hj))
  · refine hin.2.2.keep fun j hj => ?_
    rw [Below.heap_setCell _ _ _ _ (fun e : j = k => n4 (e ▸ hj)), hw.kept.block j (Nat.lt_of_lt_of_le (hrl j hj) hb.size) (fun hm => n5 j hm hj), hb.block j (hrl j hj)]
  · refine nodup_mk hw.nod n2 hk' n4 fun x hx hy => ?_
    rcases hw.sub x hx with h1 | h1
    · exact n5 x h1 hy
    · have := hrl x hy; have := hb.size; omega
  · exact ((Kp.ofBelow hb).trans hw.kept fun x hx => Or.inl (by simp [blocks, hx])).setCell (Or.inl (by simp [blocks])) _
  · intro j hj
    rw [blocks, List.mem_cons, List.mem_append] at hj
    rcases hj with rfl | hj | hj
    · left; simp [blocks]
    · rcases hw.sub j hj with h1 | h1
      · left; simp [blocks, h1]
      · right; have := hb.size; omega
    · left; simp [blocks, hj]
theorem Wr.set_right {w w0 w1 : World} {k o0 : Nat} {th : Bool} {v : Int} {l r r' : LT} (hin : Tin w (.node k o0 (th, v) l r)) (hnd : (blocks (.node k o0 (th, v) l r)).Nodup) (hb : Below w.heap.size w w0) (hw : Wr w0 w1 r r') :
    Wr w (w1.setCell ⟨k, 1, none⟩ (ptrOf r')) (.node k o0 (th, v) l r) (.node k o0 (th, v) l r') := by
  obtain ⟨n1, n2, n3, n4, n5⟩ := nodup_node hnd
  have hr := Wr.root hin hb hw n4
  have hlt := lt_of_block hin.1
  have hk' : k ∉ blocks r' := fun hm => by
    rcases hw.sub k hm with h1 | h1
    · exact n4 h1
    · have := hb.size; omega
  have hll : ∀ j ∈ blocks l, j < w.heap.size := hin.2.1.lt
  refine ⟨⟨?_, ?_, ?_⟩, ?_, ?_, ?_⟩
  · rw [Joins.block_setCell hr]; rfl
  · refine hin.2.1.keep fun j hj => ?_
    rw [Below.heap_setCell _ _ _ _ (fun e : j = k => n3 (e ▸ hj)), hw.kept.block j (Nat.lt_of_lt_of_le (hll j hj) hb.size) (fun hm => n5 j hj hm), hb.block j (hll j hj)]
  · exact hw.lies.keep fun j hj => Below.heap_setCell _ _ _ _ (fun e : j = k => hk' (e ▸ hj))
  · refine nodup_mk n1 hw.nod n3 hk' fun x hx hy => ?_
    rcases hw.sub x hy with h1 | h1
    · exact n5 x hx h1
    · have := hll x hx; have := hb.size; omega
  · exact ((Kp.ofBelow hb).trans hw.kept fun x hx => Or.inl (by simp [blocks, hx])).setCell (Or.inl (by simp [blocks])) _
  · intro j hj
    rw [blocks, List.mem_cons, List.mem_append] at hj
    rcases hj with rfl | hj | hj
    · left; simp [blocks]
    · left; simp [blocks, hj]
    · rcases hw.sub j hj with h1 | h1
      · left; simp [blocks, h1]
      · right; have := hb.size; omega
/-- The node's own mark and way are stored. -/
theorem Wr.set_here {w w0 : World} {k o0 : Nat} {th th' : Bool} {v v' : Int} {l r : LT} (hin : Tin w (.node k o0 (th, v) l r)) (hnd : (blocks (.node k o0 (th, v) l r)).Nodup) (hb : Below w.heap.size w w0) :
    Wr w ((w0.setCell ⟨k, 2, none⟩ (.bool th')).setCell ⟨k, 3, none⟩ (.int .i64 v')) (.node k o0 (th, v) l r) (.node k o0 (th', v') l r) := by
  obtain ⟨n1, n2, n3, n4, n5⟩ := nodup_node hnd
  have hlt := lt_of_block hin.1
  have hr : w0.heap[k]? = some (.cells #[(ptrOf l), (ptrOf r), .bool th, .int .i64 v] 73 (0, 0)) := by rw [hb.block k hlt]; exact hin.1
  refine ⟨⟨?_, ?_, ?_⟩, hnd, ?_, fun j hj => Or.inl hj⟩
  · rw [Joins.block_setCell (Joins.block_setCell hr _)]; rfl
  · refine hin.2.1.keep fun j hj => ?_
    rw [Below.heap_setCell _ _ _ _ (fun e : j = k => n3 (e ▸ hj)), Below.heap_setCell _ _ _ _ (fun e : j = k => n3 (e ▸ hj)), hb.block j (hin.2.1.lt j hj)]
  · refine hin.2.2.keep fun j hj => ?_
    rw [Below.heap_setCell _ _ _ _ (fun e : j = k => n4 (e ▸ hj)), Below.heap_setCell _ _ _ _ (fun e : j = k => n4 (e ▸ hj)), hb.block j (hin.2.2.lt j hj)]
  · exact ((Kp.ofBelow hb).setCell (Or.inl (by simp [blocks])) _).setCell (Or.inl (by simp [blocks])) _

/-- A node's four cells. -/
theorem node_cells {w : World} {k : Nat} {a b c d : Value} (h : w.heap[k]? = some (.cells #[a, b, c, d] 73 (0, 0))) :
    w.cell? ⟨k, 0, none⟩ = some a ∧ w.cell? ⟨k, 1, none⟩ = some b ∧ w.cell? ⟨k, 2, none⟩ = some c ∧ w.cell? ⟨k, 3, none⟩ = some d := by
  simp [World.cell?, h]
theorem node_free {w : World} {k : Nat} {a b c d : Value} (h : w.heap[k]? = some (.cells #[a, b, c, d] 73 (0, 0))) :
    w.frozen? ⟨k, 0, none⟩ = false ∧ w.frozen? ⟨k, 1, none⟩ = false ∧ w.frozen? ⟨k, 2, none⟩ = false ∧ w.frozen? ⟨k, 3, none⟩ = false := by
  simp [World.frozen?, h]
end Go.Proofs.Ytchmfbfijglokaa
