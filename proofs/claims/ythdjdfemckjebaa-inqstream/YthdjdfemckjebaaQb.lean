/-
  The queue's block: bytes in a ring, which of them wait, four numbers; frames.
-/
import Derived.Test.YthdjdfemckjebaaMs
import Derived.WalkKit
import Derived.ProofKit
import Derived.Deep.RegionHeld3
import Derived.Deep.RegionWith
import Derived.Deep.RegionLaw
import Derived.Deep.CutRange
import Derived.Deep.MidRow
import Derived.Laws.NewBlocks
import Derived.Laws.BytesArg
import Derived.BigCall
import Derived.BigGuard
import Derived.BigRegion
import Derived.BigQuiet
import Derived.Lib.Hide
import Derived.Lib.Walk
import Derived.Below
import Derived.Deep.WholeRow
import Derived.Lib.SmallJoins
namespace Go.Proofs.Ythdjdfemckjebaa
open Go.RowKit
set_option linter.unusedVariables false
set_option linter.unusedSimpArgs false

theorem ret_int {k : IntKind} {a b : Int} (h : a = b) : Ending.returned (.int k a) = .returned (.int k b) := by rw [h]
theorem val_int {k : IntKind} {a b : Int} (h : a = b) : Value.int k a = .int k b := by rw [h]
theorem lt_of_heap {W : World} {k : Nat} {o : Obj} (h : W.heap[k]? = some o) : k < W.heap.size := (Array.getElem?_eq_some_iff.1 h).1
theorem ret_bool {a b : Bool} (h : a = b) : Ending.returned (.bool a) = .returned (.bool b) := by rw [h]
theorem ret_str {a b : ByteArray} (h : a = b) : Ending.returned (.string a) = .returned (.string b) := by rw [h]

/-- All blocks that were there are as they were, but for those of the list. -/
structure Kp (bs : List Nat) (w w' : World) : Prop where
  os : w'.os = w.os
  tape : w'.tape = w.tape
  output : w'.output = w.output
  size : w.heap.size ≤ w'.heap.size
  block : ∀ k, k < w.heap.size → k ∉ bs → w'.heap[k]? = w.heap[k]?
theorem Kp.ofBelow {bs : List Nat} {w w' : World} (h : Below w.heap.size w w') : Kp bs w w' := ⟨h.os, h.tape, h.output, h.size, fun k hk _ => h.block k hk⟩
theorem Kp.refl (bs : List Nat) (w : World) : Kp bs w w := .ofBelow (Below.refl _ _)
theorem Kp.trans {bs cs : List Nat} {w w1 w2 : World} (h : Kp bs w w1) (k : Kp cs w1 w2) (hc : ∀ x ∈ cs, x ∈ bs ∨ w.heap.size ≤ x) : Kp bs w w2 :=
  ⟨k.os.trans h.os, k.tape.trans h.tape, k.output.trans h.output, Nat.le_trans h.size k.size, fun x hx hn =>
    (k.block x (Nat.lt_of_lt_of_le hx h.size) fun hm => (hc x hm).elim hn fun hle => by omega).trans (h.block x hx hn)⟩
theorem Kp.mono {bs cs : List Nat} {w w' : World} (h : Kp bs w w') (hs : ∀ x ∈ bs, x ∈ cs) : Kp cs w w' := ⟨h.os, h.tape, h.output, h.size, fun k hk hn => h.block k hk fun hm => hn (hs k hm)⟩
theorem Kp.setCell {bs : List Nat} {w w' : World} (h : Kp bs w w') {p : Addr} (hp : p.block ∈ bs ∨ w.heap.size ≤ p.block) (u : Value) : Kp bs w (w'.setCell p u) :=
  ⟨h.os, h.tape, h.output, by simpa using h.size, fun k hk hn => (Below.heap_setCell _ _ _ _ (fun e => by rcases hp with hp | hp; exact hn (e ▸ hp); omega)).trans (h.block k hk hn)⟩
theorem Kp.drew {bs : List Nat} {w w' : World} (h : Kp bs w w') : Kp bs w w'.drew := ⟨h.os, h.tape, h.output, h.size, h.block⟩
theorem Kp.drewN {bs : List Nat} {w w' : World} (h : Kp bs w w') (n : Nat) : Kp bs w (w'.drewN n) := ⟨h.os, h.tape, h.output, h.size, h.block⟩
theorem Kp.below {bs : List Nat} {w w' : World} (h : Kp bs w w') {B : Nat} (hB : B ≤ w.heap.size) (hb : ∀ k ∈ bs, B ≤ k) : Below B w w' :=
  ⟨h.os, h.tape, h.output, h.size, fun k hk => h.block k (by omega) fun hm => by have := hb k hm; omega⟩
theorem Kp.then {bs : List Nat} {w w1 w2 : World} (h : Kp bs w w1) (hb : Below w1.heap.size w1 w2) : Kp bs w w2 := h.trans (cs := []) (Kp.ofBelow hb) (by simp)
theorem Kp.alloc {bs : List Nat} {w w' : World} (h : Kp bs w w') (o : Obj) : Kp bs w (w'.alloc o) := h.then ((Below.refl _ _).alloc (Nat.le_refl _) _)
theorem Kp.grown {bs : List Nat} {w w1 w2 : World} {row : Option Nat} (h : Kp bs w w1) (hg : w1.grownBy w2 row) (hr : ∀ k, row = some k → k ∈ bs) : Kp bs w w2 :=
  h.trans (cs := row.toList) ⟨hg.os, hg.tape, hg.output, hg.size, fun k hk hn => hg.block k hk (fun e => hn (by rw [← e]; simp))⟩ (fun x hx => Or.inl (hr x (by simpa using hx)))
theorem below_drewN (W : World) (n : Nat) : Below W.heap.size W (W.drewN n) := ⟨rfl, rfl, rfl, Nat.le_refl _, fun _ _ => rfl⟩

/-- The queue's cells. -/
structure Qs where
  bytes : Nat → UInt8
  there : Nat → Bool
  first : Int
  next : Int
  reach : Int
  fin : Int
structure QA (a : Array Value) (q : Qs) : Prop where
  size : a.size = 4100
  bytes : ∀ i, i < 2048 → a[i]? = some (.int .u8 ((q.bytes i).toNat : Int))
  there : ∀ i, i < 2048 → a[2048 + i]? = some (.bool (q.there i))
  first : a[4096]? = some (.int .i64 q.first)
  next : a[4097]? = some (.int .i64 q.next)
  reach : a[4098]? = some (.int .i64 q.reach)
  fin : a[4099]? = some (.int .i64 q.fin)
/-- A block that holds a queue. -/
def QB (b : Nat) (q : Qs) (W : World) : Prop := ∃ a, W.heap[b]? = some (.cells a 56 (0, 0)) ∧ QA a q
section
variable {b : Nat} {q : Qs} {W W' : World}
theorem QB.lt (h : QB b q W) : b < W.heap.size := by obtain ⟨a, h, _⟩ := h; exact lt_of_heap h
theorem QB.on (h : QB b q W) (he : W'.heap[b]? = W.heap[b]?) : QB b q W' := by obtain ⟨a, h1, h2⟩ := h; exact ⟨a, he.trans h1, h2⟩
theorem QB.keep (h : QB b q W) (hb : Below W.heap.size W W') : QB b q W' := h.on (hb.block _ h.lt)
theorem QB.kp {bs : List Nat} (h : QB b q W) (hk : Kp bs W W') (hn : b ∉ bs) : QB b q W' := h.on (hk.block b h.lt hn)
theorem QB.alloc (h : QB b q W) (o : Obj) : QB b q (W.alloc o) := h.on (Below.heap_alloc _ _ _ h.lt)
theorem QB.drew (h : QB b q W) : QB b q W.drew := h
theorem QB.drewN (h : QB b q W) (n : Nat) : QB b q (W.drewN n) := h
theorem QB.free (h : QB b q W) (i : Nat) : W.frozen? ⟨b, i, none⟩ = false := by obtain ⟨a, h, _⟩ := h; exact Joins.unfrozen_of_block h i
theorem QB.setOther {k : Nat} (h : QB b q W) (hk : b ≠ k) (i : Nat) (v : Value) : QB b q (W.setCell ⟨k, i, none⟩ v) := h.on (Below.heap_setCell _ _ _ _ hk)
theorem QB.cBytes (h : QB b q W) (i : Nat) (hi : i < 2048) : W.cell? ⟨b, i, none⟩ = some (.int .u8 ((q.bytes i).toNat : Int)) := by obtain ⟨a, h, h2⟩ := h; rw [Joins.cell_of_block h]; exact h2.bytes i hi
theorem QB.cThere (h : QB b q W) (i : Nat) (hi : i < 2048) : W.cell? ⟨b, 2048 + i, none⟩ = some (.bool (q.there i)) := by obtain ⟨a, h, h2⟩ := h; rw [Joins.cell_of_block h]; exact h2.there i hi
theorem QB.cFirst (h : QB b q W) : W.cell? ⟨b, 4096, none⟩ = some (.int .i64 q.first) := by obtain ⟨a, h, h2⟩ := h; rw [Joins.cell_of_block h]; exact h2.first
theorem QB.cNext (h : QB b q W) : W.cell? ⟨b, 4097, none⟩ = some (.int .i64 q.next) := by obtain ⟨a, h, h2⟩ := h; rw [Joins.cell_of_block h]; exact h2.next
theorem QB.cReach (h : QB b q W) : W.cell? ⟨b, 4098, none⟩ = some (.int .i64 q.reach) := by obtain ⟨a, h, h2⟩ := h; rw [Joins.cell_of_block h]; exact h2.reach
theorem QB.cFin (h : QB b q W) : W.cell? ⟨b, 4099, none⟩ = some (.int .i64 q.fin) := by obtain ⟨a, h, h2⟩ := h; rw [Joins.cell_of_block h]; exact h2.fin
theorem QB.setFirst (h : QB b q W) (x : Int) : QB b { q with first := x } (W.setCell ⟨b, 4096, none⟩ (.int .i64 x)) := by
  obtain ⟨a, h, h2⟩ := h
  exact ⟨_, Joins.block_setCell h _, ⟨by simp [h2.size], fun j hj => by rw [Array.getElem?_setIfInBounds_ne (by omega)]; exact h2.bytes j hj, fun j hj => by rw [Array.getElem?_setIfInBounds_ne (by omega)]; exact h2.there j hj, by rw [Array.getElem?_setIfInBounds_self_of_lt (by rw [h2.size]; omega)], by rw [Array.getElem?_setIfInBounds_ne (by omega)]; exact h2.next, by rw [Array.getElem?_setIfInBounds_ne (by omega)]; exact h2.reach, by rw [Array.getElem?_setIfInBounds_ne (by omega)]; exact h2.fin⟩⟩
theorem QB.setNext (h : QB b q W) (x : Int) : QB b { q with next := x } (W.setCell ⟨b, 4097, none⟩ (.int .i64 x)) := by
  obtain ⟨a, h, h2⟩ := h
  exact ⟨_, Joins.block_setCell h _, ⟨by simp [h2.size], fun j hj => by rw [Array.getElem?_setIfInBounds_ne (by omega)]; exact h2.bytes j hj, fun j hj => by rw [Array.getElem?_setIfInBounds_ne (by omega)]; exact h2.there j hj, by rw [Array.getElem?_setIfInBounds_ne (by omega)]; exact h2.first, by rw [Array.getElem?_setIfInBounds_self_of_lt (by rw [h2.size]; omega)], by rw [Array.getElem?_setIfInBounds_ne (by omega)]; exact h2.reach, by rw [Array.getElem?_setIfInBounds_ne (by omega)]; exact h2.fin⟩⟩
theorem QB.setReach (h : QB b q W) (x : Int) : QB b { q with reach := x } (W.setCell ⟨b, 4098, none⟩ (.int .i64 x)) := by
  obtain ⟨a, h, h2⟩ := h
  exact ⟨_, Joins.block_setCell h _, ⟨by simp [h2.size], fun j hj => by rw [Array.getElem?_setIfInBounds_ne (by omega)]; exact h2.bytes j hj, fun j hj => by rw [Array.getElem?_setIfInBounds_ne (by omega)]; exact h2.there j hj, by rw [Array.getElem?_setIfInBounds_ne (by omega)]; exact h2.first, by rw [Array.getElem?_setIfInBounds_ne (by omega)]; exact h2.next, by rw [Array.getElem?_setIfInBounds_self_of_lt (by rw [h2.size]; omega)], by rw [Array.getElem?_setIfInBounds_ne (by omega)]; exact h2.fin⟩⟩
theorem QB.setFin (h : QB b q W) (x : Int) : QB b { q with fin := x } (W.setCell ⟨b, 4099, none⟩ (.int .i64 x)) := by
  obtain ⟨a, h, h2⟩ := h
  exact ⟨_, Joins.block_setCell h _, ⟨by simp [h2.size], fun j hj => by rw [Array.getElem?_setIfInBounds_ne (by omega)]; exact h2.bytes j hj, fun j hj => by rw [Array.getElem?_setIfInBounds_ne (by omega)]; exact h2.there j hj, by rw [Array.getElem?_setIfInBounds_ne (by omega)]; exact h2.first, by rw [Array.getElem?_setIfInBounds_ne (by omega)]; exact h2.next, by rw [Array.getElem?_setIfInBounds_ne (by omega)]; exact h2.reach, by rw [Array.getElem?_setIfInBounds_self_of_lt (by rw [h2.size]; omega)]⟩⟩
theorem QB.setThere (h : QB b q W) (i : Nat) (hi : i < 2048) (x : Bool) : QB b { q with there := fun j => if j = i then x else q.there j } (W.setCell ⟨b, 2048 + i, none⟩ (.bool x)) := by
  obtain ⟨a, h, h2⟩ := h
  refine ⟨_, Joins.block_setCell h _, ⟨by simp [h2.size], fun j hj => by rw [Array.getElem?_setIfInBounds_ne (by omega)]; exact h2.bytes j hj, fun j hj => ?_, by rw [Array.getElem?_setIfInBounds_ne (by omega)]; exact h2.first, by rw [Array.getElem?_setIfInBounds_ne (by omega)]; exact h2.next, by rw [Array.getElem?_setIfInBounds_ne (by omega)]; exact h2.reach, by rw [Array.getElem?_setIfInBounds_ne (by omega)]; exact h2.fin⟩⟩
  by_cases e : j = i
  · subst e; rw [Array.getElem?_setIfInBounds_self_of_lt (by rw [h2.size]; omega)]; simp
  · rw [Array.getElem?_setIfInBounds_ne (by omega)]
    show _ = some (Value.bool (if j = i then x else q.there j))
    rw [if_neg e]; exact h2.there j hj
theorem QB.setBytes (h : QB b q W) (i : Nat) (hi : i < 2048) (x : UInt8) : QB b { q with bytes := fun j => if j = i then x else q.bytes j } (W.setCell ⟨b, i, none⟩ (.int .u8 (x.toNat : Int))) := by
  obtain ⟨a, h, h2⟩ := h
  refine ⟨_, Joins.block_setCell h _, ⟨by simp [h2.size], fun j hj => ?_, fun j hj => by rw [Array.getElem?_setIfInBounds_ne (by omega)]; exact h2.there j hj, by rw [Array.getElem?_setIfInBounds_ne (by omega)]; exact h2.first, by rw [Array.getElem?_setIfInBounds_ne (by omega)]; exact h2.next, by rw [Array.getElem?_setIfInBounds_ne (by omega)]; exact h2.reach, by rw [Array.getElem?_setIfInBounds_ne (by omega)]; exact h2.fin⟩⟩
  by_cases e : j = i
  · subst e; rw [Array.getElem?_setIfInBounds_self_of_lt (by rw [h2.size]; omega)]; simp
  · rw [Array.getElem?_setIfInBounds_ne (by omega)]
    show _ = some (Value.int .u8 ((if j = i then x else q.bytes j).toNat : Int))
    rw [if_neg e]; exact h2.bytes j hj
end
/-- A new one. -/
def qs0 : Qs := ⟨fun _ => 0, fun _ => false, 1, 1, 1, 0⟩
def ql : List Value := List.replicate 2048 (.int .u8 0) ++ (List.replicate 2048 (.bool false) ++ [.int .i64 1, .int .i64 1, .int .i64 1, .int .i64 0])
def qz : Array Value := ql.toArray
theorem run_build_q (w : World) : (Instr.build 56 #[(2, .int .i64 1), (3, .int .i64 1), (4, .int .i64 1)]).run Try.prog w = .ok (.agg qz) w := by kernel_rfl
theorem qz_get (i : Nat) : qz[i]? = ql[i]? := by unfold qz; rw [List.getElem?_toArray]
theorem qz_qa : QA qz qs0 := by
  have e2 : ∀ i, ql[2048 + i]? = (List.replicate 2048 (Value.bool false) ++ [Value.int .i64 1, .int .i64 1, .int .i64 1, .int .i64 0])[i]? := fun i => by
    unfold ql; rw [List.getElem?_append_right (by rw [List.length_replicate]; omega), List.length_replicate, Nat.add_sub_cancel_left]
  have e3 : ∀ i, ql[4096 + i]? = [Value.int .i64 1, .int .i64 1, .int .i64 1, .int .i64 0][i]? := fun i => by
    rw [show 4096 + i = 2048 + (2048 + i) from by omega, e2, List.getElem?_append_right (by rw [List.length_replicate]; omega), List.length_replicate, Nat.add_sub_cancel_left]
  refine ⟨?_, fun i hi => ?_, fun i hi => ?_, ?_, ?_, ?_, ?_⟩
  · show ql.toArray.size = 4100
    rw [List.size_toArray]; unfold ql; rw [List.length_append, List.length_replicate, List.length_append, List.length_replicate]; rfl
  · rw [qz_get]; unfold ql; rw [List.getElem?_append_left (by rw [List.length_replicate]; exact hi), List.getElem?_replicate, if_pos hi]; rfl
  · rw [qz_get, e2, List.getElem?_append_left (by rw [List.length_replicate]; exact hi), List.getElem?_replicate, if_pos hi]; rfl
  · rw [qz_get]; exact e3 0
  · rw [qz_get]; exact e3 1
  · rw [qz_get]; exact e3 2
  · rw [qz_get]; exact e3 3
theorem QB.new (W : World) : QB W.heap.size qs0 (W.alloc (.cells qz 56)) := ⟨qz, heap_alloc_new _ _, qz_qa⟩

/-- The ring of what came, from f on; what lies from n on waits. -/
def Ring (q : Qs) (c : Nat → Option UInt8) (f n : Nat) : Prop := ∀ p, f ≤ p → p < f + 2048 → q.there (p % 2048) = ((c p).isSome && decide (n ≤ p)) ∧ ∀ x, c p = some x → q.bytes (p % 2048) = x
theorem mod_ne {f p k : Nat} (h1 : f ≤ p) (h2 : p < f + 2048) (h3 : f ≤ k) (h4 : k < f + 2048) (h : p ≠ k) : p % 2048 ≠ k % 2048 := by omega
/-- One byte more. -/
theorem Ring.put {q : Qs} {c c' : Nat → Option UInt8} {f n : Nat} (h : Ring q c f n) (k : Nat) (h1 : f ≤ k) (h2 : k < f + 2048) (h3 : n ≤ k) (x : UInt8) (hk : c' k = some x) (ho : ∀ p, p ≠ k → c' p = c p) :
    Ring { q with bytes := fun j => if j = k % 2048 then x else q.bytes j, there := fun j => if j = k % 2048 then true else q.there j } c' f n := fun p p1 p2 => by
  by_cases e : p = k
  · subst e
    rw [hk]
    refine ⟨?_, fun y hy => ?_⟩
    · show (if _ then _ else _) = _
      rw [if_pos rfl]; simp [h3]
    · show (if _ then _ else _) = _
      rw [if_pos rfl]; exact Option.some.inj hy
  · have hm := mod_ne p1 p2 h1 h2 e
    rw [ho p e]
    obtain ⟨h5, h6⟩ := h p p1 p2
    refine ⟨?_, fun y hy => ?_⟩
    · show (if _ then _ else _) = _
      rw [if_neg hm]; exact h5
    · show (if _ then _ else _) = _
      rw [if_neg hm]; exact h6 y hy
/-- The first that waits, waits no more. -/
theorem Ring.step {q : Qs} {c : Nat → Option UInt8} {f n : Nat} (h : Ring q c f n) (h1 : f ≤ n) (h2 : n < f + 2048) (y : Int) :
    Ring { q with there := fun j => if j = n % 2048 then false else q.there j, next := y } c f (n + 1) := fun p p1 p2 => by
  obtain ⟨h5, h6⟩ := h p p1 p2
  refine ⟨?_, h6⟩
  show (if _ then _ else _) = _
  by_cases e : p = n
  · subst e
    rw [if_pos rfl]; simp
  · rw [if_neg (mod_ne p1 p2 h1 h2 e), h5]
    congr 1
    rw [decide_eq_decide]
    omega
/-- Does the byte at n wait? -/
theorem Ring.test {q : Qs} {c : Nat → Option UInt8} {f n : Nat} (h : Ring q c f n) (h1 : f ≤ n) (h2 : n ≤ f + 2048) (hc : ∀ p, (c p).isSome = true → p < f + 2048) (hp : 1 ≤ f) : q.there (n % 2048) = (c n).isSome := by
  rcases Nat.lt_or_ge n (f + 2048) with h3 | h3
  · rw [(h n h1 h3).1]; simp
  · obtain rfl : n = f + 2048 := by omega
    have h5 := (h f (Nat.le_refl _) (by omega)).1
    rw [show (f + 2048) % 2048 = f % 2048 from by omega, h5]
    rcases hx : c (f + 2048) with _ | x
    · simp
    · have := hc (f + 2048) (by rw [hx]; rfl)
      omega
/-- Some are read. -/
theorem Ring.read {q : Qs} {c : Nat → Option UInt8} {f n : Nat} (h : Ring q c f n) (k : Nat) (hk : f + k ≤ n) (hn : n ≤ f + 2048) (hc : ∀ p, (c p).isSome = true → p < f + 2048) (y : Int) : Ring { q with first := y } c (f + k) n := fun p p1 p2 => by
  rcases Nat.lt_or_ge p (f + 2048) with h3 | h3
  · exact h p (by omega) h3
  · have h4 : c p = none := by
      rcases hx : c p with _ | x
      · rfl
      · have := hc p (by rw [hx]; rfl); omega
    obtain ⟨h5, _⟩ := h (p - 2048) (by omega) (by omega)
    rw [show (p - 2048) % 2048 = p % 2048 from by omega] at h5
    rw [h4]
    refine ⟨?_, fun x hx => by cases hx⟩
    show q.there (p % 2048) = _
    rw [h5, decide_eq_false (by omega)]
    simp
theorem Ring.byte {q : Qs} {c : Nat → Option UInt8} {f n : Nat} (h : Ring q c f n) {p : Nat} (h1 : f ≤ p) (h2 : p < f + 2048) (hs : (c p).isSome = true) : q.bytes (p % 2048) = (c p).getD 0 := by
  rcases hx : c p with _ | x
  · rw [hx] at hs; cases hs
  · exact (h p h1 h2).2 x hx
end Go.Proofs.Ythdjdfemckjebaa
