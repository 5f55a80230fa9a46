/-
  A packet that is being put together, in memory: its block, read and written.
-/
import Derived.Test.YtfnmcnbiahfnfaaNm
import Derived.Test.YtfnmcnbiahfnfaaCln
namespace Go.Proofs.Ytfnmcnbiahfnfaa
open Go.RowKit
set_option linter.unusedVariables false
set_option linter.unusedSimpArgs false

/-- A packet that is being put together. -/
structure Gm where
  left : Int
  bytes : Nat → UInt8
  there : Nat → Bool
  many : Nat
  reach : Nat
  closed : Bool
  dont : Bool
  ttl : Int
/-- Its cells. -/
structure GA (a : Array Value) (g : Gm) : Prop where
  size : a.size = 8006
  left : a[0]? = some (.int .i64 g.left)
  bytes : ∀ i, i < 4000 → a[1 + i]? = some (.int .u8 ((g.bytes i).toNat : Int))
  there : ∀ i, i < 4000 → a[4001 + i]? = some (.bool (g.there i))
  many : a[8001]? = some (.int .i64 (g.many : Int))
  reach : a[8002]? = some (.int .i64 (g.reach : Int))
  closed : a[8003]? = some (.bool g.closed)
  dont : a[8004]? = some (.bool g.dont)
  ttl : a[8005]? = some (.int .i64 g.ttl)
/-- Its block. -/
def GB (b : Nat) (g : Gm) (W : World) : Prop := ∃ a, W.heap[b]? = some (.cells a 79 (0, 0)) ∧ GA a g
theorem GB.lt {b : Nat} {g : Gm} {W : World} (h : GB b g W) : b < W.heap.size := by obtain ⟨a, h, _⟩ := h; exact lt_of_heap h
theorem GB.on {b : Nat} {g : Gm} {W W' : World} (h : GB b g W) (he : W'.heap[b]? = W.heap[b]?) : GB b g W' := by obtain ⟨a, h1, h2⟩ := h; exact ⟨a, he.trans h1, h2⟩
theorem GB.keep {b : Nat} {g : Gm} {W W' : World} (h : GB b g W) (hb : Below W.heap.size W W') : GB b g W' := h.on (hb.block _ h.lt)
theorem GB.alloc {b : Nat} {g : Gm} {W : World} (h : GB b g W) (o : Obj) : GB b g (W.alloc o) := h.on (Below.heap_alloc _ _ _ h.lt)
theorem GB.drew {b : Nat} {g : Gm} {W : World} (h : GB b g W) : GB b g W.drew := h
theorem GB.free {b : Nat} {g : Gm} {W : World} (h : GB b g W) (i : Nat) : W.frozen? ⟨b, i, none⟩ = false := by obtain ⟨a, h, _⟩ := h; exact Joins.unfrozen_of_block h i
theorem GB.setOther {b k : Nat} {g : Gm} {W : World} (h : GB b g W) (hk : b ≠ k) (i : Nat) (v : Value) : GB b g (W.setCell ⟨k, i, none⟩ v) := h.on (heap_setCell_other _ _ _ _ (by exact hk))
theorem GB.cBytes {b : Nat} {g : Gm} {W : World} (h : GB b g W) (i : Nat) (hi : i < 4000) : W.cell? ⟨b, 1 + i, none⟩ = some (.int .u8 ((g.bytes i).toNat : Int)) := by obtain ⟨a, h, h2⟩ := h; rw [Joins.cell_of_block h]; exact h2.bytes i hi
theorem GB.cThere {b : Nat} {g : Gm} {W : World} (h : GB b g W) (i : Nat) (hi : i < 4000) : W.cell? ⟨b, 4001 + i, none⟩ = some (.bool (g.there i)) := by obtain ⟨a, h, h2⟩ := h; rw [Joins.cell_of_block h]; exact h2.there i hi
theorem GB.cLeft {b : Nat} {g : Gm} {W : World} (h : GB b g W) : W.cell? ⟨b, 0, none⟩ = some (.int .i64 g.left) := by obtain ⟨a, h, h2⟩ := h; rw [Joins.cell_of_block h]; exact h2.left
theorem GB.cMany {b : Nat} {g : Gm} {W : World} (h : GB b g W) : W.cell? ⟨b, 8001, none⟩ = some (.int .i64 (g.many : Int)) := by obtain ⟨a, h, h2⟩ := h; rw [Joins.cell_of_block h]; exact h2.many
theorem GB.cReach {b : Nat} {g : Gm} {W : World} (h : GB b g W) : W.cell? ⟨b, 8002, none⟩ = some (.int .i64 (g.reach : Int)) := by obtain ⟨a, h, h2⟩ := h; rw [Joins.cell_of_block h]; exact h2.reach
theorem GB.cClosed {b : Nat} {g : Gm} {W : World} (h : GB b g W) : W.cell? ⟨b, 8003, none⟩ = some (.bool g.closed) := by obtain ⟨a, h, h2⟩ := h; rw [Joins.cell_of_block h]; exact h2.closed
theorem GB.cDont {b : Nat} {g : Gm} {W : World} (h : GB b g W) : W.cell? ⟨b, 8004, none⟩ = some (.bool g.dont) := by obtain ⟨a, h, h2⟩ := h; rw [Joins.cell_of_block h]; exact h2.dont
theorem GB.cTtl {b : Nat} {g : Gm} {W : World} (h : GB b g W) : W.cell? ⟨b, 8005, none⟩ = some (.int .i64 g.ttl) := by obtain ⟨a, h, h2⟩ := h; rw [Joins.cell_of_block h]; exact h2.ttl
theorem GB.setLeft {b : Nat} {g : Gm} {W : World} (h : GB b g W) (x : Int) : GB b { g with left := x } (W.setCell ⟨b, 0, none⟩ (.int .i64 x)) := by
  obtain ⟨a, h, h2⟩ := h
  exact ⟨_, Joins.block_setCell h _, ⟨by simp [h2.size], by rw [Array.getElem?_setIfInBounds_self_of_lt (by rw [h2.size]; omega)], fun j hj => by rw [Array.getElem?_setIfInBounds_ne (by omega)]; exact h2.bytes j hj, fun j hj => by rw [Array.getElem?_setIfInBounds_ne (by omega)]; exact h2.there j hj, by rw [Array.getElem?_setIfInBounds_ne (by omega)]; exact h2.many, by rw [Array.getElem?_setIfInBounds_ne (by omega)]; exact h2.reach, by rw [Array.getElem?_setIfInBounds_ne (by omega)]; exact h2.closed, by rw [Array.getElem?_setIfInBounds_ne (by omega)]; exact h2.dont, by rw [Array.getElem?_setIfInBounds_ne (by omega)]; exact h2.ttl⟩⟩
theorem GB.setMany {b : Nat} {g : Gm} {W : World} (h : GB b g W) (x : Nat) : GB b { g with many := x } (W.setCell ⟨b, 8001, none⟩ (.int .i64 (x : Int))) := by
  obtain ⟨a, h, h2⟩ := h
  exact ⟨_, Joins.block_setCell h _, ⟨by simp [h2.size], by rw [Array.getElem?_setIfInBounds_ne (by omega)]; exact h2.left, fun j hj => by rw [Array.getElem?_setIfInBounds_ne (by omega)]; exact h2.bytes j hj, fun j hj => by rw [Array.getElem?_setIfInBounds_ne (by omega)]; exact h2.there j hj, by rw [Array.getElem?_setIfInBounds_self_of_lt (by rw [h2.size]; omega)], by rw [Array.getElem?_setIfInBounds_ne (by omega)]; exact h2.reach, by rw [Array.getElem?_setIfInBounds_ne (by omega)]; exact h2.closed, by rw [Array.getElem?_setIfInBounds_ne (by omega)]; exact h2.dont, by rw [Array.getElem?_setIfInBounds_ne (by omega)]; exact h2.ttl⟩⟩
theorem GB.setReach {b : Nat} {g : Gm} {W : World} (h : GB b g W) (x : Nat) : GB b { g with reach := x } (W.setCell ⟨b, 8002, none⟩ (.int .i64 (x : Int))) := by
  obtain ⟨a, h, h2⟩ := h
  exact ⟨_, Joins.block_setCell h _, ⟨by simp [h2.size], by rw [Array.getElem?_setIfInBounds_ne (by omega)]; exact h2.left, fun j hj => by rw [Array.getElem?_setIfInBounds_ne (by omega)]; exact h2.bytes j hj, fun j hj => by rw [Array.getElem?_setIfInBounds_ne (by omega)]; exact h2.there j hj, by rw [Array.getElem?_setIfInBounds_ne (by omega)]; exact h2.many, by rw [Array.getElem?_setIfInBounds_self_of_lt (by rw [h2.size]; omega)], by rw [Array.getElem?_setIfInBounds_ne (by omega)]; exact h2.closed, by rw [Array.getElem?_setIfInBounds_ne (by omega)]; exact h2.dont, by rw [Array.getElem?_setIfInBounds_ne (by omega)]; exact h2.ttl⟩⟩
theorem GB.setClosed {b : Nat} {g : Gm} {W : World} (h : GB b g W) (x : Bool) : GB b { g with closed := x } (W.setCell ⟨b, 8003, none⟩ (.bool x)) := by
  obtain ⟨a, h, h2⟩ := h
  exact ⟨_, Joins.block_setCell h _, ⟨by simp [h2.size], by rw [Array.getElem?_setIfInBounds_ne (by omega)]; exact h2.left, fun j hj => by rw [Array.getElem?_setIfInBounds_ne (by omega)]; exact h2.bytes j hj, fun j hj => by rw [Array.getElem?_setIfInBounds_ne (by omega)]; exact h2.there j hj, by rw [Array.getElem?_setIfInBounds_ne (by omega)]; exact h2.many, by rw [Array.getElem?_setIfInBounds_ne (by omega)]; exact h2.reach, by rw [Array.getElem?_setIfInBounds_self_of_lt (by rw [h2.size]; omega)], by rw [Array.getElem?_setIfInBounds_ne (by omega)]; exact h2.dont, by rw [Array.getElem?_setIfInBounds_ne (by omega)]; exact h2.ttl⟩⟩
theorem GB.setDont {b : Nat} {g : Gm} {W : World} (h : GB b g W) (x : Bool) : GB b { g with dont := x } (W.setCell ⟨b, 8004, none⟩ (.bool x)) := by
  obtain ⟨a, h, h2⟩ := h
  exact ⟨_, Joins.block_setCell h _, ⟨by simp [h2.size], by rw [Array.getElem?_setIfInBounds_ne (by omega)]; exact h2.left, fun j hj => by rw [Array.getElem?_setIfInBounds_ne (by omega)]; exact h2.bytes j hj, fun j hj => by rw [Array.getElem?_setIfInBounds_ne (by omega)]; exact h2.there j hj, by rw [Array.getElem?_setIfInBounds_ne (by omega)]; exact h2.many, by rw [Array.getElem?_setIfInBounds_ne (by omega)]; exact h2.reach, by rw [Array.getElem?_setIfInBounds_ne (by omega)]; exact h2.closed, by rw [Array.getElem?_setIfInBounds_self_of_lt (by rw [h2.size]; omega)], by rw [Array.getElem?_setIfInBounds_ne (by omega)]; exact h2.ttl⟩⟩
theorem GB.setTtl {b : Nat} {g : Gm} {W : World} (h : GB b g W) (x : Int) : GB b { g with ttl := x } (W.setCell ⟨b, 8005, none⟩ (.int .i64 x)) := by
  obtain ⟨a, h, h2⟩ := h
  exact ⟨_, Joins.block_setCell h _, ⟨by simp [h2.size], by rw [Array.getElem?_setIfInBounds_ne (by omega)]; exact h2.left, fun j hj => by rw [Array.getElem?_setIfInBounds_ne (by omega)]; exact h2.bytes j hj, fun j hj => by rw [Array.getElem?_setIfInBounds_ne (by omega)]; exact h2.there j hj, by rw [Array.getElem?_setIfInBounds_ne (by omega)]; exact h2.many, by rw [Array.getElem?_setIfInBounds_ne (by omega)]; exact h2.reach, by rw [Array.getElem?_setIfInBounds_ne (by omega)]; exact h2.closed, by rw [Array.getElem?_setIfInBounds_ne (by omega)]; exact h2.dont, by rw [Array.getElem?_setIfInBounds_self_of_lt (by rw [h2.size]; omega)]⟩⟩
theorem GB.setThere {b : Nat} {g : Gm} {W : World} (h : GB b g W) (i : Nat) (hi : i < 4000) (x : Bool) : GB b { g with there := fun j => if j = i then x else g.there j } (W.setCell ⟨b, 4001 + i, none⟩ (.bool x)) := by
  obtain ⟨a, h, h2⟩ := h
  refine ⟨_, Joins.block_setCell h _, ⟨by simp [h2.size], by rw [Array.getElem?_setIfInBounds_ne (by omega)]; exact h2.left, fun j hj => by rw [Array.getElem?_setIfInBounds_ne (by omega)]; exact h2.bytes j hj, fun j hj => by
    by_cases e : j = i
    · subst e; rw [Array.getElem?_setIfInBounds_self_of_lt (by rw [h2.size]; omega)]; simp
    · rw [Array.getElem?_setIfInBounds_ne (by omega)]
      show _ = some (Value.bool (if j = i then x else g.there j))
      rw [if_neg e]; exact h2.there j hj, by rw [Array.getElem?_setIfInBounds_ne (by omega)]; exact h2.many, by rw [Array.getElem?_setIfInBounds_ne (by omega)]; exact h2.reach, by rw [Array.getElem?_setIfInBounds_ne (by omega)]; exact h2.closed, by rw [Array.getElem?_setIfInBounds_ne (by omega)]; exact h2.dont, by rw [Array.getElem?_setIfInBounds_ne (by omega)]; exact h2.ttl⟩⟩
/-- All blocks that were there are as they were, but for those of the list. -/
structure Kp (bs : List Nat) (w w' : World) : Prop where
  os : w'.os = w.os
  tape : w'.tape = w.tape
  output : w'.output = w.output
  size : w.heap.size ≤ w'.heap.size
  block : ∀ k, k < w.heap.size → k ∉ bs → w'.heap[k]? = w.heap[k]?
theorem Kp.ofBelow {bs : List Nat} {w w' : World} (h : Below w.heap.size w w') : Kp bs w w' := ⟨h.os, h.tape, h.output, h.size, fun k hk _ => h.block k hk⟩
theorem Kp.refl (bs : List Nat) (w : World) : Kp bs w w := .ofBelow (Below.refl _ _)
theorem Kp.trans {bs cs : List Nat} {w w1 w2 : World} (h : Kp bs w w1) (k : Kp cs w1 w2) (hc : ∀ x ∈ cs, x ∈ bs ∨ w.heap.size ≤ x) : Kp bs w w2 :=
  ⟨k.os.trans h.os, k.tape.trans h.tape, k.output.trans h.output, Nat.le_trans h.size k.size, fun i hi hn =>
    (k.block i (Nat.lt_of_lt_of_le hi h.size) (fun hm => by rcases hc i hm with h1 | h1; exact hn h1; omega)).trans (h.block i hi hn)⟩
theorem Kp.mono {bs cs : List Nat} {w w' : World} (h : Kp bs w w') (hs : ∀ x ∈ bs, x ∈ cs) : Kp cs w w' := ⟨h.os, h.tape, h.output, h.size, fun k hk hn => h.block k hk fun hm => hn (hs k hm)⟩
theorem Kp.setCell {bs : List Nat} {w w' : World} (h : Kp bs w w') {p : Addr} (hp : p.block ∈ bs ∨ w.heap.size ≤ p.block) (u : Value) : Kp bs w (w'.setCell p u) :=
  h.trans (cs := [p.block]) ⟨rfl, rfl, rfl, by simp [World.setCell], fun k hk hn => Below.heap_setCell _ _ _ _ (by simpa using hn)⟩ (by simpa using hp)
theorem Kp.drew {bs : List Nat} {w w' : World} (h : Kp bs w w') : Kp bs w w'.drew := ⟨h.os, h.tape, h.output, h.size, h.block⟩
theorem Kp.below {bs : List Nat} {w w' : World} (h : Kp bs w w') {B : Nat} (hB : B ≤ w.heap.size) (hb : ∀ k ∈ bs, B ≤ k) : Below B w w' :=
  ⟨h.os, h.tape, h.output, h.size, fun k hk => h.block k (by omega) fun hm => by have := hb k hm; omega⟩
theorem Kp.alloc {bs : List Nat} {w w' : World} (h : Kp bs w w') (o : Obj) : Kp bs w (w'.alloc o) := h.trans (cs := []) (Kp.ofBelow ((Below.refl _ _).alloc (Nat.le_refl _) _)) (by simp)
theorem Kp.then {bs : List Nat} {w w1 w2 : World} (h : Kp bs w w1) (hb : Below w1.heap.size w1 w2) : Kp bs w w2 := h.trans (cs := []) (Kp.ofBelow hb) (by simp)
theorem GB.kp {b : Nat} {g : Gm} {bs : List Nat} {W W' : World} (h : GB b g W) (hk : Kp bs W W') (hn : b ∉ bs) : GB b g W' := h.on (hk.block b h.lt hn)

/-- Bytes laid over others, from o on. -/
def bput (f : Nat → UInt8) (o : Nat) (s : ByteArray) : Nat → UInt8 := fun j => if o ≤ j ∧ j < o + s.size then s.data.toList.getD (j - o) 0 else f j
/-- A row with bytes laid into it. -/
def rput (cur : Array Value) (o : Nat) (s : ByteArray) : Array Value := (cur.toList.take o ++ Lib.byteCells s.data.toList ++ cur.toList.drop (o + s.size)).toArray
theorem bc_len (s : ByteArray) : (Lib.byteCells s.data.toList).length = s.size := by rw [Lib.byteCells_length, ← Lib.size_eq]
theorem rput_lo {cur : Array Value} {o : Nat} {s : ByteArray} (h : o + s.size ≤ cur.size) {i : Nat} (hi : i < o) : (rput cur o s)[i]? = cur[i]? := by
  unfold rput
  rw [List.getElem?_toArray, List.append_assoc, List.getElem?_append_left (by simp; omega), List.getElem?_take, if_pos hi, Array.getElem?_toList]
theorem rput_hi {cur : Array Value} {o : Nat} {s : ByteArray} (h : o + s.size ≤ cur.size) {i : Nat} (hi : o + s.size ≤ i) : (rput cur o s)[i]? = cur[i]? := by
  unfold rput
  have e : (cur.toList.take o ++ Lib.byteCells s.data.toList).length = o + s.size := by simp [bc_len]; omega
  rw [List.getElem?_toArray, List.getElem?_append_right (by rw [e]; exact hi), e, List.getElem?_drop, Array.getElem?_toList]
  congr 1; omega
theorem rput_mid {cur : Array Value} {o : Nat} {s : ByteArray} (h : o + s.size ≤ cur.size) {i : Nat} (h1 : o ≤ i) (h2 : i < o + s.size) : (rput cur o s)[i]? = some (.int .u8 ((s.data.toList.getD (i - o) 0).toNat : Int)) := by
  unfold rput
  have e0 : (cur.toList.take o).length = o := by simp; omega
  have e : (cur.toList.take o ++ Lib.byteCells s.data.toList).length = o + s.size := by simp [bc_len]; omega
  have hs : i - o < s.data.toList.length := by rw [← Lib.size_eq]; omega
  rw [List.getElem?_toArray, List.getElem?_append_left (by rw [e]; exact h2), List.getElem?_append_right (by rw [e0]; exact h1), e0]
  simp only [Lib.byteCells, List.getElem?_map, List.getElem?_eq_getElem hs, Option.map_some, List.getD_eq_getElem?_getD, Option.getD_some]
theorem rput_size {cur : Array Value} {o : Nat} {s : ByteArray} (h : o + s.size ≤ cur.size) : (rput cur o s).size = cur.size := by
  unfold rput
  simp [bc_len]; omega
theorem GB.copy {b : Nat} {g : Gm} {W : World} (h : GB b g W) (o n cap : Nat) (s : ByteArray) (hn : s.size ≤ n) (ho : o + s.size ≤ 4000) :
    ∃ W', (∀ ty, (Builtin.copy_ #[93, 9] ty #[.slice (some ⟨b, 1 + o, none⟩) n cap, .string s]).run Try.prog W = .ok (.int .i64 (s.size : Int)) W') ∧ GB b { g with bytes := bput g.bytes o s } W' ∧ Kp [b] W W' := by
  obtain ⟨a, h, h2⟩ := h
  have hf : 1 + o + s.size ≤ a.size := by rw [h2.size]; omega
  refine ⟨W.setRow b (rput a (1 + o) s), fun ty => Lib.run_copy_row_string W 93 9 ty 5 b (1 + o) n cap s a 79 Try.underlying93 info5 h hn hf, ⟨_, setRow_heap _ _ _ _ _ _ h, ?_⟩, ⟨rfl, rfl, rfl, by simp [World.setRow], fun k hk hm => setRow_other _ _ _ _ (by simpa using hm)⟩⟩
  refine ⟨(rput_size hf).trans h2.size, (rput_lo hf (by omega)).trans h2.left, fun j hj => ?_, fun j hj => (rput_hi hf (by omega)).trans (h2.there j hj), (rput_hi hf (by omega)).trans h2.many, (rput_hi hf (by omega)).trans h2.reach, (rput_hi hf (by omega)).trans h2.closed, (rput_hi hf (by omega)).trans h2.dont, (rput_hi hf (by omega)).trans h2.ttl⟩
  show _ = some (Value.int .u8 ((bput g.bytes o s j).toNat : Int))
  unfold bput
  by_cases hm : o ≤ j ∧ j < o + s.size
  · rw [if_pos hm, rput_mid hf (by omega) (by omega), show 1 + j - (1 + o) = j - o from by omega]
  · rw [if_neg hm]
    rcases Nat.lt_or_ge j o with h3 | h3
    · exact (rput_lo hf (by omega)).trans (h2.bytes j hj)
    · exact (rput_hi hf (by omega)).trans (h2.bytes j hj)

/-- The first n bytes. -/
def gstr (g : Gm) (n : Nat) : ByteArray := ⟨((List.range n).map g.bytes).toArray⟩
theorem gstr_size (g : Gm) (n : Nat) : (gstr g n).size = n := by simp [gstr, ByteArray.size]
theorem GB.str {b : Nat} {g : Gm} {W : World} (h : GB b g W) (n cap : Nat) (hn : n ≤ 4000) :
    (convert 93 9 (.slice (some ⟨b, 1, none⟩) n cap)).run Try.prog W = .ok (.string (gstr g n)) W := by
  have e := run_convert_bytes_back (P := Try.prog) W 93 9 5 ⟨b, 1, none⟩ cap ((List.range n).map g.bytes) Try.underlying93 Try.underlying5 Try.underlying9 (fun j hj => by
    have hj : j < n := by simpa using hj
    rw [Addr.add_mid, h.cBytes j (by omega)]
    simp)
  have el : ((List.range n).map g.bytes).length = n := by simp
  rw [el] at e
  exact e

/-- A new one. -/
def gm0 : Gm := ⟨30, fun _ => 0, fun _ => false, 0, 0, false, false, 0⟩
/-- The cells of a new one. -/
def gl : List Value := .int .i64 30 :: (List.replicate 4000 (.int .u8 0) ++ (List.replicate 4000 (.bool false) ++ [.int .i64 0, .int .i64 0, .bool false, .bool false, .int .i64 0]))
def gz : Array Value := gl.toArray
theorem run_build_gm (w : World) : (Instr.build 79 #[(0, .int .i64 30)]).run Try.prog w = .ok (.agg gz) w := by kernel_rfl
theorem gz_get (i : Nat) : gz[i]? = gl[i]? := by unfold gz; rw [List.getElem?_toArray]
theorem gz_ga : GA gz gm0 := by
  have e : ∀ i, gl[1 + i]? = (List.replicate 4000 (Value.int .u8 0) ++ (List.replicate 4000 (Value.bool false) ++ [.int .i64 0, .int .i64 0, .bool false, .bool false, .int .i64 0]))[i]? := fun i => by
    unfold gl; rw [Nat.add_comm, List.getElem?_cons_succ]
  have e2 : ∀ i, gl[4001 + i]? = (List.replicate 4000 (Value.bool false) ++ [Value.int .i64 0, .int .i64 0, .bool false, .bool false, .int .i64 0])[i]? := fun i => by
    rw [show 4001 + i = 1 + (4000 + i) from by omega, e, List.getElem?_append_right (by rw [List.length_replicate]; omega), List.length_replicate, Nat.add_sub_cancel_left]
  have e3 : ∀ i, gl[8001 + i]? = [Value.int .i64 0, .int .i64 0, .bool false, .bool false, .int .i64 0][i]? := fun i => by
    rw [show 8001 + i = 4001 + (4000 + i) from by omega, e2, List.getElem?_append_right (by rw [List.length_replicate]; omega), List.length_replicate, Nat.add_sub_cancel_left]
  refine ⟨?_, ?_, fun i hi => ?_, fun i hi => ?_, ?_, ?_, ?_, ?_, ?_⟩
  · show gl.toArray.size = 8006
    rw [List.size_toArray]; unfold gl; rw [List.length_cons, List.length_append, List.length_replicate, List.length_append, List.length_replicate]; rfl
  · rw [gz_get]; rfl
  · rw [gz_get, e, List.getElem?_append_left (by rw [List.length_replicate]; exact hi), List.getElem?_replicate, if_pos hi]; rfl
  · rw [gz_get, e2, List.getElem?_append_left (by rw [List.length_replicate]; exact hi), List.getElem?_replicate, if_pos hi]; rfl
  · rw [gz_get]; exact e3 0
  · rw [gz_get]; exact e3 1
  · rw [gz_get]; exact e3 2
  · rw [gz_get]; exact e3 3
  · rw [gz_get]; exact e3 4
theorem GB.new (W : World) : GB W.heap.size gm0 (W.alloc (.cells gz 79)) := ⟨gz, heap_alloc_new _ _, gz_ga⟩
end Go.Proofs.Ytfnmcnbiahfnfaa
