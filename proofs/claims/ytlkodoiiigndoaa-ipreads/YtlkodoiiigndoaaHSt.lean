/-
  The head of a packet: contract of headOf.
-/
import Derived.Test.YtlkodoiiigndoaaFour
namespace Go.Proofs.Ytlkodoiiigndoaa
open Go.RowKit
set_option linter.unusedVariables false
set_option linter.unusedSimpArgs false

/-- Bytes as cells. -/
def cb (l : List UInt8) : List Value := l.map fun b => .int .u8 (b.toNat : Int)
theorem cb_length (l : List UInt8) : (cb l).length = l.length := by simp [cb]
theorem cb_one (l : List UInt8) : ∀ v ∈ cb l, v.oneCell' = true := Lib.byteCells_one l
theorem cb_hl (B : Nat → UInt8) : (cb (hl B)).toArray = hc B := rfl
theorem cb_hl' (B : Nat → UInt8) : cb (hl B) = hcl B := rfl
/-- Twenty bytes as a function of their places. -/
def at20 (l : List UInt8) (i : Nat) : UInt8 := l.getD i 0
theorem hl_at (l : List UInt8) (h : l.length = 20) : hl (at20 l) = l := by
  apply List.ext_getElem
  · rw [h]; rfl
  · intro n h1 h2
    have hn : n < 20 := by omega
    have e : ∀ i, (hi : i < l.length) → at20 l i = l[i] := fun i hi => by unfold at20; simp [hi]
    rw [← e n h2]
    rcases (show n = 0 ∨ n = 1 ∨ n = 2 ∨ n = 3 ∨ n = 4 ∨ n = 5 ∨ n = 6 ∨ n = 7 ∨ n = 8 ∨ n = 9 ∨ n = 10 ∨ n = 11 ∨ n = 12 ∨ n = 13 ∨ n = 14 ∨ n = 15 ∨ n = 16 ∨ n = 17 ∨ n = 18 ∨ n = 19 by omega) with rfl | rfl | rfl | rfl | rfl | rfl | rfl | rfl | rfl | rfl | rfl | rfl | rfl | rfl | rfl | rfl | rfl | rfl | rfl | rfl <;> rfl
theorem hz_at (l : List UInt8) (h : l.length = 20) : hz (at20 l) = l.take 10 ++ [0, 0] ++ l.drop 12 := by
  have e := hl_at l h
  generalize at20 l = B at *
  subst e
  rfl

abbrev z20 : Array Value := #[.int .u8 0, .int .u8 0, .int .u8 0, .int .u8 0, .int .u8 0, .int .u8 0, .int .u8 0, .int .u8 0, .int .u8 0, .int .u8 0, .int .u8 0, .int .u8 0, .int .u8 0, .int .u8 0, .int .u8 0, .int .u8 0, .int .u8 0, .int .u8 0, .int .u8 0, .int .u8 0]
abbrev z69 : Array Value := #[.int .u8 69, .int .u8 0, .int .u8 0, .int .u8 0, .int .u8 0, .int .u8 0, .int .u8 0, .int .u8 0, .int .u8 0, .int .u8 0, .int .u8 0, .int .u8 0, .int .u8 0, .int .u8 0, .int .u8 0, .int .u8 0, .int .u8 0, .int .u8 0, .int .u8 0, .int .u8 0]
def l69 : List UInt8 := [69, 0, 0, 0, 0, 0, 0, 0, 0, 0, 0, 0, 0, 0, 0, 0, 0, 0, 0, 0]
/-- The blocks of headOf's own: the packet, the result, the head so far. -/
structure HSt (w : World) (p : Pk) (l : List UInt8) (W : World) : Prop where
  hp : W.heap[w.heap.size]? = some (.cells (pc p) 24 (0, 0))
  hr : W.heap[w.heap.size + 1]? = some (.cells z20 40 (0, 0))
  hh : W.heap[w.heap.size + 1 + 1]? = some (.cells (cb l).toArray 40 (0, 0))
  bel : Below w.heap.size w W
  len : l.length = 20
theorem lt_of_heap {W : World} {k : Nat} {o : Obj} (h : W.heap[k]? = some o) : k < W.heap.size := (Array.getElem?_eq_some_iff.1 h).1
theorem HSt.new (w : World) (p : Pk) : HSt w p l69 (((w.alloc (.cells (pc p) 24)).alloc (.cells z20 40)).alloc (.cells z69 40)) := by
  have e1 : (w.alloc (.cells (pc p) 24)).heap.size = w.heap.size + 1 := by simp
  have e2 : ((w.alloc (.cells (pc p) 24)).alloc (.cells z20 40)).heap.size = w.heap.size + 1 + 1 := by simp
  refine ⟨?_, ?_, ?_, ((((Below.refl _ _).alloc (Nat.le_refl _) _).alloc (by simp) _).alloc (by rw [e2]; omega) _), rfl⟩
  · rw [Below.heap_alloc _ _ _ (by omega), Below.heap_alloc _ _ _ (by omega)]; exact heap_alloc_new _ _
  · rw [Below.heap_alloc _ _ _ (by omega)]; have := heap_alloc_new (w.alloc (.cells (pc p) 24)) (.cells z20 40); rwa [e1] at this
  · have := heap_alloc_new ((w.alloc (.cells (pc p) 24)).alloc (.cells z20 40)) (.cells z69 40); rw [e2] at this; exact this
theorem HSt.drew {w : World} {p : Pk} {l : List UInt8} {W : World} (h : HSt w p l W) : HSt w p l W.drew := ⟨h.hp, h.hr, h.hh, h.bel.drew, h.len⟩
theorem HSt.keep {w : World} {p : Pk} {l : List UInt8} {W W1 : World} (h : HSt w p l W) (hb : Below W.heap.size W W1) : HSt w p l W1 :=
  ⟨(hb.block _ (lt_of_heap h.hp)).trans h.hp, (hb.block _ (lt_of_heap h.hr)).trans h.hr, (hb.block _ (lt_of_heap h.hh)).trans h.hh, h.bel.trans (hb.mono (Nat.le_of_lt (lt_of_heap h.hp))), h.len⟩
theorem HSt.c0 {w : World} {p : Pk} {l : List UInt8} {W : World} (h : HSt w p l W) : W.cell? ⟨w.heap.size, 0, none⟩ = some (.int .u32 (p.src : Int)) := Joins.cell_of_block h.hp 0
theorem HSt.c1 {w : World} {p : Pk} {l : List UInt8} {W : World} (h : HSt w p l W) : W.cell? ⟨w.heap.size, 1, none⟩ = some (.int .u32 (p.dst : Int)) := Joins.cell_of_block h.hp 1
theorem HSt.c2 {w : World} {p : Pk} {l : List UInt8} {W : World} (h : HSt w p l W) : W.cell? ⟨w.heap.size, 2, none⟩ = some (.int .i64 p.proto) := Joins.cell_of_block h.hp 2
theorem HSt.c3 {w : World} {p : Pk} {l : List UInt8} {W : World} (h : HSt w p l W) : W.cell? ⟨w.heap.size, 3, none⟩ = some (.int .i64 p.ttl) := Joins.cell_of_block h.hp 3
theorem HSt.c4 {w : World} {p : Pk} {l : List UInt8} {W : World} (h : HSt w p l W) : W.cell? ⟨w.heap.size, 4, none⟩ = some (.int .i64 p.id) := Joins.cell_of_block h.hp 4
theorem HSt.c5 {w : World} {p : Pk} {l : List UInt8} {W : World} (h : HSt w p l W) : W.cell? ⟨w.heap.size, 5, none⟩ = some (.bool p.dont) := Joins.cell_of_block h.hp 5
theorem HSt.c6 {w : World} {p : Pk} {l : List UInt8} {W : World} (h : HSt w p l W) : W.cell? ⟨w.heap.size, 6, none⟩ = some (.bool p.more) := Joins.cell_of_block h.hp 6
theorem HSt.c7 {w : World} {p : Pk} {l : List UInt8} {W : World} (h : HSt w p l W) : W.cell? ⟨w.heap.size, 7, none⟩ = some (.int .i64 p.off) := Joins.cell_of_block h.hp 7
theorem HSt.c8 {w : World} {p : Pk} {l : List UInt8} {W : World} (h : HSt w p l W) : W.cell? ⟨w.heap.size, 8, none⟩ = some (.string p.body) := Joins.cell_of_block h.hp 8
theorem HSt.put {w : World} {p : Pk} {l : List UInt8} {W : World} (h : HSt w p l W) (l' : List UInt8) (C : Array Value) (hC : C = (cb l').toArray) (hl : l'.length = 20) : HSt w p l' (W.setRow (w.heap.size + 1 + 1) C) := by
  subst hC
  exact ⟨(setRow_other _ _ _ _ (by omega)).trans h.hp, (setRow_other _ _ _ _ (by omega)).trans h.hr, setRow_heap _ _ _ _ _ _ h.hh, below_setRow h.bel (by omega) _, hl⟩
theorem info5 : (Try.prog.info? 5).map (·.size) = some 1 := by kernel_rfl
theorem HSt.copy {w : World} {p : Pk} {l : List UInt8} {W : World} (h : HSt w p l W) (o n : Nat) (s : ByteArray) (hn : s.size ≤ n) (ho : o + s.size ≤ 20) :
    ∃ W', (Builtin.copy_ #[42, 9] 3 #[.slice (some ⟨w.heap.size + 1 + 1, o, none⟩) n n, .string s]).run Try.prog W = .ok (goInt s.size) W' ∧ HSt w p (l.take o ++ s.data.toList ++ l.drop (o + s.size)) W' := by
  refine ⟨_, Lib.run_copy_row_string W 42 9 3 5 (w.heap.size + 1 + 1) o n n s (cb l).toArray 40 Try.underlying42 info5 h.hh hn (by rw [List.size_toArray, cb_length, h.len]; exact ho), ?_⟩
  refine h.put _ _ ?_ ?_
  · congr 1
    simp [cb, Lib.byteCells]
  · have := h.len
    have e := Lib.size_eq s
    simp only [List.length_append, List.length_take, List.length_drop]
    omega
theorem HSt.range {w : World} {p : Pk} {l : List UInt8} {W : World} (h : HSt w p l W) : W.rangeAt (w.heap.size + 1 + 1) 0 (cb l) := by
  have hR := World.rangeAt_of_block h.hh 0 20
  have e := h.len
  have e2 : ((cb l).toArray.extract 0 (0 + 20)).toList = cb l := by
    simp only [Array.toList_extract, List.extract_eq_take_drop, List.drop_zero]
    rw [List.take_of_length_le (by simp [cb_length, e])]
  rwa [e2] at hR
theorem hcheckL (l : List UInt8) (h : l.length = 20) (w : World) :
    Calls Try.prog 31 #[.agg (cb l).toArray] w fun e w' => e = .returned (.int .i64 (hs (at20 l) : Int)) ∧ Below w.heap.size w w' := by
  have := hcheck_any (at20 l) w
  rwa [show hv (at20 l) = .agg (cb l).toArray from by rw [hv, ← cb_hl, hl_at l h]] at this
end Go.Proofs.Ytlkodoiiigndoaa
