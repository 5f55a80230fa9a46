/-
  The well known hash; bytes that are gathered by append, read back as a text.
-/
import Derived.Test.YtamfoeacldppkaaPb
import Derived.Deep.AppendLies
import Derived.Deep.WholeRow
namespace Go.Proofs.Ytamfoeacldppkaa
open Go.RowKit
set_option linter.unusedVariables false
set_option linter.unusedSimpArgs false

/-- The bytes 0, 1, .., as many as k. -/
def upto : Nat → List UInt8
  | 0 => []
  | k + 1 => upto k ++ [UInt8.ofNat k]
theorem upto_length (k : Nat) : (upto k).length = k := by
  induction k with
  | zero => rfl
  | succ k ih => simp [upto, ih]
def upT (k : Nat) : ByteArray := ⟨(upto k).toArray⟩
theorem upT_size (k : Nat) : (upT k).size = k := by show (upto k).toArray.size = k; simp [upto_length]
theorem upT_next (k : Nat) : upT k ++ one k = upT (k + 1) := by
  apply ByteArray.ext; apply Array.toList_inj.1
  rw [ByteArray.data_append, Array.toList_append]; rfl
theorem known_sip : sip 506097522914230528 1084818905618843912 (upT 15).data.toList = 11613035633349379557 := by kernel_rfl
/-- Bytes as values. -/
def vals (L : List UInt8) : List Value := L.map fun b => .int .u8 (b.toNat : Int)
theorem vals_append (L M : List UInt8) : vals (L ++ M) = vals L ++ vals M := List.map_append
theorem vals_length (L : List UInt8) : (vals L).length = L.length := List.length_map _
theorem vals_one (L : List UInt8) : ∀ u ∈ vals L, u.oneCell' = true := by
  intro u hu; obtain ⟨b, _, rfl⟩ := List.mem_map.1 hu; rfl
/-- A slice of bytes of the call's own, read as a text. -/
theorem conv_row {w : World} {base g cap n : Nat} {L : List UInt8} (h : w.ownsRow base 5 1 (.slice (some ⟨g, 0, none⟩) n cap) n (vals L)) (hn : L.length = n) :
    (convert 30 9 (.slice (some ⟨g, 0, none⟩) n cap)).run Try.prog w = .ok (.string ⟨L.toArray⟩) w := by
  subst hn
  refine run_convert_bytes_back _ 30 9 5 ⟨g, 0, none⟩ cap L Try.underlying30 Try.underlying5 Try.underlying9 ?_
  intro j hj
  rcases h.2 with ⟨h0, _⟩ | ⟨g', cap', cur, hv, _, hg, _, _, _, ht⟩
  · cases h0
  · cases hv
    have ha : (⟨g, 0, none⟩ : Addr).add j = ⟨g, j, none⟩ := by
      simp only [Addr.add]; split
      · subst_vars; rfl
      · simp
    rw [ha, Joins.cell_of_block hg j]
    have h1 : (cur.toList.take (L.length * 1))[j]? = some (.int .u8 (L[j].toNat : Int)) := by
      rw [ht]; unfold vals; simp [List.getElem?_eq_getElem hj]
    rw [List.getElem?_take_of_lt (by omega)] at h1
    simpa using h1
/-- The two ends in an array. -/
def AB (b : Nat) (e f : En) (W : World) : Prop := W.heap[b]? = some (.cells #[.int .u32 (e.a : Int), .int .i64 e.p, .int .u32 (f.a : Int), .int .i64 f.p] 27 (0, 0))
section
variable {b : Nat} {e f : En} {W W' : World}
theorem AB.lt (h : AB b e f W) : b < W.heap.size := lt_of_heap h
theorem AB.keep (h : AB b e f W) (hb : Below W.heap.size W W') : AB b e f W' := (hb.block _ h.lt).trans h
theorem AB.new (e f : En) (w : World) : AB w.heap.size e f (w.alloc (.cells #[.int .u32 (e.a : Int), .int .i64 e.p, .int .u32 (f.a : Int), .int .i64 f.p] 27)) := heap_alloc_new _ _
theorem AB.r0 (h : AB b e f W) : W.rangeAt b 0 (ecl e) := fun j u hu => by
  rw [Nat.zero_add, Joins.cell_of_block h j, ← hu]
  have hj : j < 2 := (List.getElem?_eq_some_iff.1 hu).1
  match j, hj with
  | 0, _ => rfl
  | 1, _ => rfl
theorem AB.r2 (h : AB b e f W) : W.rangeAt b 2 (ecl f) := fun j u hu => by
  rw [Joins.cell_of_block h (2 + j), ← hu]
  have hj : j < 2 := (List.getElem?_eq_some_iff.1 hu).1
  match j, hj with
  | 0, _ => rfl
  | 1, _ => rfl
end
theorem row_keep {w w' : World} {base e s n : Nat} {v : Value} {xs : List Value} (h : w.ownsRow base e s v n xs) (hb : Below w.heap.size w w') : w'.ownsRow base e s v n xs := by
  refine ⟨h.1, ?_⟩
  rcases h.2 with h0 | ⟨g, cap, cur, hv, hg0, hg, h1, h2, h3, h4⟩
  · exact .inl h0
  · exact .inr ⟨g, cap, cur, hv, hg0, (hb.block _ (lt_of_heap hg)).trans hg, h1, h2, h3, h4⟩
theorem E2.grown {p q R : Nat} {e f : En} {W W' : World} {row : Option Nat} (h : E2 p q e f W) (hg : W.grownBy W' row) (hr : ∀ k, row = some k → R + 1 ≤ k ∧ k < W.heap.size) (hp : p ≤ R) (hq : q ≤ R) : E2 p q e f W' := by
  refine ⟨(hg.block p h.a.lt ?_).trans h.a, (hg.block q h.b.lt ?_).trans h.b⟩
  · intro he; have := hr p he.symm; omega
  · intro he; have := hr q he.symm; omega
theorem AB.grown {b : Nat} {e f : En} {W W' : World} {row : Option Nat} (h : AB b e f W) (hg : W.grownBy W' row) (hr : ∀ k, row = some k → b + 1 ≤ k ∧ k < W.heap.size) : AB b e f W' := by
  refine (hg.block b h.lt ?_).trans h
  intro he; have := hr b he.symm; omega
/-- The two boxes, and the twelve bytes. -/
structure K3 (p q B g cap : Nat) (e f : En) (W : World) : Prop where
  t : E2 p q e f W
  r : W.ownsRow B 5 1 (.slice (some ⟨g, 0, none⟩) 12 cap) 12 (vals (eb e ++ eb f))
theorem K3.keep {p q B g cap : Nat} {e f : En} {W W' : World} (h : K3 p q B g cap e f W) (hb : Below W.heap.size W W') : K3 p q B g cap e f W' := ⟨h.t.keep hb, row_keep h.r hb⟩
/-- The six numbers that are appended are the end's six bytes. -/
theorem six (e : En) (h : EFits e) : [Value.int .u8 ((e.a : Int) / 16777216), .int .u8 ((e.a : Int) / 65536 % 256), .int .u8 ((e.a : Int) / 256 % 256), .int .u8 ((e.a : Int) % 256), .int .u8 (e.p / 256 % 256), .int .u8 (e.p % 256)] = vals (eb e) := by
  have ha := h.a
  unfold vals eb lo
  simp only [List.map_cons, List.map_nil, UInt8.toNat_ofNat']
  rw [show ((e.a : Int) / 16777216) = ((e.a / 16777216 % 2 ^ 8 : Nat) : Int) from by omega, show ((e.a : Int) / 65536 % 256) = ((e.a / 65536 % 2 ^ 8 : Nat) : Int) from by omega, show ((e.a : Int) / 256 % 256) = ((e.a / 256 % 2 ^ 8 : Nat) : Int) from by omega, show ((e.a : Int) % 256) = ((e.a % 2 ^ 8 : Nat) : Int) from by omega, show (e.p / 256 % 256) = (((e.p % 65536).toNat / 256 % 2 ^ 8 : Nat) : Int) from by omega, show (e.p % 256) = (((e.p % 65536).toNat % 2 ^ 8 : Nat) : Int) from by omega]
/-- A whole struct goes into the block that was made last. -/
theorem wpList_store_last {P : Program} {ops : Array Oper} {rest : List Oper} {op : Oper} {a : Act} {w : World} {Q : Exit → Act → World → Prop} (hgd : op.guard = none) (ty : TypeId) (x y : Operand) (ho : op.op = .store ty x y)
    (w0 : World) (c c' : Array Value) (hw : w = w0.alloc (.cells c ty)) (hx : a.eval x = .pointer (some ⟨w0.heap.size, 0, none⟩)) (hy : a.eval y = .agg c') (hi : (P.info? ty).map (·.size) = some c'.size) (hs : c.size = c'.size) (h1 : c'.all (·.oneCell') = true)
    (h : wpList P ops Q rest (a.put op.dst undef) (w0.alloc (.cells c' ty))) : wpList P ops Q (op :: rest) a w :=
  wpList_plain hgd fun K hK => by
    unfold Oper.wp execOp
    simp only [ho, hx, hy, Sem.run_bind]
    rw [hw, run_storeAt_new w0 ty c c' hi hs h1]
    exact hK _ _ h
theorem info5 : (Try.prog.info? 5).map (fun i => (i.zero, i.size, i.bytes)) = some (some (.int .u8 0), 1, 1) := by kernel_rfl
end Go.Proofs.Ytamfoeacldppkaa
