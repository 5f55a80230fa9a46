/-
  A text copied into a row of bytes; contract of strings.Clone: the same bytes, in memory of their own.
-/
import Derived.Test.YtggoipdmiajckaaWd
import Derived.Lib.UnsafeStr
import Derived.Deep.OwnRows
import Derived.Deep.WholeRow
namespace Go.Proofs.Ytggoipdmiajckaa
open Go.RowKit
set_option linter.unusedVariables false
set_option linter.unusedSimpArgs false

/-- Bytes as cells. -/
def cb (l : List UInt8) : List Value := l.map fun b => .int .u8 (b.toNat : Int)
theorem cb_length (l : List UInt8) : (cb l).length = l.length := by simp [cb]
theorem cb_one (l : List UInt8) : ∀ v ∈ cb l, v.oneCell' = true := Lib.byteCells_one l
theorem info5 : (Try.prog.info? 5).map (·.size) = some 1 := by kernel_rfl
/-- 'copy(h[:], s)' of a text that is no shorter than h. -/
theorem copy_long (w : World) (g n cap : Nat) (s : ByteArray) (cur : Array Value) (t : TypeId) (hg : w.heap[g]? = some (.cells cur t (0, 0))) (hc : cur.size = n) (hn : n ≤ s.size) :
    (Builtin.copy_ #[44, 9] 3 #[.slice (some ⟨g, 0, none⟩) n cap, .string s]).run Try.prog w = .ok (goInt n) (w.setRow g (cb (s.data.toList.take n)).toArray) := by
  have hlen : (cb (s.data.toList.take n)).length = n := by rw [cb_length, List.length_take, ← Lib.size_eq]; omega
  have hst := run_storeCells_at Try.prog g 0 t (cb (s.data.toList.take n)) 0 cur w hg (by rw [hlen]; omega) (cb_one _)
  have hmin : Nat.min s.size n = n := Nat.min_eq_right hn
  have htk : List.take n (List.map (fun b : UInt8 => Value.int IntKind.u8 (b.toNat : Int)) s.data.toList) = cb (s.data.toList.take n) := by
    simp [cb, List.map_take]
  have hrow : (cur.toList.take (0 + 0) ++ cb (s.data.toList.take n) ++ cur.toList.drop (0 + 0 + (cb (s.data.toList.take n)).length)).toArray = (cb (s.data.toList.take n)).toArray := by
    rw [hlen, List.drop_of_length_le (by rw [Array.length_toList]; omega)]
    simp
  rw [hrow] at hst
  have hi5 := info5
  cases hq : Try.prog.info? 5 with
  | none => rw [hq] at hi5; cases hi5
  | some i =>
    simp [Builtin.copy_, run_underlying Try.underlying44, Builtin.lenOf, Builtin.firstCells, sizeOf, typeInfo, hq, hmin]
    rw [htk, hst]
    simp [Result.andThen]

theorem info5z : (Try.prog.info? 5).map (fun i => (i.zero, i.size, i.bytes)) = some (some (.int .u8 0), 1, 1) := by kernel_rfl
theorem cells5 : Try.prog.cellsOf 5 = 1 := by kernel_rfl

/-- A new row of as many bytes takes a text whole. -/
theorem copy_whole (w : World) (s : ByteArray) :
    (Builtin.copy_ #[44, 9] 3 #[.slice (some ⟨w.heap.size, 0, none⟩) s.size s.size, .string s]).run Try.prog (w.alloc (.cells (madeCells #[.int .u8 0] s.size) 5)) = .ok (.int .i64 s.size) (w.alloc (.cells (cb s.data.toList).toArray 5)) := by
  have hc := copy_long (w.alloc (.cells (madeCells #[.int .u8 0] s.size) 5)) w.heap.size s.size s.size s _ 5 (heap_alloc_new _ _) (by rw [size_madeCells]) (Nat.le_refl _)
  rw [World.setRow_alloc_new, List.take_of_length_le (by rw [Lib.size_eq]; exact Nat.le_refl _)] at hc
  exact hc
/-- 'unsafe.String' over a new row that holds a text is that text. -/
theorem string_of_row (w : World) (s : ByteArray) (h : s.size ≠ 0) (hs : s.size ≤ 281474976710656) :
    (Builtin.unsafeString_ #[67, 3] 9 #[.pointer (some ⟨w.heap.size, 0, none⟩), .int .i64 s.size]).run Try.prog (w.alloc (.cells (cb s.data.toList).toArray 5)) = .ok (.string s) ((w.alloc (.cells (cb s.data.toList).toArray 5)).freeze ⟨w.heap.size, 0, none⟩ s.size) := by
  have hg := heap_alloc_new w (.cells (cb s.data.toList).toArray 5)
  have e := Lib.size_eq s
  have hu := Lib.run_unsafeString_row (P := Try.prog) (w.alloc (.cells (cb s.data.toList).toArray 5)) 67 3 9 5 Try.underlying67 cells5 w.heap.size (cb s.data.toList).toArray.size
    (by unfold World.shape?; rw [hg]) s.data.toList (fun hn => h (by rw [e, hn]; rfl)) (by simp [cb_length]) (by omega)
    (fun j x hx => by
      rw [Addr.add_mid, Nat.zero_add, Joins.cell_of_block hg j]
      simp [cb, hx])
  rw [← e] at hu
  exact hu

theorem slClone_any (s : ByteArray) (w : World) (hs : s.size ≤ 281474976710656) :
    Calls Try.prog 44 #[.string s] w fun e w' => e = .returned (.string s) ∧ Below w.heap.size w w' := by
  by_cases h0 : s.size = 0
  · have hz : ((s.size : Int) == 0) = true := by rw [h0]; rfl
    have he : Hid (s = ⟨#[]⟩) := ByteArray.ext (Array.eq_empty_of_size_eq_zero h0)
    clear h0
    go_enter Try.func44, Try.ntmps44
    go_wp2
    go_ret
    exact ⟨by rw [he.out]; rfl, Below.refl _ _⟩
  · have hz : ((s.size : Int) == 0) = false := by rw [beq_eq_false_iff_ne]; omega
    have hmk := run_make_row' (P := Try.prog) 44 5 (.int .u8 0) 1 Try.underlying44 info5z rfl .i64 .i64 s.size (by omega) (by omega)
    have hcp := copy_whole w s
    have hst := string_of_row w s h0 hs
    have b0 : Below w.heap.size w (w.alloc (.cells (cb s.data.toList).toArray 5)) := (Below.refl _ _).alloc (Nat.le_refl _) _
    generalize (cb s.data.toList).toArray = C at *
    generalize madeCells #[.int .u8 0] s.size = M at *
    go_enter Try.func44, Try.ntmps44
    go_wp2
    go_ret
    exact ⟨rfl, Lib.below_freeze b0 (p := ⟨w.heap.size, 0, none⟩) (Nat.le_refl _) _⟩

theorem clone_any (s : ByteArray) (w : World) (hs : s.size ≤ 281474976710656) :
    Calls Try.prog 36 #[.string s] w fun e w' => e = .returned (.string s) ∧ Below w.heap.size w w' := by
  go_enter Try.func36, Try.ntmps36
  go_wp2_with fail
  refine (slClone_any s _ hs).mono ?_; rintro e w1 ⟨rfl, hb1⟩
  go_wp2
  go_ret
  exact ⟨rfl, hb1⟩
end Go.Proofs.Ytggoipdmiajckaa
