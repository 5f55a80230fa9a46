/-
  The document's Sip: the text padded, its numbers eight bytes each.
-/
import Derived.Test.YtoococeaanndkaaDoorRr
import Derived.Test.YtoococeaanndkaaDoorSi
import Derived.Laws.IdiomStrings
import Derived.Laws.Concat
namespace Go.Proofs.YtoococeaanndkaaDoor
open Go.RowKit
set_option linter.unusedVariables false
set_option linter.unusedSimpArgs false

/-- A text of one byte. -/
def one (n : Nat) : ByteArray := ⟨#[UInt8.ofNat n]⟩
theorem one_sz (n : Nat) : (one n).size = 1 := rfl
/-- 'string(b)' of a block of bytes that was just laid. -/
theorem conv_new (w : World) (l : List UInt8) (cap : Nat) (C : Array Value) (hC : C = (l.map fun b => Value.int .u8 (b.toNat : Int)).toArray) :
    (convert 59 9 (.slice (some ⟨w.heap.size, 0, none⟩) l.length cap)).run Tryd.prog (w.alloc (.cells C 5)) = .ok (.string ⟨l.toArray⟩) (w.alloc (.cells C 5)) := by
  refine run_convert_bytes_back _ 59 9 5 ⟨w.heap.size, 0, none⟩ cap l Tryd.underlying59 Tryd.underlying5 Tryd.underlying9 ?_
  intro j hj
  have := World.cell?_alloc_mark w C 5 (0, 0) j
  have ha : (⟨w.heap.size, 0, none⟩ : Addr).add j = ⟨w.heap.size, j, none⟩ := by
    simp only [Addr.add]; split
    · subst_vars; rfl
    · simp
  rw [ha]
  refine this.trans ?_
  subst hC
  simp [List.getElem?_eq_getElem hj]
theorem chr_any (n : Nat) (q : Int) (hq : q = n) (w : World) (hn : n ≤ 255) :
    Calls Tryd.prog 30 #[.int .i64 q] w fun e w' => e = .returned (.string (one n)) ∧ Below w.heap.size w w' := by
  subst hq
  have hc := conv_new w [UInt8.ofNat n] 1 #[.int .u8 (n : Int)] (by
    simp only [List.map_cons, List.map_nil, UInt8.toNat_ofNat']
    rw [show ((n : Int)) = ((n % 2 ^ 8 : Nat) : Int) from by omega])
  simp only [List.length_cons, List.length_nil, Nat.zero_add] at hc
  go_enter Tryd.func30, Tryd.ntmps30
  go_wp2
  go_ret
  exact ⟨rfl, (Below.refl _ _).alloc (Nat.le_refl _) _⟩

/-- s with k noughts behind it. -/
def pad (s : ByteArray) (k : Nat) : ByteArray := s ++ ⟨(List.replicate k 0).toArray⟩
theorem pad_size (s : ByteArray) (k : Nat) : (pad s k).size = s.size + k := by
  unfold pad; rw [ByteArray.size_append]; exact congrArg (s.size + ·) (by show (List.replicate k (0 : UInt8)).toArray.size = k; simp)
theorem pad_zero (s : ByteArray) : pad s 0 = s := by
  apply ByteArray.ext; apply Array.toList_inj.1; unfold pad; rw [ByteArray.data_append, Array.toList_append]; simp
theorem pad_list (s : ByteArray) (k : Nat) : (pad s k).data.toList = s.data.toList ++ List.replicate k 0 := by
  unfold pad; simp [ByteArray.data_append]
theorem pad_next (s : ByteArray) (k : Nat) : pad s k ++ one 0 = pad s (k + 1) := by
  apply ByteArray.ext; apply Array.toList_inj.1
  rw [ByteArray.data_append, Array.toList_append, pad_list, pad_list, List.replicate_succ', List.append_assoc]
  rfl
/-- All that is stirred in. -/
def full (s : ByteArray) : ByteArray := pad s (7 - s.size % 8) ++ one (s.size % 256)
theorem full_size (s : ByteArray) : (full s).size = 8 * (s.size / 8 + 1) := by
  unfold full; rw [ByteArray.size_append, pad_size, one_sz]; omega
theorem full_list (s : ByteArray) : (full s).data.toList = s.data.toList ++ (List.replicate (7 - s.size % 8) 0 ++ [UInt8.ofNat (s.size % 256)]) := by
  unfold full; rw [ByteArray.data_append, Array.toList_append, pad_list, List.append_assoc]; rfl
theorem eat_congr (s : Sp) (L M : List UInt8) (n : Nat) (h : ∀ i, i < n → wordAt L i = wordAt M i) : s.eat L n = s.eat M n := by
  induction n with
  | zero => rfl
  | succ n ih => show (s.eat L n).take (wordAt L n) = (s.eat M n).take (wordAt M n); rw [ih fun i hi => h i (by omega), h n (by omega)]
theorem full_word (s : ByteArray) (i : Nat) (h : i < s.size / 8) : wordAt (full s).data.toList i = wordAt s.data.toList i := by
  unfold wordAt
  rw [full_list]
  congr 1
  have hl : s.data.toList.length = s.size := by simp
  rw [List.drop_append_of_le_length (by omega), List.take_append_of_le_length (by rw [List.length_drop]; omega)]
theorem full_last (s : ByteArray) : wordAt (full s).data.toList (s.size / 8) = lastN s.data.toList := by
  have hl : s.data.toList.length = s.size := by simp
  unfold wordAt lastN
  rw [full_list, hl]
  rw [List.drop_append_of_le_length (by omega), List.take_of_length_le (by simp; omega), num_append, num_append, num_zeros]
  have h1 : (s.data.toList.drop (8 * (s.size / 8))).length = s.size % 8 := by rw [List.length_drop, hl]; omega
  rw [h1, List.length_replicate]
  have h2 : num [UInt8.ofNat (s.size % 256)] = s.size % 256 := by simp [num]
  rw [h2, Nat.zero_add, ← Nat.mul_assoc, ← Nat.pow_add, show s.size % 8 + (7 - s.size % 8) = 7 from by omega]
theorem full_sip (k0 k1 : Int) (s : ByteArray) : ((sp0 k0 k1).eat (full s).data.toList (s.size / 8 + 1)).fin = sip k0 k1 s.data.toList := by
  have hl : s.data.toList.length = s.size := by simp
  unfold sip
  rw [hl, ← full_last]
  show (((sp0 k0 k1).eat (full s).data.toList (s.size / 8)).take _).fin = _
  rw [eat_congr _ _ s.data.toList _ (fun i hi => full_word s i hi)]

/-- The number of the bytes from a on, k of them. -/
def part (L : List UInt8) (a k : Nat) : Nat := num ((L.drop a).take k)
theorem part_lt (L : List UInt8) (a k : Nat) : part L a k < 256 ^ k := by
  unfold part
  exact Nat.lt_of_lt_of_le (num_lt _) (Nat.pow_le_pow_right (by omega) (by rw [List.length_take]; omega))
theorem part_next (s : ByteArray) (a k : Nat) (h : a < s.size) : part s.data.toList a (k + 1) = s[a].toNat + 256 * part s.data.toList (a + 1) k := by
  unfold part
  rw [List.drop_eq_getElem_cons (by simpa using h), List.take_succ_cons]
  rfl
theorem part_word (L : List UInt8) (i : Nat) : part L (8 * i) 8 = wordAt L i := rfl
end Go.Proofs.YtoococeaanndkaaDoor
