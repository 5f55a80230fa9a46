/-
  Of eight bytes a number: plain mathematics, and package hash's number.
-/
import Derived.Test.YtoococeaanndkaaDoorBa
import Derived.Lib.EndianBits
namespace Go.Proofs.YtoococeaanndkaaDoor
open Go.RowKit
set_option linter.unusedVariables false
set_option linter.unusedSimpArgs false

/-- What bytes stand for, the lowest one first. -/
def num : List UInt8 → Nat
  | [] => 0
  | b :: r => b.toNat + 256 * num r
theorem num_lt (L : List UInt8) : num L < 256 ^ L.length := by
  induction L with
  | nil => simp [num]
  | cons b r ih =>
    have := b.toNat_lt
    simp only [num, List.length_cons, Nat.pow_succ]; omega
theorem num_snoc (L : List UInt8) (b : UInt8) : num (L ++ [b]) = num L + b.toNat * 256 ^ L.length := by
  induction L with
  | nil => simp [num]
  | cons a r ih =>
    simp only [List.cons_append, num, ih, List.length_cons, Nat.pow_succ, Nat.mul_add]
    rw [show 256 * (b.toNat * 256 ^ r.length) = b.toNat * (256 ^ r.length * 256) from by rw [Nat.mul_comm 256, Nat.mul_assoc]]
    omega
theorem num_append (L M : List UInt8) : num (L ++ M) = num L + 256 ^ L.length * num M := by
  induction L with
  | nil => simp [num]
  | cons a r ih =>
    simp only [List.cons_append, num, ih, List.length_cons, Nat.pow_succ, Nat.mul_add]
    rw [show 256 * (256 ^ r.length * num M) = 256 ^ r.length * 256 * num M from by rw [← Nat.mul_assoc, Nat.mul_comm 256]]
    omega
theorem num_zeros (k : Nat) : num (List.replicate k 0) = 0 := by
  induction k with
  | zero => rfl
  | succ k ih => simp [List.replicate_succ, num, ih]

theorem wraps_u64' (n : Int) (h0 : 0 ≤ n) (h1 : n < 2 ^ 64) : IntKind.u64.wrap n = n := by rw [IntKind.wrap_u64]; omega
/-- A byte put behind k bytes. -/
theorem or_up (n b k : Nat) (hk : k ≤ 7) (hn : n < 256 ^ k) (hb : b < 256) :
    bits .or .u64 (n : Int) (IntKind.u64.wrap ((b : Int) * 2 ^ (8 * k))) = ((n + b * 256 ^ k : Nat) : Int) := by
  have e : (2 : Int) ^ (8 * k) = ((256 ^ k : Nat) : Int) := by
    rw [Int.natCast_pow, show ((256 : Nat) : Int) = 2 ^ 8 from rfl, ← Int.pow_mul]
  have hp : 0 < 256 ^ k := Nat.pow_pos (by omega)
  have hle : b * 256 ^ k + 256 ^ k ≤ 256 ^ 8 := by
    have h1 : (b + 1) * 256 ^ k ≤ 256 * 256 ^ k := Nat.mul_le_mul_right _ (by omega)
    have h2 : 256 * 256 ^ k = 256 ^ (k + 1) := by rw [Nat.pow_succ, Nat.mul_comm]
    have h3 : 256 ^ (k + 1) ≤ 256 ^ 8 := Nat.pow_le_pow_right (by omega) (by omega)
    rw [Nat.add_mul, Nat.one_mul] at h1
    omega
  have hle' : b * 256 ^ k + 256 ^ k ≤ 18446744073709551616 := hle
  have ew : IntKind.u64.wrap ((b : Int) * 2 ^ (8 * k)) = ((b * 256 ^ k : Nat) : Int) := by
    rw [e, ← Int.natCast_mul, wraps_u64' _ (by omega) (by omega)]
  rw [ew]
  have ep : (2 : Int) ^ (8 * k) = ((256 ^ k : Nat) : Int) := e
  rw [bits_join_low .u64 64 (by decide) wraps_u64' (8 * k) _ _ (by omega) (by rw [ep]; omega) (by omega) (by omega) ?_ (by omega)]
  · omega
  · rw [ep, ← Int.natCast_emod, Nat.mul_mod_left]; rfl
/-- A byte put ahead of others. -/
theorem or_low (n b : Nat) (hn : n < 256 ^ 7) (hb : b < 256) : bits .or .u64 (IntKind.u64.wrap ((n : Int) * 256)) (b : Int) = ((b + 256 * n : Nat) : Int) := by
  have hn' : n < 72057594037927936 := hn
  rw [wraps_u64' _ (by omega) (by omega)]
  rw [bits_join .u64 64 (by decide) wraps_u64' 8 _ _ (by omega) (by omega) (by omega) (by omega) (by omega) (by omega)]
  omega
/-- How many there are, above seven bytes. -/
theorem or_top (s n : Nat) (hn : n < 256 ^ 7) : bits .or .u64 (IntKind.u64.wrap ((s : Int) * 2 ^ 56)) (n : Int) = ((n + 256 ^ 7 * (s % 256) : Nat) : Int) := by
  have hn' : n < 72057594037927936 := hn
  have e : IntKind.u64.wrap ((s : Int) * 2 ^ 56) = (((s % 256) * 72057594037927936 : Nat) : Int) := by rw [IntKind.wrap_u64]; omega
  rw [e, bits_join .u64 64 (by decide) wraps_u64' 56 _ _ (by omega) (by omega) (by omega) (by omega) (by omega) (by omega)]
  rw [show 256 ^ 7 = 72057594037927936 from rfl]
  omega

theorem take_snoc (s : ByteArray) (k : Nat) (h : k < s.size) : s.data.toList.take (k + 1) = s.data.toList.take k ++ [s[k]] := by
  rw [List.take_add_one]
  congr 1
  rw [List.getElem?_eq_getElem (by simpa using h)]
  simp; rfl

theorem number_any (s : ByteArray) (hs : s.size ≤ 8) (w : World) :
    Calls Tryd.prog 28 #[.string s] w fun e w' => e = .returned (.int .u64 (num s.data.toList)) ∧ w' = w := by
  go_enter Tryd.func28, Tryd.ntmps28
  go_wp2_with fail
  go_loopw [3, 4, 7] (fun n _ i W => ∃ k : Nat, k ≤ s.size ∧ i = .int .i64 k ∧ n = .int .u64 (num (s.data.toList.take k)) ∧ W = w) (fun _ _ i _ => s.size - (intOf i).toNat)
  case atStart => exact ⟨0, Nat.zero_le _, rfl, rfl, rfl⟩
  case round =>
    obtain ⟨k, hk, rfl, rfl, rfl⟩ := hrel
    by_cases hlt : k < s.size
    · have hix : ∀ w', (Instr.index 9 (.string s) (.int .i64 k)).run Tryd.prog w' = .ok (.int .u8 (s[k].toNat : Int)) w' := fun w' => by
        have := run_index_string (P := Tryd.prog) w' 9 s .i64 (k : Int) Tryd.underlying9
        rw [dif_pos (by omega)] at this
        simpa using this
      have hb : s[k].toNat < 256 := s[k].toNat_lt
      have hl : (s.data.toList.take k).length = k := by rw [List.length_take]; simp; omega
      have hn := num_lt (s.data.toList.take k)
      rw [hl] at hn
      have HN : Hid (num (s.data.toList.take (k + 1)) = num (s.data.toList.take k) + s[k].toNat * 256 ^ k) := by
        show _ = _
        rw [take_snoc s k hlt, num_snoc, hl]
      have HO : Hid (bits .or .u64 ((num (s.data.toList.take k) : Nat) : Int) (IntKind.u64.wrap ((s[k].toNat : Int) * 2 ^ (8 * k))) = ((num (s.data.toList.take (k + 1)) : Nat) : Int)) := by
        show _ = _
        rw [HN.out]; exact or_up _ _ k (by omega) hn hb
      clear HN hn hl
      generalize s[k].toNat = B at *
      generalize num (s.data.toList.take k) = A at *
      have hlt' : (k : Int) < (s.size : Int) := by omega
      go_wp2_with fail
      go_roundw
      case rel => exact ⟨k + 1, by omega, by go_num, by rw [← HO.out], trivial⟩
      case measure => simp [intOf]; omega
    · have e : k = s.size := by omega
      have HT : Hid (s.data.toList.take k = s.data.toList) := by
        show _ = _
        apply List.take_of_length_le; simp; omega
      rw [HT.out]
      go_wp2_with fail
      go_ret
      exact ⟨rfl, rfl⟩
end Go.Proofs.YtoococeaanndkaaDoor
