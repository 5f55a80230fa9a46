/-
  Contracts of the program's own functions of package sum: fold, Sum, Check.
-/
import Derived.Test.YtggoipdmiajckaaChecked
import Derived.Test.YtggoipdmiajckaaMath
import Derived.WalkKit
import Derived.WalkLawsBesides
namespace Go.Proofs.Ytggoipdmiajckaa
open Go.RowKit
set_option linter.unusedVariables false

theorem ret_int {k : IntKind} {a b : Int} (h : a = b) : Ending.returned (.int k a) = .returned (.int k b) := by rw [h]
theorem val_int {k : IntKind} {a b : Int} (h : a = b) : Value.int k a = .int k b := by rw [h]
theorem and_low (m : Nat) (hm : (m : Int) ≤ 18446744073709551615) : bits BinOp.and IntKind.u64 (m : Int) 65535 = ((m % 65536 : Nat) : Int) := by
  have := u64_and_nat m 65535 (by omega) (by omega)
  rw [show ((65535 : Nat) : Int) = 65535 from rfl] at this
  rw [this, show (65535 : Nat) = 2 ^ 16 - 1 from rfl, Nat.and_two_pow_sub_one_eq_mod]
theorem wrap_u64_in (n : Int) (h0 : 0 ≤ n) (h1 : n ≤ 18446744073709551615) : IntKind.u64.wrap n = n := by
  simp only [IntKind.wrap, IntKind.signed, IntKind.bits]
  simp; omega

set_option maxHeartbeats 400000 in
theorem fold_any (n : Nat) (w : World) (hn : (n : Int) ≤ 18446744073709551615) :
    Calls Try.prog 48 #[.int .u64 n] w fun e w' => e = .returned (.int .u16 (Pm.fd n)) ∧ w' = w := by
  go_enter Try.func48, Try.ntmps48
  go_wp2
  go_loop [0] (fun t => ∃ m : Nat, (m : Int) ≤ 18446744073709551615 ∧ t = .int .u64 m ∧ Hid (Pm.fd m = Pm.fd n)) (fun t => (intOf t).toNat)
  case atStart => exact ⟨n, hn, rfl, rfl⟩
  case round =>
    obtain ⟨m, hm, rfl, H⟩ := hrel
    by_cases hlt : (65535 : Int) < m
    · have hand : bits BinOp.and IntKind.u64 (m : Int) 65535 = ((m % 65536 : Nat) : Int) := and_low m hm
      go_wp2
      go_round
      case rel => exact ⟨m / 65536 + m % 65536, by omega, by go_num, (Pm.fd_step m (by omega)).trans H⟩
      case measure => simp [intOf]; omega
    · go_wp2
      go_ret
      exact ⟨ret_int (by rw [← H.out, Pm.fd_small m (by omega)]), rfl⟩

theorem take_snoc (s : ByteArray) (k : Nat) (h : k < s.size) : s.data.toList.take (k + 1) = s.data.toList.take k ++ [s[k]] := by
  rw [List.take_succ_eq_append_getElem (by simpa using h)]; rfl

set_option maxHeartbeats 400000 in
theorem sum_any (s : ByteArray) (w : World) (hs : s.size ≤ 281474976710656) :
    Calls Try.prog 45 #[.string s] w fun e w' => e = .returned (.int .u16 (Pm.fd (Pm.hv true s.data.toList))) ∧ w' = w := by
  go_enter Try.func45, Try.ntmps45
  go_wp2
  go_loop [3, 4] (fun t i => ∃ k : Nat, k ≤ s.size ∧ i = .int .i64 k ∧ t = .int .u64 (Pm.hv true (s.data.toList.take k))) (fun _ i => s.size - (intOf i).toNat)
  case atStart => exact ⟨0, Nat.zero_le _, rfl, rfl⟩
  case round =>
    obtain ⟨k, hk, rfl, rfl⟩ := hrel
    have hle := Pm.hv_le true (s.data.toList.take k)
    have hl : (s.data.toList.take k).length = k := by rw [List.length_take]; simp; omega
    rw [hl] at hle
    by_cases hlt : k < s.size
    · have HS : Hid (Pm.hv true (s.data.toList.take (k + 1)) = Pm.hv true (s.data.toList.take k) + if k % 2 = 0 then s[k].toNat * 256 else s[k].toNat) := by
        have h1 := Pm.hv_snoc (s.data.toList.take k) s[k]
        rw [hl, ← take_snoc s k hlt] at h1; exact h1
      have hb : s[k].toNat < 256 := s[k].toNat_lt
      clear hl
      generalize Pm.hv true (s.data.toList.take k) = T at *
      by_cases hev : k % 2 = 0
      · go_wp2
        go_round
        case rel => exact ⟨k + 1, by omega, by go_num, by rw [HS.out, if_pos hev]; go_num⟩
        case measure => simp [intOf]; omega
      · go_wp2
        go_round
        case rel => exact ⟨k + 1, by omega, by go_num, by rw [HS.out, if_neg hev]; go_num⟩
        case measure => simp [intOf]; omega
    · have he : s.data.toList.take k = s.data.toList := List.take_of_length_le (by simp; omega)
      rw [he] at hle ⊢
      go_wp2_with (go_at_call 48; refine (fold_any _ _ (by omega)).mono ?_; rintro e w' ⟨rfl, rfl⟩)
      go_ret
      exact ⟨rfl, rfl⟩


theorem not16 (c : Nat) (h : c ≤ 65535) : bits BinOp.xor IntKind.u16 IntKind.u16.max (c : Int) = ((65535 - c : Nat) : Int) := by
  have h1 := u16_xor_nat 65535 c (by omega) (by omega)
  have h2 : (65535 : Nat) ^^^ c = 65535 - c := by
    have e := congrArg BitVec.toNat (BitVec.allOnes_xor (x := BitVec.ofNat 16 c))
    rw [BitVec.toNat_xor, BitVec.toNat_not, BitVec.toNat_allOnes, BitVec.toNat_ofNat, Nat.mod_eq_of_lt (by omega)] at e
    exact e
  rw [h2] at h1
  exact h1

theorem check_any (s : ByteArray) (w : World) (hs : s.size ≤ 281474976710656) :
    Calls Try.prog 39 #[.string s] w fun e w' => e = .returned (.int .u16 (65535 - Pm.fd (Pm.hv true s.data.toList) : Nat)) ∧ w' = w := by
  have hle := Pm.fd_le (Pm.hv true s.data.toList)
  have hx := not16 _ hle
  go_enter Try.func39, Try.ntmps39
  go_wp2_with (go_at_call 45; refine (sum_any _ _ hs).mono ?_; rintro e w' ⟨rfl, rfl⟩)
  go_ret
  exact ⟨rfl, rfl⟩

end Go.Proofs.Ytggoipdmiajckaa
