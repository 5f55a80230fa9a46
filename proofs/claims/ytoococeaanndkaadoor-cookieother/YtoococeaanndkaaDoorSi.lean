/-
  What Sip is, as plain data; package hash's.
-/
import Derived.Test.YtoococeaanndkaaDoorTk
import Derived.Test.YtoococeaanndkaaDoorNu
namespace Go.Proofs.YtoococeaanndkaaDoor
open Go.RowKit
set_option linter.unusedVariables false
set_option linter.unusedSimpArgs false

/-- The i-th eight bytes' number. -/
def wordAt (L : List UInt8) (i : Nat) : Nat := num ((L.drop (8 * i)).take 8)
/-- i numbers stirred in. -/
def Sp.eat (s : Sp) (L : List UInt8) : Nat → Sp
  | 0 => s
  | i + 1 => (s.eat L i).take (wordAt L i)
/-- What a state begins with. -/
def sp0 (k0 k1 : Int) : Sp := ⟨bits .xor .u64 k0 8317987319222330741, bits .xor .u64 k1 7237128888997146477, bits .xor .u64 k0 7816392313619706465, bits .xor .u64 k1 8387220255154660723⟩
/-- The last number. -/
def lastN (L : List UInt8) : Nat := num (L.drop (8 * (L.length / 8))) + 256 ^ 7 * (L.length % 256)
def sip (k0 k1 : Int) (L : List UInt8) : Int := (((sp0 k0 k1).eat L (L.length / 8)).take (lastN L : Nat)).fin

theorem extract_list (s : ByteArray) (a b : Nat) : (s.extract a b).data.toList = (s.data.toList.take b).drop a := by
  rw [ByteArray.data_extract, Array.toList_extract]
  simp [List.drop_take]
theorem extract_size (s : ByteArray) (a b : Nat) (h : b ≤ s.size) : (s.extract a b).size = b - a := by
  rw [ByteArray.size_extract]; omega
theorem extract_extract (s : ByteArray) (a b c d : Nat) (h : a + d ≤ b) : (s.extract a b).extract c d = s.extract (a + c) (a + d) := by
  apply ByteArray.ext
  apply Array.toList_inj.1
  rw [extract_list, extract_list, extract_list]
  apply List.ext_getElem?
  intro i
  simp only [List.getElem?_drop, List.getElem?_take]
  by_cases h1 : c + i < d
  · rw [if_pos h1, if_pos (by omega), if_pos (by omega)]; congr 1; omega
  · rw [if_neg h1, if_neg (by omega)]
theorem word_extract (s : ByteArray) (i : Nat) : num (s.extract (8 * i) (8 * i + 8)).data.toList = wordAt s.data.toList i := by
  rw [extract_list]; unfold wordAt
  congr 1
  apply List.ext_getElem?
  intro j
  simp only [List.getElem?_drop, List.getElem?_take]
  by_cases h1 : j < 8
  · rw [if_pos h1, if_pos (by omega)]
  · rw [if_neg h1, if_neg (by omega)]
theorem rest_extract (s : ByteArray) (i : Nat) : (s.extract i s.size).data.toList = s.data.toList.drop i := by
  rw [extract_list, List.take_of_length_le (by simp)]

theorem SB.new (s : Sp) (w : World) : SB w.heap.size s (w.alloc (.cells #[.int .u64 s.a, .int .u64 s.b, .int .u64 s.c, .int .u64 s.d] 55)) := heap_alloc_new _ _

set_option maxHeartbeats 2000000 in
theorem sip_any (k0 k1 : Int) (s : ByteArray) (hs : s.size ≤ 281474976710656) (w : World) :
    Calls Tryd.prog 22 #[.int .u64 k0, .int .u64 k1, .string s] w fun e w' => e = .returned (.int .u64 (sip k0 k1 s.data.toList)) ∧ Below w.heap.size w w' := by
  have B0 : Hid (SB w.heap.size ((sp0 k0 k1).eat s.data.toList 0) (w.alloc (.cells #[.int .u64 (bits .xor .u64 k0 8317987319222330741), .int .u64 (bits .xor .u64 k1 7237128888997146477), .int .u64 (bits .xor .u64 k0 7816392313619706465), .int .u64 (bits .xor .u64 k1 8387220255154660723)] 55))) := SB.new (sp0 k0 k1) w
  have K0 : Hid (Below w.heap.size w (w.alloc (.cells #[.int .u64 (bits .xor .u64 k0 8317987319222330741), .int .u64 (bits .xor .u64 k1 7237128888997146477), .int .u64 (bits .xor .u64 k0 7816392313619706465), .int .u64 (bits .xor .u64 k1 8387220255154660723)] 55))) := (Below.refl _ _).alloc (Nat.le_refl _) _
  have hll : s.data.toList.length = s.size := by simp
  have HR : Hid (∀ i, 8 * i = s.size - s.size % 8 → ((((sp0 k0 k1).eat s.data.toList i).take (lastN s.data.toList : Nat)).fin = sip k0 k1 s.data.toList) ∧ lastN s.data.toList = num (s.extract (8 * i) s.size).data.toList + 256 ^ 7 * (s.size % 256)) := by
    intro i hi
    have e : i = s.data.toList.length / 8 := by rw [hll]; omega
    refine ⟨?_, ?_⟩
    · subst e; rfl
    · rw [rest_extract, e]; unfold lastN; rw [hll]
  clear hll
  go_enter Tryd.func22, Tryd.ntmps22
  go_wp2_with fail
  generalize (w.alloc (.cells #[.int .u64 (bits .xor .u64 k0 8317987319222330741), .int .u64 (bits .xor .u64 k1 7237128888997146477), .int .u64 (bits .xor .u64 k0 7816392313619706465), .int .u64 (bits .xor .u64 k1 8387220255154660723)] 55)) = W0 at *
  go_loopw [8] (fun r W => ∃ i : Nat, 8 * i ≤ s.size ∧ r = .string (s.extract (8 * i) s.size) ∧ SB w.heap.size ((sp0 k0 k1).eat s.data.toList i) W ∧ Below w.heap.size w W) (fun r _ => match r with | .string x => x.size | _ => 0)
  case atStart => exact ⟨0, Nat.zero_le _, by rw [Nat.mul_zero, ByteArray.extract_zero_size], B0.out, K0.out⟩
  case round =>
    obtain ⟨i, hi, rfl, hB, hK⟩ := hrel
    have B1 := Lib.hid hB
    have K1 := Lib.hid hK
    clear hB hK B0 K0
    have hsz : (s.extract (8 * i) s.size).size = s.size - 8 * i := extract_size s _ _ (Nat.le_refl _)
    by_cases hlt : 8 * i + 8 ≤ s.size
    · have hge : 8 ≤ (s.extract (8 * i) s.size).size := by omega
      have h1 : ∀ w', (Instr.slice 9 (.string (s.extract (8 * i) s.size)) none (some (.int .i64 8)) none).run Tryd.prog w' = .ok (.string (s.extract (8 * i) (8 * i + 8))) w' := fun w' => by
        have := run_slice_string_h (P := Tryd.prog) w' 9 (s.extract (8 * i) s.size) Tryd.underlying9 .i64 (8 : Int) (by omega) (by omega)
        rw [this, show (8 : Int).toNat = 8 from rfl, extract_extract _ _ _ _ _ (by omega), Nat.add_zero]
      have h2 : ∀ w', (Instr.slice 9 (.string (s.extract (8 * i) s.size)) (some (.int .i64 8)) none none).run Tryd.prog w' = .ok (.string (s.extract (8 * (i + 1)) s.size)) w' := fun w' => by
        have := run_slice_string_l (P := Tryd.prog) w' 9 (s.extract (8 * i) s.size) Tryd.underlying9 .i64 (8 : Int) (by omega) (by omega)
        rw [this, show (8 : Int).toNat = 8 from rfl, extract_extract _ _ _ _ _ (by omega), hsz, show 8 * i + 8 = 8 * (i + 1) from by omega, show 8 * i + (s.size - 8 * i) = s.size from by omega]
      have HN : Hid (∀ w', Calls Tryd.prog 28 #[.string (s.extract (8 * i) (8 * i + 8))] w' fun e w'' => e = .returned (.int .u64 (wordAt s.data.toList i : Nat)) ∧ w'' = w') := fun w' => by
        have := number_any (s.extract (8 * i) (8 * i + 8)) (by rw [extract_size _ _ _ hlt]; omega) w'
        rwa [word_extract] at this
      have HM : Hid (∀ x : ByteArray, x = s.extract (8 * (i + 1)) s.size → x.size < (s.extract (8 * i) s.size).size) := by
        rintro x rfl; rw [hsz, extract_size s _ _ (Nat.le_refl _)]; omega
      have HI : Hid (8 * (i + 1) ≤ s.size) := by show _ ≤ _; omega
      have HE : Hid (((sp0 k0 k1).eat s.data.toList i).take (wordAt s.data.toList i : Nat) = (sp0 k0 k1).eat s.data.toList (i + 1)) := rfl
      generalize s.extract (8 * i) (8 * i + 8) = X at *
      generalize hY : s.extract (8 * (i + 1)) s.size = Y at *
      clear hsz
      go_wp2_with fail
      refine (HN.out _).mono ?_; rintro e w1 ⟨rfl, rfl⟩
      go_wp2_with fail
      refine (take_any _ _ _ _ B1.out).mono ?_; rintro e w2 ⟨rfl, hB2, hK2⟩
      rw [HE.out] at hB2
      have B2 := Lib.hid hB2
      have K2 := Lib.hid (K1.out.trans (hK2.below (Nat.le_of_lt B1.out.lt) (by simp)))
      clear hB2 hK2
      go_wp2_with fail
      go_roundw
      case rel => exact ⟨i + 1, HI.out, by rw [hY], B2.out, K2.out⟩
      case measure => exact HM.out _ rfl
    · have hlt2 : (s.extract (8 * i) s.size).size < 8 := by omega
      obtain ⟨HR1, HR2⟩ := HR.out i (by omega)
      have HN : Hid (∀ w', Calls Tryd.prog 28 #[.string (s.extract (8 * i) s.size)] w' fun e w'' => e = .returned (.int .u64 (num (s.extract (8 * i) s.size).data.toList : Nat)) ∧ w'' = w') := fun w' => number_any _ (by omega) w'
      have hnl := num_lt (s.extract (8 * i) s.size).data.toList
      have HO : Hid (bits .or .u64 (IntKind.u64.wrap ((s.size : Int) * 72057594037927936)) ((num (s.extract (8 * i) s.size).data.toList : Nat) : Int) = (lastN s.data.toList : Nat)) := by
        show _ = _
        rw [HR2]
        apply or_top
        refine Nat.lt_of_lt_of_le hnl (Nat.pow_le_pow_right (by omega) ?_)
        have : (s.extract (8 * i) s.size).data.toList.length = (s.extract (8 * i) s.size).size := by simp
        omega
      have HF := Lib.hid HR1
      clear HR1 HR2 HR hnl hsz
      generalize s.extract (8 * i) s.size = X at *
      generalize num X.data.toList = n at *
      generalize lastN s.data.toList = l at *
      generalize (sp0 k0 k1).eat s.data.toList i = t at *
      go_wp2_with fail
      refine (HN.out _).mono ?_; rintro e w1 ⟨rfl, rfl⟩
      go_wp2_with fail
      rw [HO.out]
      refine (take_any _ _ _ _ B1.out).mono ?_; rintro e w2 ⟨rfl, hB2, hK2⟩
      have B2 := Lib.hid hB2
      have K2 := Lib.hid (K1.out.trans (hK2.below (Nat.le_of_lt B1.out.lt) (by simp)))
      clear hB2 hK2
      go_wp2_with fail
      refine (end_any _ _ _ B2.out).mono ?_; rintro e w3 ⟨rfl, hK3⟩
      have K3 := Lib.hid (K2.out.trans (hK3.below (Nat.le_of_lt B2.out.lt) (by simp)))
      clear hK3
      rw [HF.out]
      go_wp2_with fail
      go_ret
      exact ⟨rfl, K3.out⟩
end Go.Proofs.YtoococeaanndkaaDoor
