/-
  Contract of a table's has (package route).
-/
import Derived.Test.YtchmfbfijglokaaWithout
namespace Go.Proofs.Ytchmfbfijglokaa
open Go.RowKit
set_option linter.unusedVariables false

set_option maxHeartbeats 2000000 in
theorem thas_any (pa pb tb : Nat) (t : LT) (many : Int) (w : World) (hpa : pa < 4294967296) (hpb : pb ≤ 32) (hpm : pa % 2 ^ (32 - pb) = 0) (htb : w.heap[tb]? = some (.cells #[(ptrOf t), .int .i64 many] 61 (0, 0))) (hin0 : Tin w t) (hf0 : fits t 0) :
    Calls Try.prog 23 #[.pointer (some ⟨tb, 0, none⟩), .agg #[.int .u32 pa, .int .i64 pb]] w fun e w' => e = .returned (.bool (hasE pa pb (toL t 0 0))) ∧ Below w.heap.size w w' := by
  obtain ⟨p0, hp0⟩ := ptr_form t
  rw [hp0] at htb
  have hc : w.cell? ⟨tb, 0, none⟩ = some (.pointer p0) := by simp [World.cell?, htb]
  have htl := lt_of_block htb
  have HP := Lib.hid hp0
  generalize hR : hasE pa pb (toL t 0 0) = R
  have HR0 := Lib.hid hR
  clear hp0 htb hR
  go_enter Try.func23, Try.ntmps23
  go_wp2_with fail
  go_loopw [5, 6] (fun n a W => ∃ (s : LT) (m : Nat) (p : Option Addr), m ≤ pb ∧ n = .pointer p ∧ (ptrOf s) = .pointer p ∧ a = .int .i64 m ∧ Tin w s ∧ fits s m ∧ Hid (hasE pa pb (toL s (pre pa m) m) = R) ∧ W.heap[w.heap.size]? = some (.cells #[.int .u32 (pa : Int), .int .i64 (pb : Int)] 34 (0, 0)) ∧ Below w.heap.size w W) (fun _ a _ => pb - (intOf a).toNat)
  case atStart => exact ⟨t, 0, p0, Nat.zero_le _, rfl, HP.out, rfl, hin0, hf0, by show _ = _; rw [pre_zero pa hpa]; exact HR0.out, heap_alloc_new _ _, (Below.refl _ _).alloc (Nat.le_refl _) _⟩
  case round =>
    obtain ⟨s, m, p, hm, rfl, hp, rfl, hin, hf, HR, hbx, hbel⟩ := hrel
    have b0 : wr.cell? ⟨w.heap.size, 0, none⟩ = some (.int .u32 (pa : Int)) := by simp [World.cell?, hbx]
    have b1 : wr.cell? ⟨w.heap.size, 1, none⟩ = some (.int .i64 (pb : Int)) := by simp [World.cell?, hbx]
    have HX := Lib.hid hbx
    clear hbx hc
    cases s with
    | nil =>
      obtain rfl : p = none := by simpa [ptrOf] using hp.symm
      go_wp2_with fail
      go_ret
      exact ⟨ret_bool (by rw [← HR.out]; rfl), hbel⟩
    | node k o0 x0 l r =>
      obtain ⟨th, v⟩ := x0
      obtain rfl : p = some ⟨k, 0, none⟩ := by simpa [ptrOf] using hp.symm
      obtain ⟨h32, hfl, hfr⟩ := hf
      obtain ⟨pl, hpl⟩ := ptr_form l
      obtain ⟨pr, hpr⟩ := ptr_form r
      have hroot := hin.1
      rw [hpl, hpr] at hroot
      have hkl := lt_of_block hin.1
      obtain ⟨c0, c1, c2, c3⟩ := node_cells ((hbel.block k hkl).trans hroot)
      by_cases hlt : m < pb
      · have HB : Hid (∀ w', Calls Try.prog 35 #[.int .u32 pa, .int .i64 m] w' fun e w'' => e = .returned (.int .u32 (bitAt pa m : Nat)) ∧ w'' = w') := fun w' => bit_any pa m w' hpa (by omega)
        have hbl := bitAt_lt pa m
        rcases (show bitAt pa m = 0 ∨ bitAt pa m = 1 by omega) with hb0 | hb0
        · rw [hb0] at HB
          have HN : Hid (hasE pa pb (toL l (pre pa (m + 1)) (m + 1)) = R) := by
            show _ = _
            rw [← has_low (o0 := o0) (k := k) (th := th) (v := v) (by omega) hb0 hlt hfr]; exact HR.out
          have HT : Hid (Tin w l ∧ fits l (m + 1) ∧ (ptrOf l) = .pointer pl) := ⟨hin.2.1, hfl, hpl⟩
          clear hpl hpr hroot hin hfl hfr HR
          go_wp2_with fail
          go_quiet ((go_at_call 35; exact Calls.quiet_of_same (HB.out _)))
          go_wp2_with fail
          go_roundw
          case rel =>
            obtain ⟨t1, t2, t3⟩ := HT.out
            exact ⟨l, m + 1, pl, by omega, rfl, t3, by go_num, t1, t2, HN, HX.out, below_drewN hbel _⟩
          case measure => simp [intOf]; omega
        · rw [hb0] at HB
          have HN : Hid (hasE pa pb (toL r (pre pa (m + 1)) (m + 1)) = R) := by
            show _ = _
            rw [← has_high (o0 := o0) (k := k) (th := th) (v := v) (by omega) hb0 hlt hfl]; exact HR.out
          have HT : Hid (Tin w r ∧ fits r (m + 1) ∧ (ptrOf r) = .pointer pr) := ⟨hin.2.2, hfr, hpr⟩
          clear hpl hpr hroot hin hfl hfr HR
          go_wp2_with fail
          go_quiet ((go_at_call 35; exact Calls.quiet_of_same (HB.out _)))
          go_wp2_with fail
          go_roundw
          case rel =>
            obtain ⟨t1, t2, t3⟩ := HT.out
            exact ⟨r, m + 1, pr, by omega, rfl, t3, by go_num, t1, t2, HN, HX.out, below_drewN hbel _⟩
          case measure => simp [intOf]; omega
      · obtain rfl : m = pb := by omega
        have HN : Hid (th = R) := by
          show _ = _
          rw [← HR.out, has_here hpb hpm hfl hfr]
        clear hpl hpr hroot hin hfl hfr HR
        go_wp2_with fail
        go_ret
        exact ⟨ret_bool HN.out, hbel⟩
end Go.Proofs.Ytchmfbfijglokaa
