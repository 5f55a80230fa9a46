/-
  The walk of ConnSilent.
-/
import Derived.Test.YtnhcjefbiihfjabRs
import Derived.Test.YtnhcjefbiihfjabSi
import Derived.Deep.CutBlock
namespace Go.Proofs.Ytnhcjefbiihfjab
open Go.RowKit
open Tc (Sg gchk gv gc)
set_option linter.unusedVariables false
set_option linter.unusedSimpArgs false
theorem scn_le1 : ∀ t, scn t ≤ t
  | 0 => Nat.le_refl 0
  | t + 1 => by
    have := scn_le1 t
    show scn t + (if (sm t).1 = 0 then 1 else 0) ≤ t + 1
    split <;> omega
theorem scn_le (t : Nat) (h : t ≤ 349) : scn t ≤ 349 := Nat.le_trans (scn_le1 t) h
set_option maxRecDepth 100000 in
set_option maxHeartbeats 4000000 in
theorem silent_walk (iss : Nat) (m : Int) (w : World) (hi : iss < 4294967296) (hm : -9223372036854775808 ≤ m ∧ m ≤ 9223372036854775807) :
    Calls Try.prog 3 #[.int .u32 (iss : Int), .int .i64 m] w fun e w' => e = .returned (.bool true) ∧ Below w.heap.size w w' := by
  have HR := Lib.hid (rest_any m 993 w (by decide) (by decide) hm.1 hm.2)
  have h0 : 0 ≤ m % 993 ∧ m % 993 < 993 := by omega
  generalize m % 993 = r at *
  have HD : Hid (Calls Try.prog 9 #[.agg #[.int .u32 1, .int .i64 2], .agg #[.int .u32 3, .int .i64 4], .int .u32 (iss : Int), .int .i64 (8 + r)] w fun e w' => ∃ b P, e = .returned (.tuple #[ptr b, .int .i64 0]) ∧ NC w b (Cn.fresh 1 2 3 4 iss (8 + r)) P w') :=
    (dial_ok (l := (1, 2)) (r := (3, 4)) (by decide) (by decide) (by omega)).mono fun e w' ⟨b, P, h1, h2, h3, h4⟩ => ⟨b, P, h1, h2, h3, h4⟩
  have HO0 : Hid (COk 0 (Cn.fresh 1 2 3 4 iss (8 + r))) := COk.fresh (by decide) (by decide) hi (by decide) (by decide) (by omega)
  have hms : 8 ≤ 8 + r := by omega
  have HM := Lib.hid hms
  have HI := Lib.hid hi
  go_enter Try.func3, Try.ntmps3
  go_wp2_with fail
  refine HR.out.mono ?_; rintro e w0 ⟨rfl, rfl⟩
  go_wp2_with fail
  refine HD.out.mono ?_; rintro e w1 ⟨b, P, rfl, n1⟩
  clear HR HD hm
  go_wp2_with fail
  have hFr : Cn.fresh 1 2 3 4 iss (8 + r) = silB iss (8 + r) 0 := rfl
  rw [hFr] at n1 HO0
  clear hFr
  generalize hms' : 8 + r = mss at *
  clear h0
  clear hms'
  go_loopw [7, 28] (fun many i W => ∃ (t : Nat) (P : Pt), t ≤ 349 ∧ i = .int .i64 (t : Int) ∧ many = .int .i64 (scn t : Int) ∧ Hid (COk 0 (silB iss mss t)) ∧ NC w0 b (silB iss mss t) P W) (fun _ i _ => 1000 - (intOf i).toNat)
  case atStart => exact ⟨0, P, by omega, rfl, rfl, HO0, n1⟩
  case round =>
    obtain ⟨t, P, ht, rfl, rfl, OK, n⟩ := hrel
    have N := Lib.hid n
    have HOut := Lib.hid (out_any n.ct OK.out (by unfold Few; omega))
    have OK2 := Lib.hid (OK.out.outC (by unfold Few; omega))
    have HLq : ∀ (i : Nat) q, (silB iss mss t).outL[i]? = some q → q = synSg 1 2 3 4 iss mss := fun i q hq => by
      by_cases h : t < 349
      · rw [(sil_step hms hi h).1] at hq
        split at hq
        · cases i with
          | zero => simpa using hq.symm
          | succ i => simp at hq
        · simp at hq
      · obtain rfl : t = 349 := by omega
        rw [sil_end.1] at hq
        simp at hq
    have HQ := Lib.hid HLq
    have HS1 : Hid (∀ _ : Unit, t < 349 → (silB iss mss t).outC.st ≠ 0 ∧ (silB iss mss t).outC.tickE 1 = 0 ∧ (silB iss mss t).outC.tickC 1 = silB iss mss (t + 1) ∧ scn (t + 1) = scn t + (silB iss mss t).outL.length) := fun _ h => by
      obtain ⟨a1, a2, a3, a4⟩ := sil_step hms hi h
      refine ⟨a2, a3, a4, ?_⟩
      rw [a1]
      show scn t + (if (sm t).1 = 0 then 1 else 0) = _
      split <;> simp
    have HS2 : Hid (∀ _ : Unit, t = 349 → (silB iss mss t).outC.st = 0 ∧ (silB iss mss t).outC.why = 13 ∧ scn t + (silB iss mss t).outL.length = 9) := fun _ h => by
      subst h
      refine ⟨sil_end.2.1, sil_end.2.2, ?_⟩
      rw [sil_end.1, sm_end.2]; rfl
    clear n HLq OK
    have HC : Hid (scn t ≤ 349) := scn_le t ht
    have hL1 : (silB iss mss t).outL.length ≤ 1 := by
      by_cases h : t < 349
      · rw [(sil_step hms hi h).1]; split <;> simp
      · obtain rfl : t = 349 := by omega
        rw [sil_end.1]; simp
    generalize (silB iss mss t).outL = L at *
    generalize (silB iss mss t).outC = c2 at *
    go_wp2_with fail
    refine HOut.out.mono ?_; rintro e w2 ⟨v, rfl, r2, P2, t2, u2⟩
    have N2 := Lib.hid (N.out.to t2 u2)
    obtain ⟨o, g, cap, hv, hg⟩ := r2.form
    subst hv
    have R2 := Lib.hid r2
    clear r2 t2 u2 N HOut
    generalize hk : L.length = len at *
    go_wp2_with fail
    go_loopw [7, 34] (fun many i W => ∃ j : Nat, j ≤ len ∧ i = .int .i64 (j : Int) ∧ many = .int .i64 ((scn t + j : Nat) : Int) ∧ NC w0 b c2 P2 W ∧ Hid (SRow W wr.heap.size (.slice o len cap) L)) (fun _ i _ => len - (intOf i).toNat)
    case atStart => exact ⟨0, Nat.zero_le _, rfl, rfl, N2.out, R2⟩
    case round =>
      obtain ⟨j, hj, rfl, rfl, n3, R3⟩ := hrel
      have N3 := Lib.hid n3
      clear n3
      by_cases hlt : j < len
      · obtain ⟨q, hq⟩ : ∃ q, L[j]? = some q := ⟨_, List.getElem?_eq_getElem (by omega)⟩
        obtain rfl := HQ.out j q hq
        obtain ⟨rfl, _, _⟩ := hg (by omega)
        have RR := Lib.hid (R3.out.range hq)
        have N4 : Hid (NC w0 b c2 P2 ((wr.alloc (.cells gzc 33)).setCells wr.heap.size 0 (gcl (synSg 1 2 3 4 iss mss)))) := N3.out.keep (segAt_be wr _)
        have R4 : Hid (SRow ((wr.alloc (.cells gzc 33)).setCells wr.heap.size 0 (gcl (synSg 1 2 3 4 iss mss))) _ _ L) := R3.out.on (segAt_be wr _)
        have GB0 := Lib.hid (seg0 wr)
        have y4 : ((wr.alloc (.cells gzc 33)).setCells wr.heap.size 0 (gcl (synSg 1 2 3 4 iss mss))).cell? ⟨wr.heap.size, 4, none⟩ = some (.int .u32 (iss : Int)) := (segAt_gb wr (synSg 1 2 3 4 iss mss)).c4
        have y6 : ((wr.alloc (.cells gzc 33)).setCells wr.heap.size 0 (gcl (synSg 1 2 3 4 iss mss))).cell? ⟨wr.heap.size, 6, none⟩ = some (.bool true) := (segAt_gb wr (synSg 1 2 3 4 iss mss)).c6
        have y11 : ((wr.alloc (.cells gzc 33)).setCells wr.heap.size 0 (gcl (synSg 1 2 3 4 iss mss))).cell? ⟨wr.heap.size, 11, none⟩ = some (.int .i64 mss) := (segAt_gb wr (synSg 1 2 3 4 iss mss)).c11
        have HUs := Lib.hid Try.underlying33
        have HC5 : Hid (Value.int .i64 (((scn t + j : Nat) : Int) + 1) = .int .i64 ((scn t + (j + 1) : Nat) : Int)) := by show _ = _; rw [show ((scn t + (j + 1) : Nat) : Int) = ((scn t + j : Nat) : Int) + 1 by omega]
        have hsc : scn t + j < 1000000 := by have := HC.out; omega
        generalize synSg 1 2 3 4 iss mss = q at *
        clear HQ hq N3 R3 hg R2 N2 hk
        go_upto_region 12 with (first | (refine wpList_load_mid rfl 33 _ rfl g (j * 13) rfl (gcl q) _ RR.out HUs.out rfl infoSeg ?_) | (refine wpList_store_mid rfl 33 _ _ rfl wr.heap.size 0 (gc q) rfl rfl (GB.there GB0.out) infoSeg (gc_one' q) ?_))
        generalize (wr.alloc (.cells gzc 33)).setCells wr.heap.size 0 (gcl q) = W4 at *
        go_wp2_with fail
        go_roundw
        case rel => exact ⟨j + 1, hlt, by simp, HC5.out, N4.out, R4⟩
        case measure => simp [intOf]; omega
      · obtain rfl : j = len := by omega
        clear hg HQ R3 R2 N2
        by_cases ht9 : t < 349
        · obtain ⟨a1, a2, a3, a4⟩ := HS1.out () ht9
          have HSt := Lib.hid (state_any N3.out.ct)
          have HTi := Lib.hid (tick_any N3.out.ct OK2.out (by unfold Few; omega) 1)
          have OK3 := Lib.hid (OK2.out.tickC 1)
          have d0 : (c2.st == 0) = false := by simpa using a1
          rw [a2, a3] at HTi
          rw [a3] at OK3
          try rw [hk] at a4
          have A4 := Lib.hid a4
          clear HS1 HS2 a1 a2 a3 a4 OK2 hk
          go_wp2_with fail
          refine HSt.out.mono ?_; rintro e w4 ⟨rfl, rfl⟩
          go_wp2_with fail
          refine HTi.out.mono ?_; rintro e w5 ⟨rfl, t5, u5⟩
          have N5 := Lib.hid (N3.out.to t5 u5)
          clear t5 u5
          go_wp2_with fail
          go_roundw
          case rel => exact ⟨t + 1, P2, by omega, by simp, by rw [A4.out]; first | rfl | rw [Int.natCast_add], OK3, N5.out⟩
          case measure => simp [intOf]; omega
        · obtain ⟨a1, a2, a3⟩ := HS2.out () (by omega)
          have HSt := Lib.hid (state_any N3.out.ct)
          have HWy := Lib.hid (why_any N3.out.ct)
          rw [a1] at HSt
          rw [a2] at HWy
          try rw [hk] at a3
          have e9 : ((scn t + j : Nat) : Int) = 9 := by rw [a3]; rfl
          rw [e9]
          have h100 : 100 < t := by omega
          clear HS1 HS2 a1 a2 a3 hk e9
          go_wp2_with fail
          refine HSt.out.mono ?_; rintro e w4 ⟨rfl, rfl⟩
          go_wp2_with fail
          refine HWy.out.mono ?_; rintro e w5 ⟨rfl, rfl⟩
          go_wp2_with fail
          go_ret
          exact ⟨ret_bool (decide_eq_true (by omega)), N3.out.be⟩
end Go.Proofs.Ytnhcjefbiihfjab
