/-
  Contract of the document's Put.
-/
import Derived.Test.YthdjdfemckjebaaRl
import Derived.Test.YthdjdfemckjebaaPt
import Derived.Deep.CutBlock
namespace Go.Proofs.Ythdjdfemckjebaa
open Go.RowKit
set_option linter.unusedVariables false
set_option linter.unusedSimpArgs false

section
variable {b mb m : Nat} {t : St} {w : World}
/-- What the closing loop keeps. -/
structure FS (w : World) (b mb r : Nat) (f g m : Nat) (D : DataW Unit) (lf : Lit → Bool) (cnt : Nat) (W : World) : Prop where
  blk : W.heap[b]? = some (.cells #[.map (some mb), .int .i64 (f : Int), .int .i64 (g : Int)] 59 (0, 0))
  rng : W.ranges Try.prog 3 (plainElem Try.prog 5) mb r m D lf cnt
  kp : Kp [mb, b] w W
  le : w.heap.size ≤ r
  ne : b ≠ r

set_option maxHeartbeats 16000000 in
set_option maxRecDepth 100000 in
theorem rput_any (h : UT b mb t m w) (ok : Ok t) (hf : t.f ≤ 1152921504606846976) (hm : m ≤ 1152921504606846976) (q : Int) (q1 : -9223372036854775808 ≤ q) (q2 : q ≤ 9223372036854775807) (x : ByteArray) (hx : x.size ≤ 1152921504606846976) (fin : Bool) :
    Calls Try.prog 11 #[.pointer (some ⟨b, 0, none⟩), .int .i64 q, .string x, .bool fin] w fun e w' => e = .returned (.bool (moved t q x fin)) ∧ UT b mb (put t q x fin) (m + 2048) w' ∧ Kp [mb, b] w w' := by
  have HOu := Lib.hid outside_any
  have HO : Hid (Calls Try.prog 21 #[.pointer (some ⟨b, 0, none⟩)] w fun e w' => e = .returned (.bool (over t)) ∧ ∃ k, w' = w.drewN k) := rover_any h ok hf
  have H := Lib.hid h
  by_cases hq : q < -1152921504606846976 ∨ 1152921504606846976 < q
  · have ho : off t q = true := by unfold off; rw [decide_eq_true hq]; rfl
    have HM : Hid (moved t q x fin = false) := by show _ = _; unfold moved; rw [put_off x fin ho]; exact decide_eq_false (by omega)
    have HP : Hid (UT b mb (put t q x fin) (m + 2048) w) := by rw [put_off x fin ho]; exact h.mono (by omega)
    have hd : decide (q < -1152921504606846976 ∨ 1152921504606846976 < q) = true := decide_eq_true hq
    have HD := Lib.hid hd
    clear h ok ho hq HO H hd
    go_enter Try.func11, Try.ntmps11
    go_wp2_with fail
    refine (HOu.out _ _ _ _).mono ?_
    rintro e w1 ⟨rfl, rfl⟩
    rw [HD.out]
    go_wp2_with fail
    go_ret
    exact ⟨ret_bool HM.out.symm, HP.out, Kp.refl _ _⟩
  · have HD : Hid (decide (q < -1152921504606846976 ∨ 1152921504606846976 < q) = false) := decide_eq_false hq
    have hq1 : -1152921504606846976 ≤ q := by omega
    have hq2 : q ≤ 1152921504606846976 := by omega
    cases hov : over t with
    | true =>
      have ho : off t q = true := by unfold off; rw [hov]; simp
      have HM : Hid (moved t q x fin = false) := by show _ = _; unfold moved; rw [put_off x fin ho]; exact decide_eq_false (by omega)
      have HP : Hid (∀ W, UT b mb t m W → UT b mb (put t q x fin) (m + 2048) W) := fun W h => by rw [put_off x fin ho]; exact h.mono (by omega)
      rw [hov] at HO
      clear h ok ho hq hov
      go_enter Try.func11, Try.ntmps11
      go_wp2_with fail
      refine (HOu.out _ _ _ _).mono ?_
      rintro e w1 ⟨rfl, rfl⟩
      rw [HD.out]
      go_wp2_with fail
      refine HO.out.mono ?_
      rintro e w2 ⟨rfl, hm⟩
      have H1 : Hid (UT b mb t m w2) := by obtain ⟨k, rfl⟩ := hm; exact H.out.drewN _
      have K1 : Hid (Kp [mb, b] w1 w2) := by obtain ⟨k, rfl⟩ := hm; exact (Kp.refl _ _).drewN k
      clear HO H hm
      go_wp2_with fail
      go_ret
      exact ⟨ret_bool HM.out.symm, HP.out _ H1.out, K1.out⟩
    | false =>
      have ho : off t q = false := by unfold off; rw [hov, HD.out]; rfl
      have hnx := not_over_nxt hov
      have HNx : Hid (∀ W, UT b mb t m W → Calls Try.prog 15 #[.pointer (some ⟨b, 0, none⟩)] W fun e w' => e = .returned (.int .i64 (t.n : Int)) ∧ ∃ k, w' = W.drewN k) := fun W h => by
        have := rnext_any h ok hf; rw [hnx] at this; exact this
      have HWn : Hid (∀ W, UT b mb t m W → Calls Try.prog 17 #[.pointer (some ⟨b, 0, none⟩)] W fun e w' => e = .returned (.int .i64 (wnd t)) ∧ ∃ k, w' = W.drewN k) := fun W h => rwindow_any h ok hf
      have hWe : (t.n : Int) + wnd t = (t.f : Int) + 2048 := by unfold wnd; omega
      have wv0 : (0 : Int) ≤ wnd t := by have := ok.nw; unfold wnd; omega
      have wv1 : wnd t ≤ 2048 := by have := ok.fn; unfold wnd; omega
      have hnw := ok.nw
      have hfn := ok.fn
      rw [hov] at HO
      have HOk := Lib.hid ok
      have HOv := Lib.hid hov
      clear h ok hq hov ho hnx
      go_enter Try.func11, Try.ntmps11
      go_wp2_with fail
      refine (HOu.out _ _ _ _).mono ?_
      rintro e w1 ⟨rfl, rfl⟩
      rw [HD.out]
      go_wp2_with fail
      refine HO.out.mono ?_
      rintro e w2 ⟨rfl, hm⟩
      have H2 : Hid (UT b mb t m w2) := by obtain ⟨k, rfl⟩ := hm; exact H.out.drewN _
      have K2 : Hid (Kp [mb, b] w1 w2) := by obtain ⟨k, rfl⟩ := hm; exact (Kp.refl _ _).drewN k
      clear HO H hm HD HOu
      go_wp2_with fail
      refine (HNx.out _ H2.out).mono ?_
      rintro e w3 ⟨rfl, hm⟩
      have H3 : Hid (UT b mb t m w3) := by obtain ⟨k, rfl⟩ := hm; exact H2.out.drewN _
      have K3 : Hid (Kp [mb, b] w1 w3) := by obtain ⟨k, rfl⟩ := hm; exact K2.out.drewN k
      clear H2 K2 hm HNx
      go_wp2_with fail
      refine (HWn.out _ H3.out).mono ?_
      rintro e w4 ⟨rfl, hm⟩
      have H4 : Hid (UT b mb t m w4) := by obtain ⟨k, rfl⟩ := hm; exact H3.out.drewN _
      have K4 : Hid (Kp [mb, b] w1 w4) := by obtain ⟨k, rfl⟩ := hm; exact K3.out.drewN k
      clear H3 K3 hm HWn
      go_wp2_with fail
      clear hWe wv0 wv1
      go_loopw [32] (fun i W => ∃ k : Nat, k ≤ x.size ∧ i = .int .i64 k ∧ UM b mb (cmz t q x (q + (k : Int))) t.f t.e (m + clam t (q + (k : Int))) W ∧ Kp [mb, b] w1 W) (fun i _ => x.size - (intOf i).toNat)
      case atStart =>
        refine ⟨0, Nat.zero_le _, rfl, ?_, K4.out⟩
        rw [show q + ((0 : Nat) : Int) = q from by omega, cmz_start]
        exact H4.out.mono (by omega)
      case round =>
        obtain ⟨k, hk, rfl, hU, hKp⟩ := hrel
        have U := Lib.hid hU
        have KK := Lib.hid hKp
        clear hU hKp H4 K4
        rcases Nat.lt_or_ge k x.size with hlt | hge
        · obtain ⟨y, is, hl, his0⟩ := U.out.lookAny (q + (k : Int)) (by omega) (by omega)
          have his : is = true ↔ 0 ≤ q + (k : Int) ∧ (t.c (q + (k : Int)).toNat).isSome = true := by
            refine his0.trans (and_congr_right fun h0 => ?_)
            have : cmz t q x (q + (k : Int)) (q + (k : Int)).toNat = t.c (q + (k : Int)).toNat := by
              have := cmz_at t q x (q + (k : Int)).toNat
              rwa [show (((q + (k : Int)).toNat : Nat) : Int) = q + (k : Int) from by omega] at this
            rw [this]
          obtain ⟨tk, htk⟩ : ∃ tk : Bool, tk = true ↔ tkz t q x (q + (k : Int)) := by classical exact ⟨decide (tkz t q x (q + (k : Int))), by simp⟩
          have HTI := Lib.hid (htk.trans (tkz_iff (by omega) (by omega) is his))
          have HTK := Lib.hid htk
          have HIN : Hid (∀ a b : Bool, (a = true ↔ b = true) → a = b) := fun a b h => by cases a <;> cases b <;> simp_all
          have c0 := U.out.c0
          have c2 := U.out.c2
          clear his his0 htk
          go_upto_region 10 with fail
          go_cut [73] from 47 to 73 (fun v wc => v = .bool tk ∧ wc = wr)
          case first =>
            cases is with
            | true =>
              have HF : Hid (tk = false) := by
                show _ = _
                cases tk with
                | false => rfl
                | true => have := HTI.out.1 rfl; simp at this
              go_wp2_with fail
              go_meet
              case rel => exact ⟨congrArg _ HF.out.symm, rfl⟩
            | false =>
              by_cases h1 : (t.n : Int) ≤ q + (k : Int)
              · by_cases h2 : q + (k : Int) < (t.f : Int) + 2048
                · by_cases h3 : (t.e : Int) = 0
                  · have HF : Hid (tk = true) := HTI.out.2 ⟨rfl, h1, h2, Or.inl h3⟩
                    rw [h3] at c2
                    clear h3
                    go_wp2_with fail
                    go_meet
                    case rel => exact ⟨congrArg _ HF.out.symm, rfl⟩
                  · have h3' : ((t.e : Int) == 0) = false := beq_eq_false_iff_ne.2 h3
                    by_cases h4 : q + (k : Int) < (t.e : Int)
                    · have HF : Hid (tk = true) := HTI.out.2 ⟨rfl, h1, h2, Or.inr h4⟩
                      go_wp2_with fail
                      go_meet
                      case rel => exact ⟨congrArg _ HF.out.symm, rfl⟩
                    · have HF : Hid (tk = false) := by
                        show _ = _
                        cases tk with
                        | false => rfl
                        | true => have := HTI.out.1 rfl; omega
                      go_wp2_with fail
                      go_meet
                      case rel => exact ⟨congrArg _ HF.out.symm, rfl⟩
                · have HF : Hid (tk = false) := by
                    show _ = _
                    cases tk with
                    | false => rfl
                    | true => have := HTI.out.1 rfl; omega
                  go_wp2_with fail
                  go_meet
                  case rel => exact ⟨congrArg _ HF.out.symm, rfl⟩
              · have HF : Hid (tk = false) := by
                  show _ = _
                  cases tk with
                  | false => rfl
                  | true => have := HTI.out.1 rfl; omega
                go_wp2_with fail
                go_meet
                case rel => exact ⟨congrArg _ HF.out.symm, rfl⟩
          case rest =>
            obtain ⟨rfl, hcc⟩ := hcut
            subst hcc
            clear hl c0 c2
            cases tk with
            | true =>
              have hT := HTK.out.1 rfl
              obtain ⟨pn, hpn⟩ := Int.eq_ofNat_of_zero_le hT.1
              obtain ⟨z1, z2, _⟩ := bh_le t q x
              have hT' : tkz t q x (pn : Int) := by rw [← hpn]; exact hT
              have hT3 := hT'.2.2.2
              have hy : byt x q pn = x.data.toList.getD k 0 := by unfold byt; congr 1; omega
              have hix : ∀ w', (Instr.index 9 (.string x) (.int .i64 (k : Int))).run Try.prog w' = .ok (.int .u8 ((byt x q pn).toNat : Int)) w' := fun w' => by rw [hy]; exact index_at x k hlt w'
              have U' : UM b mb (cmz t q x (pn : Int)) t.f t.e (m + clam t (pn : Int)) wc.drew := by rw [← hpn]; exact U.out.drew
              have hcl := clam_le t (pn : Int)
              obtain ⟨W2, hr, hU2, hK2⟩ := U'.store pn (by omega) (byt x q pn) (by omega) (c' := cmz t q x ((pn : Int) + 1)) (cmz_new hT') (fun p hp => cmz_same hp)
              have HN : Hid (UM b mb (cmz t q x (q + ((k + 1 : Nat) : Int))) t.f t.e (m + clam t (q + ((k + 1 : Nat) : Int))) W2) := by
                rw [show q + ((k + 1 : Nat) : Int) = (pn : Int) + 1 from by omega, clam_new HOk.out hT']
                exact hU2
              have HK : Hid (Kp [mb, b] w1 W2) := KK.out.drew.trans hK2 (by simp)
              rw [← hpn] at hr
              have c0 := U.out.c0
              generalize byt x q pn = Y at *
              clear hT hT' hT3 hy U' hU2 hK2 hpn z1 z2 hcl
              go_wp2_with fail
              go_region
              go_wp2_with fail
              go_roundw
              case rel => exact ⟨k + 1, by omega, by go_num, HN.out, HK.out⟩
              case measure => simp only [intOf]; omega
            | false =>
              have HE : Hid (cmz t q x (q + ((k + 1 : Nat) : Int)) = cmz t q x (q + (k : Int))) := by
                show _ = _
                rw [show q + ((k + 1 : Nat) : Int) = q + (k : Int) + 1 from by omega]
                exact cmz_stays (fun h => by have := HTK.out.2 h; cases this)
              have HC : Hid (m + clam t (q + (k : Int)) ≤ m + clam t (q + ((k + 1 : Nat) : Int))) := by
                show _ ≤ _
                have := clam_mono t (q + (k : Int))
                rw [show q + ((k + 1 : Nat) : Int) = q + (k : Int) + 1 from by omega]
                omega
              go_wp2_with fail
              go_roundw
              case rel => exact ⟨k + 1, by omega, by go_num, by rw [HE.out]; exact U.out.mono HC.out, KK.out⟩
              case measure => simp only [intOf]; omega
        · obtain rfl : k = x.size := by omega
          have U2 : Hid (UM b mb (cput t q x) t.f t.e (m + 2048) wr) := by
            have := U.out
            rw [cmz_end] at this
            exact this.mono (by have := clam_le t (q + (x.size : Int)); omega)
          obtain ⟨kd, hkd⟩ : ∃ kd : Bool, kd = true ↔ fin = true ∧ (t.e : Int) = 0 ∧ (t.n : Int) ≤ q + x.size ∧ q + x.size ≤ (t.f : Int) + 2048 := by classical exact ⟨decide (fin = true ∧ (t.e : Int) = 0 ∧ (t.n : Int) ≤ q + x.size ∧ q + x.size ≤ (t.f : Int) + 2048), by simp⟩
          have HKD := Lib.hid hkd
          have HNO : Hid ((¬ (fin = true ∧ (t.e : Int) = 0 ∧ (t.n : Int) ≤ q + x.size ∧ q + x.size ≤ (t.f : Int) + 2048)) → kd = false) := fun h => by
            cases kd with
            | false => rfl
            | true => exact absurd (hkd.1 rfl) h
          have c2 := U2.out.c2
          clear U hkd
          go_upto_region 14 with fail
          go_cut [104] from 87 to 104 (fun v wc => v = .bool kd ∧ wc = wr)
          case first =>
            cases fin with
            | false =>
              have HF := Lib.hid (HNO.out (by simp))
              go_wp2_with fail
              go_meet
              case rel => exact ⟨congrArg _ HF.out.symm, rfl⟩
            | true =>
              by_cases h3 : (t.e : Int) = 0
              · rw [h3] at c2
                have HE3 := Lib.hid h3
                clear h3
                by_cases h1 : (t.n : Int) ≤ q + x.size
                · by_cases h2 : q + (x.size : Int) ≤ (t.f : Int) + 2048
                  · have HF : Hid (kd = true) := HKD.out.2 ⟨rfl, HE3.out, h1, h2⟩
                    go_wp2_with fail
                    go_meet
                    case rel => exact ⟨congrArg _ HF.out.symm, rfl⟩
                  · have HF : Hid (kd = false) := HNO.out (fun h => h2 h.2.2.2)
                    go_wp2_with fail
                    go_meet
                    case rel => exact ⟨congrArg _ HF.out.symm, rfl⟩
                · have HF : Hid (kd = false) := HNO.out (fun h => h1 h.2.2.1)
                  go_wp2_with fail
                  go_meet
                  case rel => exact ⟨congrArg _ HF.out.symm, rfl⟩
              · have HF : Hid (kd = false) := HNO.out (fun h => h3 h.2.1)
                have h3' : ((t.e : Int) == 0) = false := beq_eq_false_iff_ne.2 h3
                go_wp2_with fail
                go_meet
                case rel => exact ⟨congrArg _ HF.out.symm, rfl⟩
          case rest =>
            obtain ⟨rfl, hcc⟩ := hcut
            subst hcc
            clear c2
            go_upto_if 104 with fail
            go_cut [16, 17] from 105 to 124 (fun _ _ we => UM b mb (cput t q x) t.f (eput t q x fin) (m + 2048) we ∧ Kp [mb, b] w1 we)
            case first =>
              cases kd with
              | false =>
                have HE : Hid (eput t q x fin = t.e) := by
                  show _ = _
                  unfold eput
                  refine if_neg (fun h => ?_)
                  have := HKD.out.2 ⟨h.1, by have := h.2.1; omega, h.2.2.1, h.2.2.2.1⟩
                  cases this
                go_wp2_with fail
                go_meet
                exact ⟨by rw [HE.out]; exact U2.out, KK.out⟩
              | true =>
                obtain ⟨kf, k3, k1, k2⟩ := HKD.out.1 rfl
                have HEt : Hid (∀ v : Bool, (v = true ↔ (rput t q x : Int) ≤ q + x.size) → eput t q x fin = if v = true then (q + x.size).toNat else t.e) := fun v hv => by
                  unfold eput
                  by_cases hr : (rput t q x : Int) ≤ q + x.size
                  · rw [if_pos (hv.2 hr), if_pos ⟨kf, by omega, k1, k2, hr⟩]
                  · rw [if_neg (fun h => hr (hv.1 h)), if_neg (fun h => hr h.2.2.2.2)]
                have HAI := Lib.hid (all_iff HOk.out q x (q + x.size) k1)
                obtain ⟨D, ho, hd⟩ := U2.out.own
                have HDA := Lib.hid hd
                have c0 := U2.out.c0
                clear kf k3 hd
                go_wp2_with (at_range; refine wpList_range_own _ rfl _ 57 rfl 3 5 law3 Try.underlying57 _ mb (m + 2048) D rfl ho ?_; intro w0 hrg0 hg0 hs0)
                try go_frame
                go_loopw [16] (fun s W => ∃ v lf cnt, s = .bool v ∧ Hid (v = true ↔ ∀ k : Nat, (cput t q x k).isSome = true → lf (kl (k : Int)) = false → (k : Int) < q + x.size) ∧ FS w1 b mb wc.heap.size t.f t.e (m + 2048) D lf cnt W) (fun _ W => W.rangeLeft mb wc.heap.size)
                case atStart =>
                  have hb0 : Below wc.heap.size wc w0 := ⟨hg0.os, hg0.tape, hg0.output, hg0.size, fun k hk => hg0.block k hk (by simp)⟩
                  refine ⟨true, _, _, rfl, ?_, (hb0.block _ U2.out.lt).trans U2.out.blk, hrg0, KK.out.then hb0, KK.out.size, Nat.ne_of_lt U2.out.lt⟩
                  refine ⟨fun _ k h1 h2 => ?_, fun _ => rfl⟩
                  rw [HDA.out.has k, h1] at h2; cases h2
                case round =>
                  obtain ⟨v, lf, cnt, rfl, HV, hS⟩ := hrel
                  have S := Lib.hid hS
                  have hrg := hS.rng
                  clear hS ho hrg0 hg0 hs0 c0
                  go_wp2_with (at_next; refine wpList_next_ranges_ii _ rfl _ rfl 3 5 .i64 .u8 law3 Try.underlying3 Try.underlying5 mb wc.heap.size (m + 2048) D lf cnt rfl hrg ?_ ?_)
                  · intro _ hl0
                    have HVR : Hid (v = true ↔ (rput t q x : Int) ≤ q + x.size) := HV.out.trans ⟨fun h => HAI.out.1 fun k hk => h k hk (hl0 _), fun h k hk _ => HAI.out.2 h k hk⟩
                    have HEv := Lib.hid (HEt.out v HVR.out)
                    have U3 : Hid (UM b mb (cput t q x) t.f t.e (m + 2048) wr) := ⟨S.out.blk, D, S.out.rng.owns, HDA.out⟩
                    have K3 := Lib.hid S.out.kp
                    have c2 := U3.out.c2
                    have f2 := U3.out.free 2
                    have hP : 0 ≤ q + (x.size : Int) := by omega
                    clear hl0 hrg S HV HEt HAI
                    cases v with
                    | true =>
                      have HU4 : Hid (UM b mb (cput t q x) t.f (q + (x.size : Int)).toNat (m + 2048) (wr.setCell ⟨b, 2, none⟩ (.int .i64 (q + (x.size : Int))))) := by
                        have := U3.out.set2 (q + (x.size : Int)).toNat
                        rwa [show (((q + (x.size : Int)).toNat : Nat) : Int) = q + (x.size : Int) from by omega] at this
                      have HK4 : Hid (Kp [mb, b] w1 (wr.setCell ⟨b, 2, none⟩ (.int .i64 (q + (x.size : Int))))) := K3.out.setCell (Or.inl (by simp)) _
                      have HE2 : Hid (eput t q x fin = (q + (x.size : Int)).toNat) := HEv.out
                      clear HEv
                      go_wp2_with fail
                      go_meet
                      exact ⟨by rw [HE2.out]; exact HU4.out, HK4.out⟩
                    | false =>
                      have HE2 : Hid (eput t q x fin = t.e) := HEv.out
                      clear HEv
                      go_wp2_with fail
                      go_meet
                      exact ⟨by rw [HE2.out]; exact U3.out, K3.out⟩
                  · intro xk xc w2 cnt1 hwx hwc hlx hat hrg1 hlt1 hg1 hs1 hen
                    have hhas := Maps.has_true_of_atKey hat
                    have hx0 : 0 ≤ xk := by
                      rcases Int.lt_or_le xk 0 with h0 | h0
                      · have := HDA.out.neg xk h0; rw [this] at hhas; cases hhas
                      · exact h0
                    obtain ⟨xn, rfl⟩ := Int.eq_ofNat_of_zero_le hx0
                    have hsm : (cput t q x xn).isSome = true := by rw [← HDA.out.has xn]; exact hhas
                    have HSm := Lib.hid hsm
                    have HLx := Lib.hid hlx
                    have S2 : Hid (FS w1 b mb wc.heap.size t.f t.e (m + 2048) D (fun z => lf z && !z.sameKey (kl (xn : Int))) cnt1 w2) := by
                      have s := S.out
                      refine ⟨(hg1.block b (lt_of_heap s.blk) (fun e => s.ne (Option.some.inj e))).trans s.blk, hrg1, ?_, s.le, s.ne⟩
                      exact s.kp.trans (cs := [wc.heap.size]) ⟨hg1.os, hg1.tape, hg1.output, hg1.size, fun k hk hn => hg1.block k hk (fun e => hn (by rw [← Option.some.inj e]; simp))⟩ (fun z hz => by rw [List.mem_singleton] at hz; subst hz; exact Or.inr s.le)
                    have HM : Hid (w2.rangeLeft mb wc.heap.size < wr.rangeLeft mb wc.heap.size) := by show _ < _; rw [hrg1.left_eq, hrg.left_eq]; exact hlt1
                    have HVn : Hid (∀ u : Bool, (u = true ↔ v = true ∧ (xn : Int) < q + x.size) → Hid (u = true ↔ ∀ k : Nat, (cput t q x k).isSome = true → (lf (kl (k : Int)) && !(kl (k : Int)).sameKey (kl (xn : Int))) = false → (k : Int) < q + x.size)) := fun u hu => by
                      have hkk : ∀ k : Nat, (lf (kl (k : Int)) && !(kl (k : Int)).sameKey (kl (xn : Int))) = false ↔ lf (kl (k : Int)) = false ∨ k = xn := fun k => by
                        by_cases hk : k = xn
                        · subst hk; simp [Lit.sameKey]
                        · have : (kl (k : Int)).sameKey (kl (xn : Int)) = false := by simp [Lit.sameKey]; omega
                          rw [this]; simp [hk]
                      refine hu.trans ⟨fun h k hk hl => ?_, fun h => ⟨HV.out.2 fun k hk hl => h k hk ((hkk k).2 (Or.inl hl)), h xn HSm.out ((hkk xn).2 (Or.inr rfl))⟩⟩
                      rcases (hkk k).1 hl with hl | rfl
                      · exact HV.out.1 h.1 k hk hl
                      · exact h.2
                    clear hwx hwc hlx hat hrg1 hlt1 hg1 hs1 hhas hx0 hsm hrg
                    cases v with
                    | true =>
                      have HVt := Lib.hid (HVn.out (decide ((xn : Int) < q + x.size)) (by simp))
                      clear HVn HV
                      go_wp2_with fail
                      go_roundw
                      case rel => exact ⟨_, _, cnt1, rfl, HVt.out, S2.out⟩
                      case measure => exact HM.out
                    | false =>
                      have HVt := Lib.hid (HVn.out false (by simp))
                      clear HVn HV
                      go_wp2_with fail
                      go_roundw
                      case rel => exact ⟨_, _, cnt1, rfl, HVt.out, S2.out⟩
                      case measure => exact HM.out
            case rest =>
              obtain ⟨hU3, hK3⟩ := hcut
              have hoff : off t q = false := by unfold off; rw [HOv.out, decide_eq_false (by omega)]; rfl
              have U4 : UT b mb (put t q x fin) (m + 2048) wc := by
                have e2 : ∀ s : St, s = ⟨cput t q x, t.f, nput t q x, rput t q x, eput t q x fin⟩ → UT b mb s (m + 2048) wc := fun s hs => by subst hs; exact hU3
                exact e2 _ (put_on x fin hoff)
              have hfp : (put t q x fin).f = t.f := by rw [put_on x fin hoff]
              have HNx : Hid (Calls Try.prog 15 #[.pointer (some ⟨b, 0, none⟩)] wc fun e w' => e = .returned (.int .i64 (nxt (put t q x fin) : Int)) ∧ ∃ k, w' = wc.drewN k) := rnext_any U4 (HOk.out.put q x fin) (by rw [hfp]; exact hf)
              have HMv : Hid (moved t q x fin = decide ((t.n : Int) < (nxt (put t q x fin) : Int))) := by
                show _ = _
                unfold moved
                rw [not_over_nxt HOv.out, decide_eq_decide]; omega
              have U5 := Lib.hid U4
              have K5 := Lib.hid hK3
              clear U4 hU3 hK3 hoff hfp U2 KK HKD HNO
              generalize (nxt (put t q x fin) : Int) = N at *
              go_wp2_with fail
              refine HNx.out.mono ?_
              rintro e w6 ⟨rfl, hm⟩
              have U6 : Hid (UT b mb (put t q x fin) (m + 2048) w6) := by obtain ⟨k, rfl⟩ := hm; exact U5.out.drewN _
              have K6 : Hid (Kp [mb, b] w1 w6) := by obtain ⟨k, rfl⟩ := hm; exact K5.out.drewN k
              clear hm U5 K5 HNx
              go_wp2_with fail
              go_ret
              exact ⟨ret_bool HMv.out.symm, U6.out, K6.out⟩
end
end Go.Proofs.Ythdjdfemckjebaa
