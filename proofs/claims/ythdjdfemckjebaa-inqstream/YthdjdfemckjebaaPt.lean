/-
  Contract of Put (package inq).
-/
import Derived.Test.YthdjdfemckjebaaTk
namespace Go.Proofs.Ythdjdfemckjebaa
open Go.RowKit
set_option linter.unusedVariables false
set_option linter.unusedSimpArgs false

theorem put_on {t : St} {q : Int} (x : ByteArray) (fin : Bool) (h : off t q = false) : put t q x fin = ⟨cput t q x, t.f, nput t q x, rput t q x, eput t q x fin⟩ := by unfold put; rw [if_neg (by rw [h]; simp)]
theorem put_off {t : St} {q : Int} (x : ByteArray) (fin : Bool) (h : off t q = true) : put t q x fin = t := by unfold put; rw [if_pos h]
theorem nxt_put {t : St} (ok : Ok t) {q : Int} (x : ByteArray) (fin : Bool) (h : off t q = false) : nxt (put t q x fin) = if nput t q x = eput t q x fin then nput t q x + 1 else nput t q x := by
  rw [put_on x fin h]
  show nput t q x + (if over ⟨cput t q x, t.f, nput t q x, rput t q x, eput t q x fin⟩ then 1 else 0) = _
  unfold over
  have h1 := nput_ge t q x
  have h2 := ok.f1
  have h3 := ok.fn
  by_cases he : nput t q x = eput t q x fin
  · rw [if_pos he, if_pos (by rw [decide_eq_true_eq]; exact ⟨by show 0 < eput t q x fin; omega, he⟩)]
  · rw [if_neg he, if_neg (by rw [decide_eq_true_eq]; exact fun h => he h.2)]; rfl
theorem eput_true (t : St) (q : Int) (x : ByteArray) : eput t q x true = eend t.f t.n (rput t q x) t.e (q + x.size) := by
  unfold eput eend
  congr 1
  simp [kn]
theorem eput_false (t : St) (q : Int) (x : ByteArray) : eput t q x false = t.e := by unfold eput; simp
theorem rput_le {t : St} (ok : Ok t) (q : Int) (x : ByteArray) : rput t q x ≤ t.f + 2048 := by
  have := ok.rw
  have := bh_le t q x
  unfold rput; split <;> omega

section
variable {b : Nat} {t : St} {w : World}
set_option maxHeartbeats 4000000 in
theorem put_any (h : OT b t w) (ok : Ok t) (hf : t.f ≤ 1152921504606846976) (q : Int) (q1 : -9223372036854775808 ≤ q) (q2 : q ≤ 9223372036854775807) (x : ByteArray) (hx : x.size ≤ 1152921504606846976) (fin : Bool) :
    Calls Try.prog 10 #[.pointer (some ⟨b, 0, none⟩), .int .i64 q, .string x, .bool fin] w fun e w' => e = .returned (.bool (moved t q x fin)) ∧ OT b (put t q x fin) w' ∧ Kp [b] w w' := by
  have HO := Lib.hid (over_any h ok.lo)
  have H := Lib.hid h
  by_cases hq : q < -1152921504606846976 ∨ 1152921504606846976 < q
  · have ho : off t q = true := by unfold off; rw [decide_eq_true hq]; rfl
    have HM : Hid (moved t q x fin = false) := by show _ = _; unfold moved; rw [put_off x fin ho]; exact decide_eq_false (by omega)
    have HP : Hid (put t q x fin = t) := put_off x fin ho
    clear h ok ho
    by_cases hq1 : q < -1152921504606846976
    · clear hq
      go_enter Try.func10, Try.ntmps10
      go_wp2_with fail
      go_ret
      exact ⟨ret_bool HM.out.symm, by rw [HP.out]; exact H.out, Kp.refl _ _⟩
    · have hq2 : 1152921504606846976 < q := by omega
      clear hq
      go_enter Try.func10, Try.ntmps10
      go_wp2_with fail
      go_ret
      exact ⟨ret_bool HM.out.symm, by rw [HP.out]; exact H.out, Kp.refl _ _⟩
  · have hq1 : ¬ q < -1152921504606846976 := by omega
    have hq2 : ¬ 1152921504606846976 < q := by omega
    cases hov : over t with
    | true =>
      have ho : off t q = true := by unfold off; rw [hov]; simp
      have HM : Hid (moved t q x fin = false) := by show _ = _; unfold moved; rw [put_off x fin ho]; exact decide_eq_false (by omega)
      have HP : Hid (put t q x fin = t) := put_off x fin ho
      rw [hov] at HO
      clear h ok ho hq hov
      go_enter Try.func10, Try.ntmps10
      go_wp2_with fail
      refine HO.out.mono ?_
      rintro e w1 ⟨rfl, hm⟩
      have H1 : Hid (OT b t w1) := by obtain ⟨m, rfl⟩ := hm; exact H.out
      have K1 : Hid (Kp [b] w w1) := by obtain ⟨m, rfl⟩ := hm; exact (Kp.refl _ _).drewN _
      clear HO H hm
      go_wp2_with fail
      go_ret
      exact ⟨ret_bool HM.out.symm, by rw [HP.out]; exact H1.out, K1.out⟩
    | false =>
      have ho : off t q = false := by unfold off; rw [hov, decide_eq_false hq]; rfl
      have HT : Hid (∀ W, OT b t W → Calls Try.prog 24 #[.pointer (some ⟨b, 0, none⟩), .int .i64 q, .string x] W fun e w' => e = .returned (.tuple #[]) ∧ OM b (cput t q x) t.f t.n t.n (rput t q x) t.e w' ∧ Kp [b] W w') := fun W h => take_any h ok hov hf q (by omega) (by omega) x hx
      have hr := rput_le ok q x
      have hfn := ok.fn
      have hnw := ok.nw
      have hee := ok.ee
      have HEn : Hid (∀ W, OM b (cput t q x) t.f t.n t.n (rput t q x) t.e W → Calls Try.prog 25 #[.pointer (some ⟨b, 0, none⟩), .int .i64 (q + (x.size : Int))] W fun e w' => e = .returned (.tuple #[]) ∧ OM b (cput t q x) t.f t.n t.n (rput t q x) (eput t q x true) w' ∧ Kp [b] W w') := fun W h => by
        rw [eput_true]; exact end_any h (q + (x.size : Int)) hf hnw (by omega) hr
      have HMv : Hid (∀ W, OM b (cput t q x) t.f t.n t.n (rput t q x) (eput t q x fin) W → Calls Try.prog 26 #[.pointer (some ⟨b, 0, none⟩)] W fun e w' => e = .returned (.bool (moved t q x fin)) ∧ OT b (put t q x fin) w' ∧ Kp [b] W w') := fun W h => by
        refine (move_any h ok.f1 hf hfn hnw (fun p hp => (ok.nx0 q x p hp).2) (nput t q x) (nput_ge t q x) (nput_all t q x) (ok.nput_none q x) (nxt (put t q x fin)) (nxt_put ok x fin ho) (moved t q x fin) (by unfold moved; rw [not_over_nxt hov])).mono ?_
        rintro e w' ⟨h1, h2, h3⟩
        refine ⟨h1, ?_, h3⟩
        unfold OT
        have e1 := put_on x fin ho
        have e2 : ∀ s : St, s = ⟨cput t q x, t.f, nput t q x, rput t q x, eput t q x fin⟩ → OM b (cput t q x) t.f (nput t q x) (nxt s) (rput t q x) (eput t q x fin) w' → OM b s.c s.f s.n (nxt s) s.r s.e w' := fun s hs h => by subst hs; exact h
        exact e2 _ e1 h2
      have HX : x.size ≤ 1152921504606846976 := hx
      rw [hov] at HO
      clear h ok ho hq hov hr hfn hnw hee
      cases fin with
      | true =>
        go_enter Try.func10, Try.ntmps10
        go_wp2_with fail
        refine HO.out.mono ?_
        rintro e w1 ⟨rfl, hm⟩
        have H1 : OT b t w1 := by obtain ⟨m, rfl⟩ := hm; exact H.out
        have K1 : Hid (Kp [b] w w1) := by obtain ⟨m, rfl⟩ := hm; exact (Kp.refl _ _).drewN _
        clear HO H hm
        go_wp2_with fail
        refine (HT.out _ H1).mono ?_
        rintro e w2 ⟨rfl, h2, hk2⟩
        have K2 : Hid (Kp [b] w w2) := K1.out.trans hk2 (by simp)
        clear HT H1 K1 hk2
        go_wp2_with fail
        refine (HEn.out _ h2).mono ?_
        rintro e w3 ⟨rfl, h3, hk3⟩
        have K3 : Hid (Kp [b] w w3) := K2.out.trans hk3 (by simp)
        clear HEn h2 K2 hk3
        go_wp2_with fail
        refine (HMv.out _ h3).mono ?_
        rintro e w4 ⟨rfl, h4, hk4⟩
        have K4 : Hid (Kp [b] w w4) := K3.out.trans hk4 (by simp)
        have H4 := Lib.hid h4
        clear HMv h3 K3 hk4 h4
        go_wp2_with fail
        go_ret
        exact ⟨rfl, H4.out, K4.out⟩
      | false =>
        rw [eput_false] at HMv
        go_enter Try.func10, Try.ntmps10
        go_wp2_with fail
        refine HO.out.mono ?_
        rintro e w1 ⟨rfl, hm⟩
        have H1 : OT b t w1 := by obtain ⟨m, rfl⟩ := hm; exact H.out
        have K1 : Hid (Kp [b] w w1) := by obtain ⟨m, rfl⟩ := hm; exact (Kp.refl _ _).drewN _
        clear HO H hm
        go_wp2_with fail
        refine (HT.out _ H1).mono ?_
        rintro e w2 ⟨rfl, h2, hk2⟩
        have K2 : Hid (Kp [b] w w2) := K1.out.trans hk2 (by simp)
        clear HT H1 K1 hk2
        go_wp2_with fail
        refine (HMv.out _ h2).mono ?_
        rintro e w4 ⟨rfl, h4, hk4⟩
        have K4 : Hid (Kp [b] w w4) := K2.out.trans hk4 (by simp)
        have H4 := Lib.hid h4
        clear HMv h2 K2 hk4 h4
        go_wp2_with fail
        go_ret
        exact ⟨rfl, H4.out, K4.out⟩
end
end Go.Proofs.Ythdjdfemckjebaa
