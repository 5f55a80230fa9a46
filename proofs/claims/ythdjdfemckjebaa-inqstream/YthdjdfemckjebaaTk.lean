/-
  Contract of take (package inq).
-/
import Derived.Test.YthdjdfemckjebaaMv
namespace Go.Proofs.Ythdjdfemckjebaa
open Go.RowKit
set_option linter.unusedVariables false
set_option linter.unusedSimpArgs false

/-- What has come when the places ahead of k were gone over. -/
def cmid (t : St) (q : Int) (x : ByteArray) (k : Nat) (p : Nat) : Option UInt8 := if p < k then cput t q x p else t.c p
theorem cmid_start {t : St} {q : Int} {x : ByteArray} {k : Nat} (h : (k : Int) ≤ fr t q) : cmid t q x k = t.c := by
  funext p
  unfold cmid cput
  split
  · split
    · rfl
    · rename_i hs
      rw [if_neg (by omega)]
      cases hc : t.c p with
      | none => rfl
      | some y => rw [hc] at hs; simp at hs
  · rfl
theorem cput_out {t : St} {q : Int} {x : ByteArray} {p : Nat} (h : ¬ (fr t q ≤ (p : Int) ∧ (p : Int) < bh t q x)) : cput t q x p = t.c p := by
  unfold cput
  split
  · rfl
  · rename_i hs
    cases hc : t.c p with
    | none => simp [h]
    | some y => rw [hc] at hs; simp at hs
theorem cmid_end {t : St} {q : Int} {x : ByteArray} {k : Nat} (h : bh t q x ≤ (k : Int)) : cmid t q x k = cput t q x := by
  funext p
  unfold cmid
  split
  · rfl
  · exact (cput_out (by omega)).symm
theorem cmid_stays {t : St} {q : Int} {x : ByteArray} {k : Nat} (h : (t.c k).isSome = true) : cmid t q x (k + 1) = cmid t q x k := by
  funext p
  unfold cmid
  by_cases e : p = k
  · subst e; rw [if_pos (by omega), if_neg (by omega)]; exact cput_some h
  · by_cases h1 : p < k
    · rw [if_pos (by omega), if_pos h1]
    · rw [if_neg (by omega), if_neg h1]
theorem cmid_same (t : St) (q : Int) (x : ByteArray) (k : Nat) {p : Nat} (h : p ≠ k) : cmid t q x (k + 1) p = cmid t q x k p := by
  unfold cmid
  by_cases h1 : p < k
  · rw [if_pos (by omega), if_pos h1]
  · rw [if_neg (by omega), if_neg h1]
theorem cmid_at (t : St) (q : Int) (x : ByteArray) (k : Nat) : cmid t q x k k = t.c k := by unfold cmid; rw [if_neg (by omega)]
theorem cmid_new {t : St} {q : Int} {x : ByteArray} {k : Nat} (h : t.c k = none) (h1 : fr t q ≤ (k : Int)) (h2 : (k : Int) < bh t q x) : cmid t q x (k + 1) k = some (byt x q k) := by
  unfold cmid cput
  rw [if_pos (by omega), h, if_neg (by simp), if_pos ⟨h1, h2⟩]
theorem not_over_nxt {t : St} (h : over t = false) : nxt t = t.n := by unfold nxt; rw [h]; simp

theorem getD_data (s : ByteArray) (k : Nat) (h : k < s.size) : s.data.toList.getD k 0 = s[k] := by
  rw [List.getD_eq_getElem?_getD, List.getElem?_eq_getElem (by rw [← Lib.size_eq]; exact h), Option.getD_some]; rfl
theorem index_at (s : ByteArray) (k : Nat) (h : k < s.size) (w : World) : (Instr.index 9 (.string s) (.int .i64 (k : Int))).run Try.prog w = .ok (.int .u8 ((s.data.toList.getD k 0).toNat : Int)) w := by
  have := run_index_string (P := Try.prog) (w := w) 9 s .i64 (k : Int) Try.underlying9
  rw [getD_data s k h, this]
  simp [h]

set_option maxHeartbeats 2000000 in
theorem index_of (s : ByteArray) (q : Int) (h0 : 0 ≤ q) (h : q < s.size) (w : World) : (Instr.index 9 (.string s) (.int .i64 q)).run Try.prog w = .ok (.int .u8 ((s.data.toList.getD q.toNat 0).toNat : Int)) w := by
  obtain ⟨k, rfl⟩ := Int.eq_ofNat_of_zero_le h0
  exact index_at s k (by omega) w
section
variable {b : Nat} {t : St} {w : World}
theorem OM.there' {c : Nat → Option UInt8} {f n x r g : Nat} {W : World} (h : OM b c f n x r g W) {k : Nat} (h1 : f ≤ k) (h2 : k < f + 2048) (h3 : n ≤ k) : W.cell? ⟨b, 2048 + k % 2048, none⟩ = some (.bool (c k).isSome) := by
  obtain ⟨q, hq, kk⟩ := h
  rw [hq.cThere _ (by omega), (kk.ring k h1 h2).1, decide_eq_true h3]; simp
theorem OM.byte' {c : Nat → Option UInt8} {f n x r g : Nat} {W : World} (h : OM b c f n x r g W) (k : Nat) : ∃ y : UInt8, W.cell? ⟨b, k % 2048, none⟩ = some (.int .u8 (y.toNat : Int)) := by
  obtain ⟨q, hq, kk⟩ := h
  exact ⟨_, hq.cBytes _ (by omega)⟩
theorem OM.putByte {c c' : Nat → Option UInt8} {f n x r g : Nat} {W : World} (h : OM b c f n x r g W) (k : Nat) (h1 : f ≤ k) (h2 : k < f + 2048) (h3 : n ≤ k) (y : UInt8) (hk : c' k = some y) (ho : ∀ p, p ≠ k → c' p = c p) :
    OM b c' f n x r g ((W.setCell ⟨b, k % 2048, none⟩ (.int .u8 (y.toNat : Int))).setCell ⟨b, 2048 + k % 2048, none⟩ (.bool true)) := by
  obtain ⟨q, hq, kk⟩ := h
  exact ⟨_, (hq.setBytes (k % 2048) (by omega) y).setThere (k % 2048) (by omega) true, kk.ring.put k h1 h2 h3 y hk ho, kk.first, kk.next, kk.reach, kk.fin⟩

set_option maxHeartbeats 4000000 in
theorem take_any (h : OT b t w) (ok : Ok t) (ho : over t = false) (hf : t.f ≤ 1152921504606846976) (q : Int) (q1 : -1152921504606846976 ≤ q) (q2 : q ≤ 1152921504606846976) (x : ByteArray) (hx : x.size ≤ 1152921504606846976) :
    Calls Try.prog 24 #[.pointer (some ⟨b, 0, none⟩), .int .i64 q, .string x] w fun e w' => e = .returned (.tuple #[]) ∧ OM b (cput t q x) t.f t.n t.n (rput t q x) t.e w' ∧ Kp [b] w w' := by
  have lo := ok.lo
  have hnx := not_over_nxt ho
  have H : Hid (OM b t.c t.f t.n t.n t.r t.e w) := by have h := h; unfold OT at h; rw [hnx] at h; exact h
  have hn := ok.nw
  have hfn := ok.fn
  have hf1 := ok.f1
  have hrw := ok.rw
  have he := lo.ee
  have HV : Hid (∀ m, Calls Try.prog 31 #[.pointer (some ⟨b, 0, none⟩)] (w.drewN m) fun e w' => e = .returned (.int .i64 ((t.f : Int) + 2048)) ∧ ∃ m', w' = (w.drewN m).drewN m') := fun m => by
    have h1 := over_nxt lo
    rw [ho, hnx] at h1
    exact edge_raw (H.out.drewN m) false h1 ((t.n : Int) - (t.f : Int)) rfl (by omega) (by omega) (by omega) _ (by omega)
  have c1 := H.out.cNext
  have c2 := H.out.cFin
  have HR : Hid (rput t q x = if fr t q < bh t q x then max t.r (bh t q x).toNat else t.r) := rfl
  have HB : Hid (bh t q x = if 0 < t.e then min (min (q + x.size) (t.f + 2048)) t.e else min (q + x.size) (t.f + 2048)) := rfl
  have HFr : Hid (fr t q = max q t.n) := rfl
  clear h ok lo
  go_enter Try.func24, Try.ntmps24
  go_wp2_with fail
  refine (HV.out 0).mono ?_
  rintro e w1 ⟨rfl, hm⟩
  have H1 : Hid (OM b t.c t.f t.n t.n t.r t.e w1) := by obtain ⟨m, rfl⟩ := hm; exact H.out
  have K1 : Hid (Kp [b] w w1) := by obtain ⟨m, rfl⟩ := hm; exact ((Kp.refl _ _).drewN _).drewN _
  have c1 := H1.out.cNext
  have c2 := H1.out.cFin
  clear HV H hm
  go_upto_if 27 with fail
  go_cut [7] from 27 to 33 (fun v wc => v = .int .i64 (bh t q x) ∧ wc = w1)
  case first =>
    by_cases he : 0 < t.e
    · have d1 : (0 : Int) < (t.e : Int) := by omega
      go_wp2_with fail
      go_meet
      case rel => exact ⟨val_int (by rw [HB.out, if_pos he]; omega), rfl⟩
    · have d1 : ¬ (0 : Int) < (t.e : Int) := by omega
      go_wp2_with fail
      go_meet
      case rel => exact ⟨val_int (by rw [HB.out, if_neg he]), rfl⟩
  case rest =>
    obtain ⟨rfl, hcc⟩ := hcut
    subst hcc
    obtain ⟨z1, z2, z3⟩ := bh_le t q x
    have f0 : (t.n : Int) ≤ max q (t.n : Int) := by omega
    have f2 : q ≤ max q (t.n : Int) := by omega
    have f3 : max q (t.n : Int) ≤ 1152921504606849024 := by omega
    have z4 : -1152921504606846976 ≤ bh t q x := by rw [HB.out]; split <;> omega
    have HFe : Hid (max q (t.n : Int) = fr t q) := HFr.out.symm
    have HBe : Hid (bh t q x = bh t q x) := rfl
    clear z3 HB HFr
    generalize hBB : bh t q x = B at *
    generalize max q (t.n : Int) = F at *
    have HBB := Lib.hid hBB
    clear hBB HBe
    by_cases hlt : F < B
    · have HRe : Hid (rput t q x = max t.r B.toNat) := by show _ = _; rw [HR.out]; exact if_pos (by rw [← HFe.out]; exact hlt)
      clear HR
      obtain ⟨k0, hk0⟩ := Int.eq_ofNat_of_zero_le (show 0 ≤ F by omega)
      go_wp2_with fail
      go_loopw [8] (fun i W => ∃ k : Nat, F ≤ (k : Int) ∧ (k : Int) ≤ B ∧ i = .int .i64 k ∧ OM b (cmid t q x k) t.f t.n t.n t.r t.e W ∧ Kp [b] w W) (fun i _ => B.toNat - (intOf i).toNat)
      case atStart => exact ⟨k0, by omega, by omega, val_int hk0, by rw [cmid_start (by rw [← HFe.out]; omega)]; exact H1.out, K1.out⟩
      case round =>
        obtain ⟨k, hk1, hk2, rfl, hO, hK⟩ := hrel
        have O := Lib.hid hO
        have K := Lib.hid hK
        clear hO hK H1 K1 c1 c2 hk0
        by_cases hkB : (k : Int) < B
        · have ct := O.out.there' (k := k) (by omega) (by omega) (by omega)
          rw [cmid_at] at ct
          cases hs : (t.c k).isSome with
          | true =>
            rw [hs] at ct
            have HE := Lib.hid (cmid_stays (q := q) (x := x) hs)
            clear hs
            go_wp2_with fail
            go_roundw
            case rel => exact ⟨k + 1, by omega, by omega, by go_num, by rw [HE.out]; exact O.out, K.out⟩
            case measure => simp only [intOf]; omega
          | false =>
            rw [hs] at ct
            have hn0 : t.c k = none := by
              cases hc : t.c k with
              | none => rfl
              | some y => rw [hc] at hs; cases hs
            have HN : Hid (∀ N, OM b (cmid t q x (k + 1)) t.f t.n t.n t.r t.e (((wr.drewN N).setCell ⟨b, k % 2048, none⟩ (.int .u8 ((byt x q k).toNat : Int))).setCell ⟨b, 2048 + k % 2048, none⟩ (.bool true))) := fun N =>
              (O.out.drewN N).putByte k (by omega) (by omega) (by omega) (byt x q k) (cmid_new hn0 (by rw [← HFe.out]; exact hk1) (by rw [HBB.out]; exact hkB)) (fun p hp => cmid_same t q x k hp)
            have HK : Hid (∀ N, Kp [b] w (((wr.drewN N).setCell ⟨b, k % 2048, none⟩ (.int .u8 ((byt x q k).toNat : Int))).setCell ⟨b, 2048 + k % 2048, none⟩ (.bool true))) := fun N => ((K.out.drewN N).setCell (Or.inl (by simp)) _).setCell (Or.inl (by simp)) _
            have hix : ∀ w', (Instr.index 9 (.string x) (.int .i64 ((k : Int) - q))).run Try.prog w' = .ok (.int .u8 ((byt x q k).toNat : Int)) w' := fun w' => index_of x _ (by omega) (by omega) w'
            obtain ⟨y, cb⟩ := O.out.byte' k
            have fb := O.out.free (k % 2048)
            have ft := O.out.free (2048 + k % 2048)
            generalize byt x q k = Y at *
            clear hs hn0
            go_wp2_with fail
            go_region
            go_wp2_with fail
            go_roundw
            case rel => exact ⟨k + 1, by omega, by omega, by go_num, HN.out 1, HK.out 1⟩
            case measure => simp only [intOf]; omega
        · obtain rfl : (k : Int) = B := by omega
          have cr := O.out.cReach
          have fr' := O.out.free 4098
          have HE : Hid (cmid t q x k = cput t q x) := cmid_end (by rw [HBB.out]; exact Int.le_refl _)
          have HN : Hid (OM b (cput t q x) t.f t.n t.n (rput t q x) t.e (wr.setCell ⟨b, 4098, none⟩ (.int .i64 (max (t.r : Int) (k : Int))))) := by
            have := O.out.setReach (rput t q x)
            rw [HE.out] at this
            rw [show max (t.r : Int) (k : Int) = (rput t q x : Int) from by rw [HRe.out]; simp; omega]
            exact this
          have HK : Hid (Kp [b] w (wr.setCell ⟨b, 4098, none⟩ (.int .i64 (max (t.r : Int) (k : Int))))) := K.out.setCell (Or.inl (by simp)) _
          clear HRe
          go_wp2_with fail
          refine bodyPost_end (results_none rfl _ _ _) rfl ?_
          exact ⟨rfl, HN.out, HK.out⟩
    · have HRe : Hid (rput t q x = t.r) := by show _ = _; rw [HR.out]; exact if_neg (by rw [← HFe.out]; exact hlt)
      have HN : Hid (OM b (cput t q x) t.f t.n t.n (rput t q x) t.e wc) := by
        rw [HRe.out]
        have e : cput t q x = t.c := by funext p; exact cput_out (by rw [← HFe.out, HBB.out]; omega)
        rw [e]; exact H1.out
      clear HR HRe
      go_wp2_with fail
      refine bodyPost_ret (results_none rfl _ _ _) rfl ?_
      exact ⟨rfl, HN.out, K1.out⟩
end
end Go.Proofs.Ythdjdfemckjebaa
