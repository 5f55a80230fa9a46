/-
  Contract of the document's In (17), of what is no fragment.
-/
import Derived.Test.YtfnmcnbiahfnfaaEf
namespace Go.Proofs.Ytfnmcnbiahfnfaa
open Go.RowKit
set_option linter.unusedVariables false
set_option linter.unusedSimpArgs false

set_option maxHeartbeats 8000000 in
set_option maxRecDepth 100000 in
theorem din_early (ub B : Nat) (s0 : Value) (U0 : List DE) (C : List (Nm × Gm)) (p : Pk) (w : World) (h : UT w ub B s0 U0) (hB : B ≤ w.heap.size) (S : Sim C U0) (hd : PD C) (h8 : C.length ≤ 8) (f : Fits p) (hn : ¬ Fg p) :
    Calls Try.prog 17 #[.pointer (some ⟨ub, 0, none⟩), pv p] w (DPost w ub B s0 U0 C p) := by
  have hw3 : Below w.heap.size w (((w.alloc (.cells #[.pointer (some ⟨ub, 0, none⟩)] 34)).alloc (.cells (pc p) 24)).alloc (.cells pzc 24)) := (((Below.refl _ _).alloc (Nat.le_refl _) _).alloc (by simp) _).alloc (by simp; omega) _
  have X0 : Hid ((((w.alloc (.cells #[.pointer (some ⟨ub, 0, none⟩)] 34)).alloc (.cells (pc p) 24)).alloc (.cells pzc 24)).heap[w.heap.size]? = some (.cells #[.pointer (some ⟨ub, 0, none⟩)] 34 (0, 0))) := by
    show _ = _
    rw [heap_alloc_old _ _ (by simp; omega), heap_alloc_old _ _ (by simp), heap_alloc_new]
  have P0 : Hid (PB (w.heap.size + 1) p (((w.alloc (.cells #[.pointer (some ⟨ub, 0, none⟩)] 34)).alloc (.cells (pc p) 24)).alloc (.cells pzc 24))) := by
    have := (PB.new (w.alloc (.cells #[.pointer (some ⟨ub, 0, none⟩)] 34)) p).alloc (.cells pzc 24)
    rwa [show (w.alloc (.cells #[.pointer (some ⟨ub, 0, none⟩)] 34)).heap.size = w.heap.size + 1 from by simp] at this
  have Z0 : Hid (PB (w.heap.size + 2) pz (((w.alloc (.cells #[.pointer (some ⟨ub, 0, none⟩)] 34)).alloc (.cells (pc p) 24)).alloc (.cells pzc 24))) := by
    have := PB.newz ((w.alloc (.cells #[.pointer (some ⟨ub, 0, none⟩)] 34)).alloc (.cells (pc p) 24))
    rwa [show ((w.alloc (.cells #[.pointer (some ⟨ub, 0, none⟩)] 34)).alloc (.cells (pc p) 24)).heap.size = w.heap.size + 2 from by simp] at this
  have HU := Lib.hid Try.underlying24
  have HI : Hid ((Try.prog.info? 24).map (·.size) = some 9) := info24
  have HC : Hid (∀ w', Calls Try.prog 26 #[pv p] w' fun e w'' => e = .returned (.int .i64 (chk p)) ∧ Below w'.heap.size w' w'') := fun w' => rchk_any p w'
  have HMd : Hid (inM C p = if chk p ≠ 0 then ((pz, false, chk p), C) else if p.more = false ∧ p.off = 0 then ((p, true, 0), C) else if ffl p ≠ 0 then ((pz, false, ffl p), C) else match lookB C (nmOf p) with | some g => (putVm (nmOf p) g p, putB C (nmOf p) g p) | none => if C.length = 8 then ((pz, false, 9), C) else (putVm (nmOf p) gm0 p, putB (C ++ [(nmOf p, gm0)]) (nmOf p) gm0 p)) := rfl
  have T := Lib.hid h
  have SS := Lib.hid S
  have HE : Hid (∀ (W : World) (V : Pk × Bool × Int) (vs : List Value), Below w.heap.size w W → inM C p = (V, C) → DPost w ub B s0 U0 C p (.returned (.tuple #[pv V.1, .bool V.2.1, .int .i64 V.2.2])) (W.setCells (w.heap.size + 2) 0 vs)) := fun W V vs hb hV => DPost.early T.out SS.out hb hV vs
  clear h S
  generalize hQP : DPost w ub B s0 U0 C p = QP at *
  have HQP := Lib.hid hQP
  clear hQP
  generalize hMM : inM C p = MM at *
  have HMM := Lib.hid hMM
  clear hMM
  by_cases hk : chk p = 0
  · obtain ⟨_, _, _, ho8, hbs⟩ := chk_zero hk
    rw [if_neg (by simp [hk])] at HMd
    rw [hk] at HC
    go_enter Try.func17, Try.ntmps17
    go_wp2_with (refine wpList_load_mid rfl 24 _ rfl (w.heap.size + 1) 0 rfl (pcl p) _ P0.out.range HU.out rfl HI.out ?_)
    refine (HC.out _).mono ?_; rintro ex w1 ⟨rfl, hb1⟩
    have b1 := hw3.trans (hb1.mono (by simp; omega))
    have X1 := Lib.hid ((hb1.block _ (lt_of_heap X0.out)).trans X0.out)
    have Z1 := Lib.hid (Z0.out.keep hb1)
    have P1 := Lib.hid (P0.out.keep hb1)
    have x6 := P1.out.c6
    have x7 := P1.out.c7
    have x8 := P1.out.c8
    clear hb1 X0 Z0 P0 hw3
    by_cases hw : p.more = false ∧ p.off = 0
    · obtain ⟨hm, ho⟩ := hw
      have hM : MM = ((p, true, 0), C) := by rw [HMd.out, if_pos ⟨hm, ho⟩]
      have HQ := Lib.hid (HE.out w1 (p, true, 0) (pcl p) b1 hM)
      rw [hm] at x6
      rw [ho] at x7
      clear hm ho HMd hM
      go_wp2_with (first | (refine wpList_load_mid rfl 24 _ rfl (w.heap.size + 1) 0 rfl (pcl p) _ P1.out.range HU.out rfl HI.out ?_) | (refine wpList_store_mid rfl _ _ _ rfl _ _ (pc p) rfl rfl Z1.out.there info24 (pc_one p) ?_))
      refine bodyPost_ret (v := .tuple #[pv p, .bool true, .int .i64 0]) (by simp only [results, Try.results17, Act.put, asAddr]; simp [told w1 (w.heap.size + 2) pz p Z1.out]) rfl ?_
      exact HQ.out
    · rw [if_neg hw] at HMd
      have hcase : (p.more = true) ∨ (p.more = false ∧ (p.off == 0) = false) := by
        cases hm : p.more with
        | true => exact Or.inl rfl
        | false => exact Or.inr ⟨rfl, by rw [beq_eq_false_iff_ne]; exact fun ho => hw ⟨hm, ho⟩⟩
      go_upto_region 4 with fail
      go_cut [35] from 24 (fun b wc => b = .bool false ∧ wc = w1)
      case first =>
        rcases hcase with hm | ⟨hm, ho⟩
        · rw [hm] at x6
          clear hm hw
          go_wp2_with fail
          go_meet
          case rel => exact ⟨rfl, rfl⟩
        · rw [hm] at x6
          clear hm hw
          go_wp2_with fail
          go_meet
          case rel => exact ⟨rfl, rfl⟩
      case rest =>
        obtain ⟨rfl, rfl⟩ := hcut
        by_cases h4 : p.more = true ∧ (p.body.size = 0 ∨ p.body.size % 8 ≠ 0)
        · have hff : ffl p = 4 := by unfold ffl; rw [if_pos h4]
          have hM : MM = ((pz, false, 4), C) := by rw [HMd.out, hff]; rfl
          have HQ := Lib.hid (HE.out wc (pz, false, 4) (pcl pz) b1 hM)
          obtain ⟨hm, hz⟩ := h4
          rw [hm] at x6
          clear hm hw hff hM HMd hcase
          rcases hz with hz | hz
          · have hzi : ((p.body.size : Int) == 0) = true := by simp [hz]
            clear hz
            go_wp2_with (first | (refine wpList_build24 rfl rfl ?_) | (refine wpList_store_mid rfl _ _ _ rfl _ _ (pc pz) rfl rfl Z1.out.there info24 (pc_one pz) ?_))
            refine bodyPost_ret (v := .tuple #[pv pz, .bool false, .int .i64 4]) (by simp only [results, Try.results17, Act.put, asAddr]; simp [told wc (w.heap.size + 2) pz pz Z1.out]) rfl ?_
            exact HQ.out
          · have hzi : ((p.body.size : Int) == 0) = false := by rw [beq_eq_false_iff_ne]; omega
            have hz8 : (0 : Int) < (p.body.size : Int) % 8 := by omega
            clear hz
            go_wp2_with (first | (refine wpList_build24 rfl rfl ?_) | (refine wpList_store_mid rfl _ _ _ rfl _ _ (pc pz) rfl rfl Z1.out.there info24 (pc_one pz) ?_))
            refine bodyPost_ret (v := .tuple #[pv pz, .bool false, .int .i64 4]) (by simp only [results, Try.results17, Act.put, asAddr]; simp [told wc (w.heap.size + 2) pz pz Z1.out]) rfl ?_
            exact HQ.out
        · have hgt : 4000 < fend p := Classical.byContradiction fun hc => hn ⟨hk, by unfold ffl; rw [if_neg h4, if_neg hc], hw⟩
          have hff : ffl p = 2 := by unfold ffl; rw [if_neg h4, if_pos hgt]
          have hM : MM = ((pz, false, 2), C) := by rw [HMd.out, hff]; rfl
          have HQ := Lib.hid (HE.out wc (pz, false, 2) (pcl pz) b1 hM)
          have hg8 : (4000 : Int) < 8 * p.off + (p.body.size : Int) := by unfold fend at hgt; omega
          clear hff hM HMd hw hgt hk
          go_upto_region 6 with fail
          go_cut [51] from 24 (fun b we => b = .bool false ∧ we = wc)
          case first =>
            rcases hcase with hm | ⟨hm, ho⟩
            · have hz1 : p.body.size ≠ 0 := fun hc => h4 ⟨hm, Or.inl hc⟩
              have hz2 : p.body.size % 8 = 0 := Classical.byContradiction fun hc => h4 ⟨hm, Or.inr hc⟩
              have hzi : ((p.body.size : Int) == 0) = false := by rw [beq_eq_false_iff_ne]; omega
              have hz8 : ¬ ((0 : Int) < (p.body.size : Int) % 8) := by omega
              rw [hm] at x6
              clear hm hz1 hz2 h4
              go_wp2_with fail
              go_meet
              case rel => exact ⟨by first | rfl | rw [decide_eq_false (by omega)], rfl⟩
            · rw [hm] at x6
              clear hm h4
              go_wp2_with fail
              go_meet
              case rel => exact ⟨rfl, rfl⟩
          case rest =>
            obtain ⟨rfl, hcc⟩ := hcut
            subst hcc
            clear h4 hcase x6
            go_wp2_with (first | (refine wpList_build24 rfl rfl ?_) | (refine wpList_store_mid rfl _ _ _ rfl _ _ (pc pz) rfl rfl Z1.out.there info24 (pc_one pz) ?_))
            refine bodyPost_ret (v := .tuple #[pv pz, .bool false, .int .i64 2]) (by simp only [results, Try.results17, Act.put, asAddr]; simp [told wc (w.heap.size + 2) pz pz Z1.out]) rfl ?_
            exact HQ.out
  · have hM : MM = ((pz, false, chk p), C) := by rw [HMd.out, if_pos hk]
    have hk' : (chk p != 0) = true := by simpa using hk
    generalize chk p = CK at *
    clear hk HMd
    go_enter Try.func17, Try.ntmps17
    go_wp2_with (refine wpList_load_mid rfl 24 _ rfl (w.heap.size + 1) 0 rfl (pcl p) _ P0.out.range HU.out rfl HI.out ?_)
    refine (HC.out _).mono ?_; rintro ex w1 ⟨rfl, hb1⟩
    have b1 := hw3.trans (hb1.mono (by simp; omega))
    have Z1 := Lib.hid (Z0.out.keep hb1)
    have HQ := Lib.hid (HE.out w1 (pz, false, CK) (pcl pz) b1 hM)
    clear hM
    go_wp2_with (first | (refine wpList_build24 rfl rfl ?_) | (refine wpList_store_mid rfl _ _ _ rfl _ _ (pc pz) rfl rfl Z1.out.there info24 (pc_one pz) ?_))
    refine bodyPost_ret (v := .tuple #[pv pz, .bool false, .int .i64 CK]) (by simp only [results, Try.results17, Act.put, asAddr]; simp [told w1 (w.heap.size + 2) pz pz Z1.out]) rfl ?_
    exact HQ.out
end Go.Proofs.Ytfnmcnbiahfnfaa
