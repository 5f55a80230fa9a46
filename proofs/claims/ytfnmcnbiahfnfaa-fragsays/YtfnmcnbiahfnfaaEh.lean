/-
  Contract of the document's In (17), of a fragment.
-/
import Derived.Test.YtfnmcnbiahfnfaaEl
namespace Go.Proofs.Ytfnmcnbiahfnfaa
open Go.RowKit
set_option linter.unusedVariables false
set_option linter.unusedSimpArgs false

set_option maxHeartbeats 60000000 in
set_option maxRecDepth 100000 in
theorem din_frag (ub B : Nat) (s0 : Value) (U0 : List DE) (C : List (Nm × Gm)) (p : Pk) (w : World) (h : UT w ub B s0 U0) (hB : B ≤ w.heap.size) (S : Sim C U0) (hd : PD C) (h8 : C.length ≤ 8) (f : Fits p) (hf : Fg p) (hz : ∀ e ∈ U0, (e.l.length + 1) * 64 ≤ 140737488355328) :
    Calls Try.prog 17 #[.pointer (some ⟨ub, 0, none⟩), pv p] w (DPost w ub B s0 U0 C p) := by
  have hw3 : Below w.heap.size w (((w.alloc (.cells #[.pointer (some ⟨ub, 0, none⟩)] 34)).alloc (.cells (pc p) 24)).alloc (.cells pzc 24)) := (((Below.refl _ _).alloc (Nat.le_refl _) _).alloc (by simp) _).alloc (by simp; omega) _
  have X0 : Hid ((((w.alloc (.cells #[.pointer (some ⟨ub, 0, none⟩)] 34)).alloc (.cells (pc p) 24)).alloc (.cells pzc 24)).heap[w.heap.size]? = some (.cells #[.pointer (some ⟨ub, 0, none⟩)] 34 (0, 0))) := by
    show _ = _
    rw [heap_alloc_old _ _ (by simp; omega), heap_alloc_old _ _ (by simp), heap_alloc_new]
  have P0 : Hid (PB (w.heap.size + 1) p (((w.alloc (.cells #[.pointer (some ⟨ub, 0, none⟩)] 34)).alloc (.cells (pc p) 24)).alloc (.cells pzc 24))) := by
    have := (PB.new (w.alloc (.cells #[.pointer (some ⟨ub, 0, none⟩)] 34)) p).alloc (.cells pzc 24)
    rwa [show (w.alloc (.cells #[.pointer (some ⟨ub, 0, none⟩)] 34)).heap.size = w.heap.size + 1 from by simp] at this
  have Z0 : Hid (PB (w.heap.size + 2) pz (((w.alloc (.cells #[.pointer (some ⟨ub, 0, none⟩)] 34)).alloc (.cells (pc p) 24)).alloc (.cells pzc 24))) := by
    have := PB.newz ((w.alloc (.cells #[.pointer (some ⟨ub, 0, none⟩)] 34)).alloc (.cells (pc p) 24))
    rwa [show ((w.alloc (.cells #[.pointer (some ⟨ub, 0, none⟩)] 34)).alloc (.cells (pc p) 24)).heap.size = w.heap.size + 2 from by simp] at this
  have HU := Lib.hid Try.underlying24
  have HI : Hid ((Try.prog.info? 24).map (·.size) = some 9) := info24
  have HC : Hid (∀ w', Calls Try.prog 26 #[pv p] w' fun e w'' => e = .returned (.int .i64 (chk p)) ∧ Below w'.heap.size w' w'') := fun w' => rchk_any p w'
  have HMd : Hid (inM C p = if chk p ≠ 0 then ((pz, false, chk p), C) else if p.more = false ∧ p.off = 0 then ((p, true, 0), C) else if ffl p ≠ 0 then ((pz, false, ffl p), C) else match lookB C (nmOf p) with | some g => (putVm (nmOf p) g p, putB C (nmOf p) g p) | none => if C.length = 8 then ((pz, false, 9), C) else (putVm (nmOf p) gm0 p, putB (C ++ [(nmOf p, gm0)]) (nmOf p) gm0 p)) := rfl
  obtain ⟨o, cap, rfl, hle, hoc, hg0⟩ := own_form h.row
  have hcl := S.len
  have T := Lib.hid h
  have SS := Lib.hid S
  have HG := Lib.hid hg0
  have HPo : Hid (∀ (k kb : Nat) (s : Value) (U : List DE) (W : World) (V : Pk × Bool × Int) (C' : List (Nm × Gm)) (vs : List Value), DM w ub B (.slice o U0.length cap) U0 p kb k s U W → inM C p = (V, C') → Sim C' U → (∀ m, (∀ e ∈ U0, e.l.length ≤ m) → ∀ e ∈ U, e.l.length ≤ m + 1) → DPost w ub B (.slice o U0.length cap) U0 C p (.returned (.tuple #[pv V.1, .bool V.2.1, .int .i64 V.2.2])) (W.setCells (w.heap.size + 2) 0 vs)) := fun k kb s U W V C' vs h1 h2 h3 h4 => h1.post h2 h3 h4 vs
  clear h S hg0
  generalize hnl : U0.length = nl at *
  have HNL := Lib.hid hnl
  clear hnl
  generalize hQP : DPost w ub B (.slice o nl cap) U0 C p = QP at *
  have HQP := Lib.hid hQP
  clear hQP
  generalize hMM : inM C p = MM at *
  have HMM := Lib.hid hMM
  clear hMM
  obtain ⟨_, _, _, ho8, hbs⟩ := chk_zero hf.chk
  have h4k := hf.le
  have hof := hf.off
  have h40 : ¬ ((4000 : Int) < 8 * p.off + (p.body.size : Int)) := by unfold osn at h4k; omega
  rw [if_neg (by simp [hf.chk]), if_neg hf.part, if_neg (by simp [hf.ffl])] at HMd
  rw [hf.chk] at HC
  have hcase : (p.more = true ∧ ((p.body.size : Int) == 0) = false ∧ ¬ ((0 : Int) < (p.body.size : Int) % 8)) ∨ (p.more = false ∧ (p.off == 0) = false) := by
    have h1 := hf.ffl
    have h2 := hf.part
    unfold ffl at h1
    cases hm : p.more with
    | true =>
      left
      split at h1
      · cases h1
      · rename_i hc
        refine ⟨rfl, ?_, ?_⟩
        · rw [beq_eq_false_iff_ne]; intro h0; exact hc ⟨hm, Or.inl (by omega)⟩
        · intro h0; exact hc ⟨hm, Or.inr (by omega)⟩
    | false =>
      right
      exact ⟨rfl, by rw [beq_eq_false_iff_ne]; exact fun h0 => h2 ⟨hm, h0⟩⟩
  clear h4k hof
  go_enter Try.func17, Try.ntmps17
  go_wp2_with (refine wpList_load_mid rfl 24 _ rfl (w.heap.size + 1) 0 rfl (pcl p) _ P0.out.range HU.out rfl HI.out ?_)
  refine (HC.out _).mono ?_; rintro ex w1 ⟨rfl, hb1⟩
  have b1 := hw3.trans (hb1.mono (by simp; omega))
  have X1 := Lib.hid ((hb1.block _ (lt_of_heap X0.out)).trans X0.out)
  have Z1 := Lib.hid (Z0.out.keep hb1)
  have P1 := Lib.hid (P0.out.keep hb1)
  have x6 := P1.out.c6
  have x7 := P1.out.c7
  have x8 := P1.out.c8
  clear hb1 X0 Z0 P0 hw3 HC
  go_upto_region 4 with fail
  go_cut [35] from 24 to 35 (fun b wc => b = .bool false ∧ wc = w1)
  case first =>
    rcases hcase with ⟨hm, _⟩ | ⟨hm, ho⟩
    · rw [hm] at x6
      clear hm
      go_wp2_with fail
      go_meet
      case rel => exact ⟨rfl, rfl⟩
    · rw [hm] at x6
      clear hm
      go_wp2_with fail
      go_meet
      case rel => exact ⟨rfl, rfl⟩
  case rest =>
    obtain ⟨rfl, rfl⟩ := hcut
    go_upto_region 6 with fail
    go_cut [51] from 36 to 51 (fun b we => b = .bool false ∧ we = wc)
    case first =>
      rcases hcase with ⟨hm, hz0, hz8⟩ | ⟨hm, ho⟩
      · rw [hm] at x6
        clear hm
        go_wp2_with fail
        go_meet
        case rel => exact ⟨by first | rfl | rw [decide_eq_false (by omega)], rfl⟩
      · rw [hm] at x6
        clear hm
        go_wp2_with fail
        go_meet
        case rel => exact ⟨rfl, rfl⟩
    case rest =>
      obtain ⟨rfl, hcc⟩ := hcut
      subst hcc
      have D0 : Hid (DM w ub B (.slice o nl cap) U0 p wc.heap.size 0 (.slice o nl cap) U0 (wc.alloc (.cells #[.int .i64 0] 3))) := by
        have hb2 : Below wc.heap.size wc (wc.alloc (.cells #[.int .i64 0] 3)) := (Below.refl _ _).alloc (Nat.le_refl _) _
        have hzl := Z1.out.lt
        exact ⟨(hb2.block _ (lt_of_heap X1.out)).trans X1.out, P1.out.alloc _, Z1.out.alloc _, heap_alloc_new _ _, hzl, (T.out.on b1).on hb2, T.out.lt, fun b hb => Or.inl (T.out.blt b hb), fun b hb => Or.inl hb, (Kp.ofBelow b1).then hb2⟩
      clear hcase b1 X1 Z1 P1 x6
      have hkb := D0.out.kb3
      generalize hkbe : wc.heap.size = kb at *
      have HAl : Hid (∀ (q : Pk) (w' : World), Calls Try.prog 31 #[pv q, pv p] w' fun e w'' => e = .returned (.bool (decide (nmOf q = nmOf p))) ∧ Below w'.heap.size w' w'') := fun q w' => alike_any q p w'
      go_upto_block 0 with fail
      go_cut [] from 62 to 85 (fun wd => ∃ k : Nat, k ≤ nl ∧ Hid (∀ j b, j < k → C[j]? = some b → b.1 ≠ nmOf p) ∧ (k = nl ∨ (k < nl ∧ ∃ g, C[k]? = some (nmOf p, g))) ∧ DM w ub B (.slice o nl cap) U0 p kb k (.slice o nl cap) U0 wd)
      case first =>
        clear x7 x8
        go_wp2_with fail
        go_loopw [] (fun W => ∃ k : Nat, k ≤ nl ∧ Hid (∀ j b, j < k → C[j]? = some b → b.1 ≠ nmOf p) ∧ DM w ub B (.slice o nl cap) U0 p kb k (.slice o nl cap) U0 W) (fun W => nl - kAt kb W)
        case atStart => exact ⟨0, Nat.zero_le _, (fun j b hj => by omega), D0.out⟩
        case round =>
          obtain ⟨k, hk, HNo, hD⟩ := hrel
          have D := Lib.hid hD
          have q1 := hD.cx
          have q2 := hD.ck
          have q3 := hD.ut.cell
          clear hD
          by_cases hlt : k < nl
          · obtain ⟨g, rfl⟩ := HG.out (by omega)
            obtain ⟨e, he⟩ : ∃ e, U0[k]? = some e := ⟨U0[k]'(by rw [HNL.out]; exact hlt), List.getElem?_eq_getElem _⟩
            obtain ⟨b, hbk⟩ : ∃ b, C[k]? = some b := ⟨C[k]'(by omega), List.getElem?_eq_getElem _⟩
            have hse := SS.out.get hbk he
            obtain ⟨q0, l', hl'⟩ : ∃ q0 l', e.l = q0 :: l' := List.exists_cons_of_ne_nil hse.ne
            have hq0 : e.l[0]? = some q0 := by rw [hl']; rfl
            have hnm : nmOf q0 = b.1 := hse.se.nm q0 (by rw [hl']; simp)
            obtain ⟨oe, ge, ce, hev, hoe⟩ := (D.out.ut.ls e (List.mem_of_getElem? he)).form
            obtain ⟨rfl, _⟩ := hoe (by rw [hl']; simp)
            have hpos : 0 < e.l.length := by rw [hl']; simp
            have HNM := Lib.hid hnm
            clear hse hl' hoe hnm
            obtain ⟨v, l, age⟩ := e
            have hev : v = .slice (some ⟨ge, 0, none⟩) l.length ce := hev
            subst hev
            have hpos : 0 < l.length := hpos
            generalize hll : l.length = ll at *
            clear q1 q2 q3
            go_wp2_with fail
            refine wp_region_held_drew (S := fun w' => Hid (DM w ub B (.slice (some ⟨g, 0, none⟩) nl cap) U0 p kb k (.slice (some ⟨g, 0, none⟩) nl cap) U0 w')) (by kernel_rfl) (Lib.hid D.out.drew) (fun hHeld => ?_)
            refine takeH (i := 0) (d := some 62) (v := ?_) rfl rfl (by kernel_rfl) (by kernel_rfl) (by kernel_rfl) (fun _ _ _ h => h) (Or.inl ⟨by rfl, ?_⟩) hHeld ?_
            rotate_left
            · intro w' hSw; (try dsimp only at hSw); have q := hSw.out; have q1 := q.cx; have q2 := q.ck; have q3 := q.ut.cell; have q4 := q.ce he; clear q; go_simp; try with_reducible rfl
            simp only [Act.put, List.setIfInBounds_toArray, List.set_cons_zero, List.set_cons_succ]
            refine takeH (i := 1) (d := some 63) (v := ?_) rfl rfl (by kernel_rfl) (by kernel_rfl) (by kernel_rfl) (fun _ _ _ h => h) (Or.inl ⟨by rfl, ?_⟩) hHeld ?_
            rotate_left
            · intro w' hSw; (try dsimp only at hSw); have q := hSw.out; have q1 := q.cx; have q2 := q.ck; have q3 := q.ut.cell; have q4 := q.ce he; clear q; go_simp; try with_reducible rfl
            simp only [Act.put, List.setIfInBounds_toArray, List.set_cons_zero, List.set_cons_succ]
            refine takeH (i := 2) (d := some 64) (v := ?_) rfl rfl (by kernel_rfl) (by kernel_rfl) (by kernel_rfl) (fun _ _ _ h => h) (Or.inl ⟨by rfl, ?_⟩) hHeld ?_
            rotate_left
            · intro w' hSw; (try dsimp only at hSw); have q := hSw.out; have q1 := q.cx; have q2 := q.ck; have q3 := q.ut.cell; have q4 := q.ce he; clear q; go_simp; try with_reducible rfl
            simp only [Act.put, List.setIfInBounds_toArray, List.set_cons_zero, List.set_cons_succ]
            refine takeH (i := 3) (d := some 65) (v := ?_) rfl rfl (by kernel_rfl) (by kernel_rfl) (by kernel_rfl) (fun _ _ _ h => h) (Or.inl ⟨by rfl, ?_⟩) hHeld ?_
            rotate_left
            · intro w' hSw; (try dsimp only at hSw); have q := hSw.out; have q1 := q.cx; have q2 := q.ck; have q3 := q.ut.cell; have q4 := q.ce he; clear q; go_simp; try with_reducible rfl
            simp only [Act.put, List.setIfInBounds_toArray, List.set_cons_zero, List.set_cons_succ]
            refine takeH (i := 4) (d := some 66) (v := ?_) rfl rfl (by kernel_rfl) (by kernel_rfl) (by kernel_rfl) (fun _ _ _ h => h) (Or.inl ⟨by rfl, ?_⟩) hHeld ?_
            rotate_left
            · intro w' hSw; (try dsimp only at hSw); have q := hSw.out; have q1 := q.cx; have q2 := q.ck; have q3 := q.ut.cell; have q4 := q.ce he; clear q; go_simp; try with_reducible rfl
            simp only [Act.put, List.setIfInBounds_toArray, List.set_cons_zero, List.set_cons_succ]
            refine takeH (i := 5) (d := some 67) (v := ?_) rfl rfl (by kernel_rfl) (by kernel_rfl) (by kernel_rfl) (fun _ _ _ h => h) (Or.inl ⟨by rfl, ?_⟩) hHeld ?_
            rotate_left
            · intro w' hSw; (try dsimp only at hSw); have q := hSw.out; have q1 := q.cx; have q2 := q.ck; have q3 := q.ut.cell; have q4 := q.ce he; clear q; go_simp; try with_reducible rfl
            simp only [Act.put, List.setIfInBounds_toArray, List.set_cons_zero, List.set_cons_succ]
            refine takeH (i := 6) (d := some 68) (v := ?_) rfl rfl (by kernel_rfl) (by kernel_rfl) (by kernel_rfl) (fun _ _ _ h => h) (Or.inl ⟨by rfl, ?_⟩) hHeld ?_
            rotate_left
            · intro w' hSw; (try dsimp only at hSw); have q := hSw.out; have q1 := q.cx; have q2 := q.ck; have q3 := q.ut.cell; have q4 := q.ce he; clear q; go_simp; try with_reducible rfl
            simp only [Act.put, List.setIfInBounds_toArray, List.set_cons_zero, List.set_cons_succ]
            refine takeH (i := 7) (d := some 69) (v := ?_) rfl rfl (by kernel_rfl) (by kernel_rfl) (by kernel_rfl) (fun _ _ _ h => h) (Or.inl ⟨by rfl, ?_⟩) hHeld ?_
            rotate_left
            · intro w' hSw; (try dsimp only at hSw); have q := hSw.out; have q1 := q.cx; have q2 := q.ck; have q3 := q.ut.cell; have q4 := q.ce he; clear q; go_simp; try with_reducible rfl
            simp only [Act.put, List.setIfInBounds_toArray, List.set_cons_zero, List.set_cons_succ]
            refine takeH (i := 8) (d := some 70) (v := ?_) rfl rfl (by kernel_rfl) (by kernel_rfl) (by kernel_rfl) (fun _ _ _ h => h) (Or.inl ⟨by rfl, ?_⟩) hHeld ?_
            rotate_left
            · intro w' hSw; (try dsimp only at hSw); have q := hSw.out; have q1 := q.cx; have q2 := q.ck; have q3 := q.ut.cell; have q4 := q.ce he; clear q; go_simp; try with_reducible rfl
            simp only [Act.put, List.setIfInBounds_toArray, List.set_cons_zero, List.set_cons_succ]
            refine takeH (i := 9) (d := some 71) (v := ?_) rfl rfl (by kernel_rfl) (by kernel_rfl) (by kernel_rfl) (fun _ _ _ h => h) (Or.inl ⟨by rfl, ?_⟩) hHeld ?_
            rotate_left
            · intro w' hSw; (try dsimp only at hSw); have q := hSw.out; have q1 := q.cx; have q2 := q.ck; have q3 := q.ut.cell; have q4 := q.ce he; clear q; go_simp; try with_reducible rfl
            simp only [Act.put, List.setIfInBounds_toArray, List.set_cons_zero, List.set_cons_succ]
            refine takeH (i := 10) (d := some 72) (v := ?_) rfl rfl (by kernel_rfl) (by kernel_rfl) (by kernel_rfl) (fun _ _ _ h => h) (Or.inl ⟨by rfl, ?_⟩) hHeld ?_
            rotate_left
            · intro w' hSw; (try dsimp only at hSw); have q := hSw.out; have q1 := q.cx; have q2 := q.ck; have q3 := q.ut.cell; have q4 := q.ce he; clear q; go_simp; try with_reducible rfl
            simp only [Act.put, List.setIfInBounds_toArray, List.set_cons_zero, List.set_cons_succ]
            refine takeH (i := 11) (d := some 73) (v := ?_) rfl rfl (by kernel_rfl) (by kernel_rfl) (by kernel_rfl) (fun _ _ _ h => h) (Or.inl ⟨by rfl, ?_⟩) hHeld ?_
            rotate_left
            · intro w' hSw; (try dsimp only at hSw); have q := hSw.out; have q1 := q.cx; have q2 := q.ck; have q3 := q.ut.cell; have q4 := q.ce he; clear q; go_simp; try with_reducible rfl
            simp only [Act.put, List.setIfInBounds_toArray, List.set_cons_zero, List.set_cons_succ]
            refine takeH (i := 12) (d := some 74) (v := ?_) rfl rfl (by kernel_rfl) (by kernel_rfl) (by kernel_rfl) (fun _ _ _ h => h) (Or.inl ⟨by rfl, ?_⟩) hHeld ?_
            rotate_left
            · intro w' hSw; (try dsimp only at hSw); have q := hSw.out; have q1 := q.cx; have q2 := q.ck; have q3 := q.ut.cell; have q4 := q.ce he; clear q; go_simp; try with_reducible rfl
            simp only [Act.put, List.setIfInBounds_toArray, List.set_cons_zero, List.set_cons_succ]
            refine takeH (i := 13) (d := some 75) (v := ?_) rfl rfl (by kernel_rfl) (by kernel_rfl) (by kernel_rfl) (fun _ _ _ h => h) (Or.inl ⟨by rfl, ?_⟩) hHeld ?_
            rotate_left
            · intro w' hSw; (try dsimp only at hSw); have q := hSw.out; have q1 := q.cx; have q2 := q.ck; have q3 := q.ut.cell; have q4 := q.ce he; clear q; go_simp; try with_reducible rfl
            simp only [Act.put, List.setIfInBounds_toArray, List.set_cons_zero, List.set_cons_succ]
            refine takeH (i := 14) (d := some 76) (v := ?_) rfl rfl (by kernel_rfl) (by kernel_rfl) (by kernel_rfl) (fun _ _ _ h => h) (Or.inl ⟨by rfl, ?_⟩) hHeld ?_
            rotate_left
            · intro w' hSw; (try dsimp only at hSw); have q := hSw.out; have q1 := q.cx; have q2 := q.ck; have q3 := q.ut.cell; have q4 := q.ce he; clear q; go_simp; try with_reducible rfl
            simp only [Act.put, List.setIfInBounds_toArray, List.set_cons_zero, List.set_cons_succ]
            refine takeH (i := 15) (d := some 77) (v := ?_) rfl rfl (by kernel_rfl) (by kernel_rfl) (by kernel_rfl) (fun _ _ _ h => h) (Or.inl ⟨by rfl, ?_⟩) hHeld ?_
            rotate_left
            · intro w' hSw; (try dsimp only at hSw); have q := hSw.out; have q1 := q.cx; have q2 := q.ck; have q3 := q.ut.cell; have q4 := q.ce he; clear q; go_simp; try with_reducible rfl
            simp only [Act.put, List.setIfInBounds_toArray, List.set_cons_zero, List.set_cons_succ]
            refine takeH (i := 16) (d := some 78) (v := ?_) rfl rfl (by kernel_rfl) (by kernel_rfl) (by kernel_rfl) (fun _ _ _ h => h) (Or.inl ⟨by rfl, ?_⟩) hHeld ?_
            rotate_left
            · intro w' hSw; (try dsimp only at hSw); have q := hSw.out; have q1 := q.cx; have q2 := q.ck; have q3 := q.ut.cell; have q4 := q.ce he; clear q; go_simp; try with_reducible rfl
            simp only [Act.put, List.setIfInBounds_toArray, List.set_cons_zero, List.set_cons_succ]
            refine takeH (i := 17) (d := some 79) rfl rfl (by kernel_rfl) (by kernel_rfl) (by kernel_rfl) (fun _ _ _ h => h) (yieldsIf_load_mid (by rfl) _ _ rfl _ _ rfl (pcl q0) _ (fun w' hSw => hSw.out.cq he hq0) HU.out rfl HI.out) hHeld ?_
            simp only [Act.put, List.setIfInBounds_toArray, List.set_cons_zero, List.set_cons_succ]
            refine takeH (i := 18) (d := some 80) rfl rfl (by kernel_rfl) (by kernel_rfl) (by kernel_rfl) (fun _ _ _ h => h) (yieldsIf_load_mid (by rfl) _ _ rfl _ _ rfl (pcl p) _ (fun w' hSw => hSw.out.pp.range) HU.out rfl HI.out) hHeld ?_
            simp only [Act.put, List.setIfInBounds_toArray, List.set_cons_zero, List.set_cons_succ]
            refine wpAnyH_ready (rs := [19]) (by kernel_rfl) (by simp) ?_
            refine AllReadyH.cons rfl (fun K hK => ?_) AllReadyH.nil
            go_simp
            refine (HAl.out q0 _).mono ?_; rintro e w9 ⟨rfl, hb9⟩
            have D9 := Lib.hid (D.out.drew.on hb9)
            clear hHeld
            refine hK.out _ _ D9 (fun hHeld => ?_)
            clear hK K
            try simp only [Act.put, List.setIfInBounds_toArray, List.set_cons_zero, List.set_cons_succ]
            refine takeH (i := 20) (d := some 82) (v := ?_) rfl rfl (by kernel_rfl) (by kernel_rfl) (by kernel_rfl) (fun _ _ _ h => h) (Or.inl ⟨by rfl, ?_⟩) hHeld ?_
            rotate_left
            · intro w' hSw; (try dsimp only at hSw); go_simp; try with_reducible rfl
            simp only [Act.put, List.setIfInBounds_toArray, List.set_cons_zero, List.set_cons_succ]
            refine takeH (i := 21) (d := some 83) (v := ?_) rfl rfl (by kernel_rfl) (by kernel_rfl) (by kernel_rfl) (fun _ _ _ h => h) (Or.inl ⟨by rfl, ?_⟩) hHeld ?_
            rotate_left
            · intro w' hSw; (try dsimp only at hSw); go_simp; try with_reducible rfl
            simp only [Act.put, List.setIfInBounds_toArray, List.set_cons_zero, List.set_cons_succ]
            refine wpAnyH_done (by kernel_rfl) ?_ _
            have q2 := D9.out.ck
            have q2f := D9.out.fk
            by_cases hnq : nmOf q0 = nmOf p
            · rw [decide_eq_true hnq]
              go_wp2_with fail
              go_meet
              case rel => exact ⟨k, hk, HNo, Or.inr ⟨hlt, b.2, by rw [hbk, ← hnq, HNM.out]⟩, D9.out⟩
            · rw [decide_eq_false hnq]
              have D10 := Lib.hid (D9.out.setK (k + 1))
              have HK0 : Hid (kAt kb wr = k) := kAt_of D.out.ck
              have HNo' : Hid (∀ j b, j < k + 1 → C[j]? = some b → b.1 ≠ nmOf p) := fun j b' hj hb' => by
                rcases Nat.lt_or_ge j k with h1 | h1
                · exact HNo.out j b' h1 hb'
                · obtain rfl : j = k := by omega
                  rw [hbk] at hb'
                  obtain rfl := Option.some.inj hb'
                  rw [← HNM.out]; exact hnq
              clear hnq
              go_wp2_with fail
              go_roundw
              case rel => exact ⟨k + 1, by omega, HNo', by simpa using D10.out⟩
              case measure =>
                have h1 := kAt_of D10.out.ck
                rw [HK0.out]
                first
                | (rw [show ((k : Int) + 1) = ((k + 1 : Nat) : Int) from by omega, h1]; omega)
                | (simp at h1 ⊢; rw [h1]; omega)
          · have hkn : k = nl := by omega
            have hlt' : ¬ ((k : Int) < (nl : Int)) := by omega
            go_wp2_with fail
            go_quiet (fail)
            go_wp2_with fail
            go_meet
            case rel => exact ⟨k, hk, HNo, Or.inl hkn, D.out.on ⟨rfl, rfl, rfl, Nat.le_refl _, fun _ _ => rfl⟩⟩
      case rest =>
        obtain ⟨k, hk, HNo, hcs, hD⟩ := hcut
        have D := Lib.hid hD
        have q1 := hD.cx
        have q2 := hD.ck
        have q3 := hD.ut.cell
        clear hD D0 HAl x7 x8
        go_wp2_with fail
        go_quiet (fail)
        have D1 : Hid (DM w ub B (.slice o nl cap) U0 p kb k (.slice o nl cap) U0 (wc.drewN nq)) := D.out.on ⟨rfl, rfl, rfl, Nat.le_refl _, fun _ _ => rfl⟩
        clear q1 q2 q3 D
        generalize wc.drewN nq = w2 at *
        have q1 := D1.out.cx
        have q2 := D1.out.ck
        go_upto_if 92 with fail
        go_cut [] from 86 to 105 (fun we => ∃ C1 g1 s1 U1 ve l1 age, RB MM p U0 k C1 g1 U1 ve l1 age ∧ DM w ub B (.slice o nl cap) U0 p kb k s1 U1 we ∧ ∀ b, s1.ownBlock = some b → (Value.slice o nl cap).ownBlock = some b ∨ kb < b)
        case first =>
          rcases hcs with hkn | ⟨hlt, g, hg⟩
          · subst hkn
            have hno : ∀ b ∈ C, b.1 ≠ nmOf p := fun b hb => by
              obtain ⟨j, hj, e⟩ := List.mem_iff_getElem.1 hb
              exact HNo.out j b (by omega) (by rw [List.getElem?_eq_getElem hj, e])
            by_cases h88 : C.length = 8
            · have hk8 : (7 : Int) < (k : Int) := by omega
              have hM : MM = ((pz, false, 9), C) := by
                rw [HMd.out, look_no hno]
                show (if C.length = 8 then _ else _) = _
                rw [if_pos h88]
              have HQ := Lib.hid (HPo.out k kb _ U0 w2 (pz, false, 9) C (pcl pz) D1.out hM SS.out fun m hm e he => Nat.le_succ_of_le (hm e he))
              have Z1 := Lib.hid D1.out.rr
              clear hM HMd
              go_wp2_with (first | (refine wpList_build24 rfl rfl ?_) | (refine wpList_store_mid rfl _ _ _ rfl _ _ (pc pz) rfl rfl Z1.out.there info24 (pc_one pz) ?_))
              refine bodyPost_ret (v := .tuple #[pv pz, .bool false, .int .i64 9]) (by simp only [results, Try.results17, Act.put, asAddr]; simp [told w2 (w.heap.size + 2) pz pz Z1.out]) rfl ?_
              exact HQ.out
            · have hk8 : ¬ ((7 : Int) < (k : Int)) := by omega
              have HRB := Lib.hid (RB.new (U0 := U0) HMd.out hd h88 h8 SS.out hno)
              rw [HNL.out] at HRB
              have hk7 : k ≤ 7 := by omega
              obtain ⟨i0, hi0, hz0, hz1, hz2⟩ := info_parts info81
              have D2 := Lib.hid D1.out.drew
              have D3 := Lib.hid (D2.out.alloc (.cells #[.slice none 0 0, .int .i64 0] 81))
              have qd3 := D2.out.ut.cell
              have qd4 := D3.out.ut.cell
              have qd5 : ((w2.alloc (.cells #[.slice none 0 0, .int .i64 0] 81)).drew).cell? ⟨ub, 0, none⟩ = some (.slice o k cap) := qd4
              have hx0 := Lib.hid D2.out.cx
              have hx1 := Lib.hid D3.out.cx
              have ult := T.out.lt
              have RowA : Hid ((w2.drew.alloc (.cells #[.slice none 0 0, .int .i64 0] 81)).ownsRow B 81 2 (.slice o k cap) k (ocells U0)) := by
                have := D3.out.ut.row
                rw [HNL.out] at this
                exact this
              have SrcA : Hid (Src 2 (w2.drew.alloc (.cells #[.slice none 0 0, .int .i64 0] 81)) (some ⟨w2.heap.size, 0, none⟩) 1 [.slice none 0 0, .int .i64 0]) :=
                ⟨rfl, by simp [Value.oneCell'], (fun h => by cases h), fun ad ho j u hu => by
                  obtain rfl : _ = ad := Option.some.inj ho
                  exact World.news_of_block (w := w2.drew.alloc (.cells #[.slice none 0 0, .int .i64 0] 81)) (cs := #[.slice none 0 0, .int .i64 0]) (heap_alloc_new w2.drew _) j u hu⟩
              have hBW : B ≤ (w2.drew.alloc (.cells #[.slice none 0 0, .int .i64 0] 81)).heap.size := by
                have := D3.out.kp.size
                omega
              have HApp : Hid (∀ v2 w3, World.ownsRow w3 B 81 2 v2 (k + 1) (ocells U0 ++ [.slice none 0 0, .int .i64 0]) → (w2.drew.alloc (.cells #[.slice none 0 0, .int .i64 0] 81)).grownBy w3 (Value.slice o k cap).ownBlock → (v2.ownBlock = (Value.slice o k cap).ownBlock ∨ v2.ownBlock = some (w2.drew.alloc (.cells #[.slice none 0 0, .int .i64 0] 81)).heap.size) → w3.cell? ⟨w.heap.size, 0, none⟩ = some (.pointer (some ⟨ub, 0, none⟩)) ∧ w3.cell? ⟨ub, 0, none⟩ = some (.slice o k cap) ∧ w3.frozen? ⟨ub, 0, none⟩ = false ∧ DM w ub B (.slice o k cap) U0 p kb k v2 (U0 ++ [⟨.slice none 0 0, [], 0⟩]) (w3.setCell ⟨ub, 0, none⟩ v2) ∧ ∀ b, v2.ownBlock = some b → (Value.slice o k cap).ownBlock = some b ∨ kb < b) := fun v2 w3 ho hg hat => by
                have hb2 : Below w2.heap.size w2 (w2.drew.alloc (.cells #[.slice none 0 0, .int .i64 0] 81)) := ((Below.refl _ _).drew).alloc (Nat.le_refl _) _
                obtain ⟨a1, a2, a3⟩ := D1.out.ut.app hb2 (e := ⟨.slice none 0 0, [], 0⟩) rfl rfl (by rw [HNL.out]; exact ho) hg hat
                have hxne : (Value.slice o k cap).ownBlock ≠ some w.heap.size := fun e => by have := T.out.blt _ (Or.inr (Or.inl e)); omega
                have hxlt := lt_of_heap D3.out.x
                have hult := D3.out.ut.lt
                refine ⟨(hg.cell_far ⟨w.heap.size, 0, none⟩ hxlt (fun e => hxne e.symm)).trans hx1.out, (hg.cell_far ⟨ub, 0, none⟩ hult (fun e => T.out.ns e.symm)).trans qd4, (hg.frozen_far ⟨ub, 0, none⟩ hult (fun e => T.out.ns e.symm)).trans D3.out.ut.free, D1.out.turn a2 (fun b hb => ?_) a1 a3, fun b hb => ?_⟩
                · left
                  refine ⟨?_, hb⟩
                  rcases List.mem_cons.1 hb with rfl | hb
                  · exact ult
                  · exact T.out.blt b (Or.inr (Or.inl (by simpa using hb)))
                · rcases hat with hat | hat
                  · exact Or.inl (by rw [← hat]; exact hb)
                  · right
                    rw [hat] at hb
                    injection hb with hb
                    have := D1.out.klt
                    have := hb2.size
                    omega
              clear D2 D3
              go_wp2_with fail
              clear q1 q2
              refine wp_region_held_drew (S := fun w' => Hid (w'.cell? ⟨w.heap.size, 0, none⟩ = some (.pointer (some ⟨ub, 0, none⟩)))) (by kernel_rfl) hx0 (fun hHeld => ?_)
              refine takeH (i := 0) (d := some 96) (v := ?_) rfl rfl (by kernel_rfl) (by kernel_rfl) (by kernel_rfl) (fun _ _ _ h => h) (Or.inl ⟨by rfl, ?_⟩) hHeld ?_
              rotate_left
              · intro w' hSw; (try dsimp only at hSw); have q1 := hSw.out; go_simp; try with_reducible rfl
              simp only [Act.put, List.setIfInBounds_toArray, List.set_cons_zero, List.set_cons_succ]
              refine takeH (i := 1) (d := some 97) (v := ?_) rfl rfl (by kernel_rfl) (by kernel_rfl) (by kernel_rfl) (fun _ _ _ h => h) (Or.inl ⟨by rfl, ?_⟩) hHeld ?_
              rotate_left
              · intro w' hSw; (try dsimp only at hSw); have q1 := hSw.out; go_simp; try with_reducible rfl
              simp only [Act.put, List.setIfInBounds_toArray, List.set_cons_zero, List.set_cons_succ]
              refine takeH (i := 2) (d := some 98) (v := ?_) rfl rfl (by kernel_rfl) (by kernel_rfl) (by kernel_rfl) (fun _ _ _ h => h) (Or.inl ⟨by rfl, ?_⟩) hHeld ?_
              rotate_left
              · intro w' hSw; (try dsimp only at hSw); go_simp; try with_reducible rfl
              simp only [Act.put, List.setIfInBounds_toArray, List.set_cons_zero, List.set_cons_succ]
              refine takeH (i := 3) (d := some 99) (v := ?_) rfl rfl (by kernel_rfl) (by kernel_rfl) (by kernel_rfl) (fun _ _ _ h => h) (Or.inl ⟨by rfl, ?_⟩) hHeld ?_
              rotate_left
              · intro w' hSw; (try dsimp only at hSw); go_simp; try with_reducible rfl
              simp only [Act.put, List.setIfInBounds_toArray, List.set_cons_zero, List.set_cons_succ]
              refine takeH (i := 5) (d := some 101) (v := .agg #[.slice none 0 0, .int .i64 0]) rfl rfl (by kernel_rfl) (by kernel_rfl) (by kernel_rfl) (fun _ _ _ h => h) (yieldsIf_build81 (by rfl) rfl) hHeld ?_
              simp only [Act.put, List.setIfInBounds_toArray, List.set_cons_zero, List.set_cons_succ]
              refine wpAnyH_ready (rs := [4, 6]) (by kernel_rfl) (by simp) ?_
              refine AllReadyH.cons rfl (fun K hK => ?_) (AllReadyH.cons rfl (fun K hK => ?_) AllReadyH.nil)
              · go_simp
                clear hHeld
                refine hK.out _ _ hx0 (fun hHeld => ?_)
                clear hK K
                try simp only [Act.put, List.setIfInBounds_toArray, List.set_cons_zero, List.set_cons_succ]
                refine wpAnyH_ready (rs := [6]) (by kernel_rfl) (by simp) ?_
                refine AllReadyH.cons rfl (fun K hK => ?_) AllReadyH.nil
                go_simp
                clear hHeld
                refine hK.out _ _ hx1 (fun hHeld => ?_)
                clear hK K
                try simp only [Act.put, List.setIfInBounds_toArray, List.set_cons_zero, List.set_cons_succ]
                refine wpAnyH_ready (rs := [7]) (by kernel_rfl) (by simp) ?_
                refine AllReadyH.cons rfl (fun K hK => ?_) AllReadyH.nil
                refine step_src _ rfl _ _ _ rfl B 81 i0 _ 2 32 Try.underlying35 hi0 hz0 hz1 hz2 rfl (by omega) (.slice o k cap) (some ⟨w2.heap.size, 0, none⟩) k 1 1 (ocells U0) [.slice none 0 0, .int .i64 0] rfl rfl RowA.out SrcA.out (fun h => by cases h) (by unfold maxLen; omega) (by omega) hBW ?_
                intro v2 w3 ho2 hg2 hat2
                obtain ⟨o2, c2, rfl, _⟩ := own_form ho2
                obtain ⟨r1, r2, r3, r4, r5⟩ := HApp.out _ w3 ho2 hg2 hat2
                have R4 := Lib.hid r4
                have R5 := Lib.hid r5
                have R1 := Lib.hid r1
                clear r1 r4 r5 ho2 hg2 hat2
                clear hHeld
                refine hK.out _ _ R1 (fun hHeld => ?_)
                clear hK K
                try simp only [Act.put, List.setIfInBounds_toArray, List.set_cons_zero, List.set_cons_succ]
                refine takeH (i := 8) (d := some 104) (v := ?_) rfl rfl (by kernel_rfl) (by kernel_rfl) (by kernel_rfl) (fun _ _ _ h => h) (Or.inl ⟨by rfl, ?_⟩) hHeld ?_
                rotate_left
                · intro w' hSw; (try dsimp only at hSw); go_simp; try with_reducible rfl
                simp only [Act.put, List.setIfInBounds_toArray, List.set_cons_zero, List.set_cons_succ]
                refine takeH (i := 9) (d := some 105) (v := ?_) rfl rfl (by kernel_rfl) (by kernel_rfl) (by kernel_rfl) (fun _ _ _ h => h) (Or.inl ⟨by rfl, ?_⟩) hHeld ?_
                rotate_left
                · intro w' hSw; (try dsimp only at hSw); go_simp; try with_reducible rfl
                simp only [Act.put, List.setIfInBounds_toArray, List.set_cons_zero, List.set_cons_succ]
                refine wpAnyH_ready (rs := [10]) (by kernel_rfl) (by simp) ?_
                refine AllReadyH.cons rfl (fun K hK => ?_) AllReadyH.nil
                go_simp
                clear hHeld
                refine hK.out _ _ (Lib.hid R4.out.cx) (fun hHeld => ?_)
                clear hK K
                try simp only [Act.put, List.setIfInBounds_toArray, List.set_cons_zero, List.set_cons_succ]
                refine wpAnyH_done (by kernel_rfl) ?_ _
                clear qd3 qd4 qd5 r2 r3
                go_wp2_with fail
                go_meet
                case rel => exact ⟨_, _, _, _, _, _, _, HRB.out, R4.out, R5.out⟩
              · go_simp
                clear hHeld
                refine hK.out _ _ hx1 (fun hHeld => ?_)
                clear hK K
                try simp only [Act.put, List.setIfInBounds_toArray, List.set_cons_zero, List.set_cons_succ]
                refine wpAnyH_ready (rs := [4]) (by kernel_rfl) (by simp) ?_
                refine AllReadyH.cons rfl (fun K hK => ?_) AllReadyH.nil
                go_simp
                clear hHeld
                refine hK.out _ _ hx1 (fun hHeld => ?_)
                clear hK K
                try simp only [Act.put, List.setIfInBounds_toArray, List.set_cons_zero, List.set_cons_succ]
                refine wpAnyH_ready (rs := [7]) (by kernel_rfl) (by simp) ?_
                refine AllReadyH.cons rfl (fun K hK => ?_) AllReadyH.nil
                refine step_src _ rfl _ _ _ rfl B 81 i0 _ 2 32 Try.underlying35 hi0 hz0 hz1 hz2 rfl (by omega) (.slice o k cap) (some ⟨w2.heap.size, 0, none⟩) k 1 1 (ocells U0) [.slice none 0 0, .int .i64 0] rfl rfl RowA.out SrcA.out (fun h => by cases h) (by unfold maxLen; omega) (by omega) hBW ?_
                intro v2 w3 ho2 hg2 hat2
                obtain ⟨o2, c2, rfl, _⟩ := own_form ho2
                obtain ⟨r1, r2, r3, r4, r5⟩ := HApp.out _ w3 ho2 hg2 hat2
                have R4 := Lib.hid r4
                have R5 := Lib.hid r5
                have R1 := Lib.hid r1
                clear r1 r4 r5 ho2 hg2 hat2
                clear hHeld
                refine hK.out _ _ R1 (fun hHeld => ?_)
                clear hK K
                try simp only [Act.put, List.setIfInBounds_toArray, List.set_cons_zero, List.set_cons_succ]
                refine takeH (i := 8) (d := some 104) (v := ?_) rfl rfl (by kernel_rfl) (by kernel_rfl) (by kernel_rfl) (fun _ _ _ h => h) (Or.inl ⟨by rfl, ?_⟩) hHeld ?_
                rotate_left
                · intro w' hSw; (try dsimp only at hSw); go_simp; try with_reducible rfl
                simp only [Act.put, List.setIfInBounds_toArray, List.set_cons_zero, List.set_cons_succ]
                refine takeH (i := 9) (d := some 105) (v := ?_) rfl rfl (by kernel_rfl) (by kernel_rfl) (by kernel_rfl) (fun _ _ _ h => h) (Or.inl ⟨by rfl, ?_⟩) hHeld ?_
                rotate_left
                · intro w' hSw; (try dsimp only at hSw); go_simp; try with_reducible rfl
                simp only [Act.put, List.setIfInBounds_toArray, List.set_cons_zero, List.set_cons_succ]
                refine wpAnyH_ready (rs := [10]) (by kernel_rfl) (by simp) ?_
                refine AllReadyH.cons rfl (fun K hK => ?_) AllReadyH.nil
                go_simp
                clear hHeld
                refine hK.out _ _ (Lib.hid R4.out.cx) (fun hHeld => ?_)
                clear hK K
                try simp only [Act.put, List.setIfInBounds_toArray, List.set_cons_zero, List.set_cons_succ]
                refine wpAnyH_done (by kernel_rfl) ?_ _
                clear qd3 qd4 qd5 r2 r3
                go_wp2_with fail
                go_meet
                case rel => exact ⟨_, _, _, _, _, _, _, HRB.out, R4.out, R5.out⟩
          · have hkl : ((k : Int) == (nl : Int)) = false := by rw [beq_eq_false_iff_ne]; omega
            obtain ⟨e, he⟩ : ∃ e, U0[k]? = some e := ⟨U0[k]'(by rw [HNL.out]; exact hlt), List.getElem?_eq_getElem _⟩
            have HRB := Lib.hid (RB.found HMd.out hd h8 SS.out hz hg he)
            go_wp2_with fail
            go_meet
            case rel => exact ⟨_, _, _, _, _, _, _, HRB.out, D1.out, fun b hb => Or.inl hb⟩
        case rest =>
          obtain ⟨C1, g1, s1, U1, ve, l1, age, hRB, hDM, hs1⟩ := hcut
          have R := Lib.hid hRB
          have he := hRB.at_
          have hk1 : k < U1.length := (List.getElem?_eq_some_iff.1 he).1
          have hn8 := hRB.n8
          have hroom := hRB.room
          obtain ⟨o1, cap1, rfl, hle1, hoc1, hgg1⟩ := own_form hDM.ut.row
          obtain ⟨g, rfl⟩ := hgg1 (by omega)
          obtain ⟨oe, ge, ce, hve, hoe⟩ := (hDM.ut.ls _ (List.mem_of_getElem? he)).form
          have hve : ve = .slice oe l1.length ce := hve
          subst hve
          have D := Lib.hid hDM
          have HS1 := Lib.hid hs1
          have HRoE : Hid (∀ W, DM w ub B (.slice o nl cap) U0 p kb k (.slice (some ⟨g, 0, none⟩) U1.length cap1) U1 W → W.ownsRow B 24 9 (.slice oe l1.length ce) l1.length (pcells l1)) := fun W h => h.ut.ls _ (List.mem_of_getElem? he)
          generalize hn1 : U1.length = n1 at *
          have HN1 := Lib.hid hn1
          generalize hll : l1.length = ll at *
          have HLL := Lib.hid hll
          have HE := Lib.hid he
          have HOE := Lib.hid hoe
          have q1 := hDM.cx
          have q2 := hDM.ck
          have q3 := hDM.ut.cell
          have q4 := hDM.ce he
          have hmf : ∀ (fn : Fn) (first cap : Array Value) (w : World), (Instr.makeFunc fn first cap).run Try.prog w = .ok (.func fn first cap) w := fun _ _ _ _ => rfl
          clear hDM hRB hs1 hgg1 hoc1 hve hoe hn1 hll D1 HNo hcs HMd
          go_wp2_with fail
          go_quiet (fail)
          have D2 : Hid (DM w ub B (.slice o nl cap) U0 p kb k (.slice (some ⟨g, 0, none⟩) n1 cap1) U1 (wc.drewN nq)) := D.out.on ⟨rfl, rfl, rfl, Nat.le_refl _, fun _ _ => rfl⟩
          clear q1 q2 q3 q4 D
          generalize wc.drewN nq = w4 at *
          have HFi : Hid (∀ q ∈ l1, ∀ w', Calls Try.prog 34 #[pv p, pv q] w' fun e w'' => e = .returned (.bool (fightB p q)) ∧ Below w'.heap.size w' w'') := fun q hq w' => fights_any p q w' hf.chk (R.out.se.fg q hq).chk
          have HDr : Hid (∀ W, DM w ub B (.slice o nl cap) U0 p kb k (.slice (some ⟨g, 0, none⟩) n1 cap1) U1 W → Calls Try.prog 32 #[.pointer (some ⟨w.heap.size, 0, none⟩), .pointer (some ⟨kb, 0, none⟩)] W fun e w' => e = .returned (.tuple #[]) ∧ ∃ s', DM w ub B (.slice o nl cap) U0 p kb k s' (U1.take k ++ U1.drop (k + 1)) w') := fun W h => by
            have h1 := h.ult
            have h2 := h.kb3
            have h3 := h.kp.size
            refine (drop_any w.heap.size kb ub B k _ U1 W h.cx h.ck (by omega) (by omega) h.ut (by omega) (by rw [HN1.out]; exact hk1) (by rw [HN1.out]; omega)).mono ?_
            rintro e w' ⟨rfl, s', a1, a2, a3⟩
            exact ⟨rfl, s', h.drop a1 a2 a3⟩
          go_wp2_with fail
          go_loopw [116] (fun i W => ∃ j : Nat, j ≤ ll ∧ i = .int .i64 j ∧ Hid ((l1.take j).any (fightB p) = false) ∧ DM w ub B (.slice o nl cap) U0 p kb k (.slice (some ⟨g, 0, none⟩) n1 cap1) U1 W) (fun i _ => ll - (intOf i).toNat)
          case atStart => exact ⟨0, Nat.zero_le _, rfl, rfl, D2.out⟩
          case round =>
            obtain ⟨j, hj, rfl, HAny, hDj⟩ := hrel
            have Dj := Lib.hid hDj
            clear hDj D2
            by_cases hlt : j < ll
            · obtain ⟨q, hq⟩ : ∃ q, l1[j]? = some q := ⟨l1[j]'(by rw [HLL.out]; exact hlt), List.getElem?_eq_getElem _⟩
              have hqm := List.mem_of_getElem? hq
              obtain ⟨eoe, _, _⟩ := HOE.out (by omega)
              subst eoe
              have Rq := Lib.hid (Dj.out.cq HE.out hq)
              have D5 := Lib.hid (Dj.out.alloc (.cells (pc q) 24))
              have Q5 := Lib.hid (PB.new wr q)
              have HFq := Lib.hid (HFi.out q hqm)
              have HTk : Hid ((l1.take (j + 1)).any (fightB p) = ((l1.take j).any (fightB p) || fightB p q)) := by
                show _ = _
                rw [List.take_add_one, hq, List.any_append]
                simp
              have HTq : Hid (fightB p q = true → pErr g1 p = true) := fun h => by
                rw [← R.out.se.err hf, List.any_eq_true]
                exact ⟨q, hqm, h⟩
              clear hq hqm
              generalize fightB p q = F at *
              go_wp2_with (first | (refine wpList_load_mid rfl 24 _ rfl ge (j * 9) rfl (pcl q) _ Rq.out HU.out rfl HI.out ?_) | (refine wpList_load_mid rfl 24 _ rfl (w.heap.size + 1) 0 rfl (pcl p) _ D5.out.pp.range HU.out rfl HI.out ?_) | (refine wpList_load_mid rfl 24 _ rfl wr.heap.size 0 rfl (pcl q) _ Q5.out.range HU.out rfl HI.out ?_) | (refine wpList_store_last rfl 24 _ _ rfl wr _ (pc q) rfl rfl rfl HI.out rfl (pc_one q) ?_))
              refine (HFq.out _).mono ?_; rintro ex w6 ⟨rfl, hb6⟩
              have D6 := Lib.hid (D5.out.on hb6)
              cases F with
              | true =>
                have hpe := HTq.out rfl
                have hM : MM = ((pz, false, 4), C1.take k ++ C1.drop (k + 1)) := by
                  rw [R.out.eq]
                  unfold putVm putB
                  rw [if_pos hpe, if_pos hpe, (look_at R.out.pd R.out.cat).2.1]
                go_wp2_with fail
                refine (HDr.out _ D6.out).mono ?_; rintro ex w7 ⟨rfl, s7, hD7⟩
                have HQ := Lib.hid (HPo.out k kb _ _ w7 (pz, false, 4) _ (pcl pz) hD7 hM R.out.del fun m hm e he => Nat.le_succ_of_le ((R.out.lim m hm).1 e (mem_del he)))
                have Z7 := Lib.hid hD7.rr
                clear hM hD7
                go_wp2_with (first | (refine wpList_build24 rfl rfl ?_) | (refine wpList_store_mid rfl _ _ _ rfl _ _ (pc pz) rfl rfl Z7.out.there info24 (pc_one pz) ?_))
                refine bodyPost_ret (v := .tuple #[pv pz, .bool false, .int .i64 4]) (by simp only [results, Try.results17, Act.put, asAddr]; simp [told w7 (w.heap.size + 2) pz pz Z7.out]) rfl ?_
                exact HQ.out
              | false =>
                go_wp2_with fail
                go_roundw
                case rel => exact ⟨j + 1, by omega, by go_num, (by show _ = _; rw [HTk.out, HAny.out]; rfl), D6.out⟩
                case measure => simp [intOf]; omega
            · have hlt' : ¬ ((j : Int) < (ll : Int)) := by omega
              have hpe : pErr g1 p = false := by
                rw [← R.out.se.err hf, ← HAny.out, List.take_of_length_le (by rw [HLL.out]; omega)]
              have hgl := (Dj.out.ut.row.lt g rfl).2
              have hklt := Dj.out.klt
              have HCp : Hid (∀ W, DM w ub B (.slice o nl cap) U0 p kb k (.slice (some ⟨g, 0, none⟩) n1 cap1) U1 W → Calls Try.prog 19 #[.slice oe ll ce] W fun e w' => ∃ v, e = .returned v ∧ w'.ownsRow W.heap.size 24 9 v ll (pcells l1) ∧ Below W.heap.size W w') := fun W h => by
                obtain ⟨a1, a2⟩ := own_src (HRoE.out W h) (pcells_one l1)
                exact copy_any oe ll ce _ W a1 a2 (by omega)
              obtain ⟨i0, hi0, hz0, hz1, hz2⟩ := info_parts info24z
              clear HFi HAny
              go_upto_region 25 with fail
              go_cut [12] from 127 to 138 (fun v wf => ∃ gl cl, v = .slice (some ⟨gl, 0, none⟩) (ll + 1) cl ∧ kb < gl ∧ gl ≠ g ∧ PRow wf B (.slice (some ⟨gl, 0, none⟩) (ll + 1) cl) (l1 ++ [p]) ∧ DM w ub B (.slice o nl cap) U0 p kb k (.slice (some ⟨g, 0, none⟩) n1 cap1) U1 wf)
              case first =>
                have HMeet : Hid (∀ gl cl w3, World.ownsRow w3 wr.heap.size 24 9 (.slice (some ⟨gl, 0, none⟩) (ll + 1) cl) (ll + 1) (pcells l1 ++ pcl p) → Below wr.heap.size wr w3 → kb < gl ∧ gl ≠ g ∧ PRow w3 B (.slice (some ⟨gl, 0, none⟩) (ll + 1) cl) (l1 ++ [p]) ∧ DM w ub B (.slice o nl cap) U0 p kb k (.slice (some ⟨g, 0, none⟩) n1 cap1) U1 w3) := fun gl cl w3 ho hb => by
                  have h1 := (ho.lt gl rfl).1
                  have h2 := Dj.out.kp.size
                  refine ⟨by omega, by omega, ?_, Dj.out.on hb⟩
                  show w3.ownsRow _ _ _ _ (l1 ++ [p]).length (pcells (l1 ++ [p]))
                  rw [List.length_append, HLL.out, pcells_append]
                  refine own_base ?_ (show B ≤ wr.heap.size by omega)
                  simpa [pcells] using ho
                refine wp_region_held_drew (S := fun w' => Hid (DM w ub B (.slice o nl cap) U0 p kb k (.slice (some ⟨g, 0, none⟩) n1 cap1) U1 w')) (by kernel_rfl) (Lib.hid Dj.out.drew) (fun hHeld => ?_)
                refine takeH (i := 0) (d := some 127) (v := ?_) rfl rfl (by kernel_rfl) (by kernel_rfl) (by kernel_rfl) (fun _ _ _ h => h) (Or.inl ⟨by rfl, ?_⟩) hHeld ?_
                rotate_left
                · intro w' hSw; (try dsimp only at hSw); have q := hSw.out; have q1 := q.cx; have q2 := q.ck; have q3 := q.ut.cell; have q4 := q.ce HE.out; clear q; go_simp; try with_reducible rfl
                simp only [Act.put, List.setIfInBounds_toArray, List.set_cons_zero, List.set_cons_succ]
                refine takeH (i := 1) (d := some 128) (v := ?_) rfl rfl (by kernel_rfl) (by kernel_rfl) (by kernel_rfl) (fun _ _ _ h => h) (Or.inl ⟨by rfl, ?_⟩) hHeld ?_
                rotate_left
                · intro w' hSw; (try dsimp only at hSw); have q := hSw.out; have q1 := q.cx; have q2 := q.ck; have q3 := q.ut.cell; have q4 := q.ce HE.out; clear q; go_simp; try with_reducible rfl
                simp only [Act.put, List.setIfInBounds_toArray, List.set_cons_zero, List.set_cons_succ]
                refine takeH (i := 2) (d := some 129) (v := ?_) rfl rfl (by kernel_rfl) (by kernel_rfl) (by kernel_rfl) (fun _ _ _ h => h) (Or.inl ⟨by rfl, ?_⟩) hHeld ?_
                rotate_left
                · intro w' hSw; (try dsimp only at hSw); have q := hSw.out; have q1 := q.cx; have q2 := q.ck; have q3 := q.ut.cell; have q4 := q.ce HE.out; clear q; go_simp; try with_reducible rfl
                simp only [Act.put, List.setIfInBounds_toArray, List.set_cons_zero, List.set_cons_succ]
                refine takeH (i := 3) (d := some 130) (v := ?_) rfl rfl (by kernel_rfl) (by kernel_rfl) (by kernel_rfl) (fun _ _ _ h => h) (Or.inl ⟨by rfl, ?_⟩) hHeld ?_
                rotate_left
                · intro w' hSw; (try dsimp only at hSw); have q := hSw.out; have q1 := q.cx; have q2 := q.ck; have q3 := q.ut.cell; have q4 := q.ce HE.out; clear q; go_simp; try with_reducible rfl
                simp only [Act.put, List.setIfInBounds_toArray, List.set_cons_zero, List.set_cons_succ]
                refine takeH (i := 4) (d := some 131) (v := ?_) rfl rfl (by kernel_rfl) (by kernel_rfl) (by kernel_rfl) (fun _ _ _ h => h) (Or.inl ⟨by rfl, ?_⟩) hHeld ?_
                rotate_left
                · intro w' hSw; (try dsimp only at hSw); have q := hSw.out; have q1 := q.cx; have q2 := q.ck; have q3 := q.ut.cell; have q4 := q.ce HE.out; clear q; go_simp; try with_reducible rfl
                simp only [Act.put, List.setIfInBounds_toArray, List.set_cons_zero, List.set_cons_succ]
                refine takeH (i := 5) (d := some 132) (v := ?_) rfl rfl (by kernel_rfl) (by kernel_rfl) (by kernel_rfl) (fun _ _ _ h => h) (Or.inl ⟨by rfl, ?_⟩) hHeld ?_
                rotate_left
                · intro w' hSw; (try dsimp only at hSw); have q := hSw.out; have q1 := q.cx; have q2 := q.ck; have q3 := q.ut.cell; have q4 := q.ce HE.out; clear q; go_simp; try with_reducible rfl
                simp only [Act.put, List.setIfInBounds_toArray, List.set_cons_zero, List.set_cons_succ]
                refine takeH (i := 6) (d := some 133) (v := ?_) rfl rfl (by kernel_rfl) (by kernel_rfl) (by kernel_rfl) (fun _ _ _ h => h) (Or.inl ⟨by rfl, ?_⟩) hHeld ?_
                rotate_left
                · intro w' hSw; (try dsimp only at hSw); have q := hSw.out; have q1 := q.cx; have q2 := q.ck; have q3 := q.ut.cell; have q4 := q.ce HE.out; clear q; go_simp; try with_reducible rfl
                simp only [Act.put, List.setIfInBounds_toArray, List.set_cons_zero, List.set_cons_succ]
                refine takeH (i := 7) (d := some 134) (v := ?_) rfl rfl (by kernel_rfl) (by kernel_rfl) (by kernel_rfl) (fun _ _ _ h => h) (Or.inl ⟨by rfl, ?_⟩) hHeld ?_
                rotate_left
                · intro w' hSw; (try dsimp only at hSw); have q := hSw.out; have q1 := q.cx; have q2 := q.ck; have q3 := q.ut.cell; have q4 := q.ce HE.out; clear q; go_simp; try with_reducible rfl
                simp only [Act.put, List.setIfInBounds_toArray, List.set_cons_zero, List.set_cons_succ]
                refine takeH (i := 9) (d := some 136) rfl rfl (by kernel_rfl) (by kernel_rfl) (by kernel_rfl) (fun _ _ _ h => h) (yieldsIf_load_mid (by rfl) _ _ rfl _ _ rfl (pcl p) _ (fun w' hSw => hSw.out.pp.range) HU.out rfl HI.out) hHeld ?_
                simp only [Act.put, List.setIfInBounds_toArray, List.set_cons_zero, List.set_cons_succ]
                refine wpAnyH_ready (rs := [8, 10]) (by kernel_rfl) (by simp) ?_
                refine AllReadyH.cons rfl (fun K hK => ?_) (AllReadyH.cons rfl (fun K hK => ?_) AllReadyH.nil)
                · go_simp
                  refine (HCp.out _ hHeld.out).mono ?_; rintro e wa ⟨v1, rfl, ho1, hba⟩
                  have ba : Below wr.heap.size wr wa := ((Below.refl _ _).drew).trans hba
                  have DA := Lib.hid (Dj.out.on ba)
                  clear hHeld
                  refine hK.out _ _ DA (fun hHeld => ?_)
                  clear hK K
                  try simp only [Act.put, List.setIfInBounds_toArray, List.set_cons_zero, List.set_cons_succ]
                  refine wpAnyH_ready (rs := [10]) (by kernel_rfl) (by simp) ?_
                  refine AllReadyH.cons rfl (fun K hK => ?_) AllReadyH.nil
                  go_simp
                  have DA2 := Lib.hid (DA.out.alloc (.cells (pc p) 24))
                  have bX : Below wr.heap.size wr (wa.alloc (.cells (pc p) 24)) := ba.alloc ba.size _
                  have HO1 : Hid ((wa.alloc (.cells (pc p) 24)).ownsRow wr.heap.size 24 9 v1 ll (pcells l1)) := World.ownsRow.alloc ho1 _
                  have HSr : Hid (Src 9 (wa.alloc (.cells (pc p) 24)) (some ⟨wa.heap.size, 0, none⟩) 1 (pcl p)) := src_blk wa p
                  obtain ⟨adp, hadp⟩ : ∃ a : Addr, a = ⟨wa.heap.size, 0, none⟩ := ⟨_, rfl⟩
                  rw [← hadp] at HSr
                  clear ho1
                  clear hHeld
                  refine hK.out _ _ DA2 (fun hHeld => ?_)
                  clear hK K
                  try simp only [Act.put, List.setIfInBounds_toArray, List.set_cons_zero, List.set_cons_succ]
                  rw [← hadp]
                  refine wpAnyH_ready (rs := [11]) (by kernel_rfl) (by simp) ?_
                  refine AllReadyH.cons rfl (fun K hK => ?_) AllReadyH.nil
                  refine step_src _ rfl _ _ _ rfl wr.heap.size 24 i0 _ 9 64 Try.underlying25 hi0 hz0 hz1 hz2 rfl (by omega) v1 (some adp) ll 1 1 (pcells l1) (pcl p) rfl rfl HO1.out HSr.out (fun h => by cases h) (by unfold maxLen; omega) (by omega) bX.size ?_
                  intro v2 w3 ho2 hg2 hat2
                  obtain ⟨o2, c2, rfl, _, _, hps⟩ := own_form ho2
                  obtain ⟨gl, rfl⟩ := hps (by omega)
                  have b3 : Below wr.heap.size wr w3 := bX.grown hg2 bX.size (fun k hk => (HO1.out.lt k hk).1)
                  have HM3 := Lib.hid (HMeet.out _ _ w3 ho2 b3)
                  clear hHeld
                  refine hK.out _ _ (Lib.hid HM3.out.2.2.2) (fun hHeld => ?_)
                  clear hK K
                  try simp only [Act.put, List.setIfInBounds_toArray, List.set_cons_zero, List.set_cons_succ]
                  refine takeH (i := 12) (d := some 12) (v := ?_) rfl rfl (by kernel_rfl) (by kernel_rfl) (by kernel_rfl) (fun _ _ _ h => h) (Or.inl ⟨by rfl, ?_⟩) hHeld ?_
                  rotate_left
                  · intro w' hSw; (try dsimp only at hSw); go_simp; try with_reducible rfl
                  simp only [Act.put, List.setIfInBounds_toArray, List.set_cons_zero, List.set_cons_succ]
                  refine wpAnyH_done (by kernel_rfl) ?_ _
                  go_wp2_with fail
                  go_meet
                  case rel => exact ⟨_, _, rfl, HM3.out⟩
                · go_simp
                  have b0 : Below wr.heap.size wr (wr.drew.alloc (.cells (pc p) 24)) := ((Below.refl _ _).drew).alloc (Nat.le_refl _) _
                  have DB := Lib.hid (Dj.out.on b0)
                  have HSr0 : Hid (Src 9 (wr.drew.alloc (.cells (pc p) 24)) (some ⟨wr.heap.size, 0, none⟩) 1 (pcl p)) := src_blk wr.drew p
                  clear hHeld
                  refine hK.out _ _ DB (fun hHeld => ?_)
                  clear hK K
                  try simp only [Act.put, List.setIfInBounds_toArray, List.set_cons_zero, List.set_cons_succ]
                  refine wpAnyH_ready (rs := [8]) (by kernel_rfl) (by simp) ?_
                  refine AllReadyH.cons rfl (fun K hK => ?_) AllReadyH.nil
                  go_simp
                  refine (HCp.out _ DB.out).mono ?_; rintro e wb ⟨v1, rfl, ho1, hbb⟩
                  have bX : Below wr.heap.size wr wb := b0.trans (hbb.mono b0.size)
                  have DB2 := Lib.hid (Dj.out.on bX)
                  have HSr := Lib.hid (HSr0.out.on hbb)
                  have HO1 : Hid (wb.ownsRow wr.heap.size 24 9 v1 ll (pcells l1)) := own_base ho1 b0.size
                  obtain ⟨adp, hadp⟩ : ∃ a : Addr, a = ⟨wr.heap.size, 0, none⟩ := ⟨_, rfl⟩
                  rw [← hadp] at HSr
                  clear ho1
                  clear hHeld
                  refine hK.out _ _ DB2 (fun hHeld => ?_)
                  clear hK K
                  try simp only [Act.put, List.setIfInBounds_toArray, List.set_cons_zero, List.set_cons_succ]
                  rw [← hadp]
                  refine wpAnyH_ready (rs := [11]) (by kernel_rfl) (by simp) ?_
                  refine AllReadyH.cons rfl (fun K hK => ?_) AllReadyH.nil
                  refine step_src _ rfl _ _ _ rfl wr.heap.size 24 i0 _ 9 64 Try.underlying25 hi0 hz0 hz1 hz2 rfl (by omega) v1 (some adp) ll 1 1 (pcells l1) (pcl p) rfl rfl HO1.out HSr.out (fun h => by cases h) (by unfold maxLen; omega) (by omega) bX.size ?_
                  intro v2 w3 ho2 hg2 hat2
                  obtain ⟨o2, c2, rfl, _, _, hps⟩ := own_form ho2
                  obtain ⟨gl, rfl⟩ := hps (by omega)
                  have b3 : Below wr.heap.size wr w3 := bX.grown hg2 bX.size (fun k hk => (HO1.out.lt k hk).1)
                  have HM3 := Lib.hid (HMeet.out _ _ w3 ho2 b3)
                  clear hHeld
                  refine hK.out _ _ (Lib.hid HM3.out.2.2.2) (fun hHeld => ?_)
                  clear hK K
                  try simp only [Act.put, List.setIfInBounds_toArray, List.set_cons_zero, List.set_cons_succ]
                  refine takeH (i := 12) (d := some 12) (v := ?_) rfl rfl (by kernel_rfl) (by kernel_rfl) (by kernel_rfl) (fun _ _ _ h => h) (Or.inl ⟨by rfl, ?_⟩) hHeld ?_
                  rotate_left
                  · intro w' hSw; (try dsimp only at hSw); go_simp; try with_reducible rfl
                  simp only [Act.put, List.setIfInBounds_toArray, List.set_cons_zero, List.set_cons_succ]
                  refine wpAnyH_done (by kernel_rfl) ?_ _
                  go_wp2_with fail
                  go_meet
                  case rel => exact ⟨_, _, rfl, HM3.out⟩
              case rest =>
                obtain ⟨gl, cl, rfl, hkg, hgg, hPv, hDf⟩ := hcut
                have hult := T.out.lt
                have hDs : DM w ub B (.slice o nl cap) U0 p kb k (.slice (some ⟨g, 0, none⟩) n1 cap1) (U1.set k ⟨.slice (some ⟨gl, 0, none⟩) (ll + 1) cl, l1 ++ [p], age⟩) (wc.drew.setCell ⟨g, k * 2, none⟩ (.slice (some ⟨gl, 0, none⟩) (ll + 1) cl)) := by
                  have h3 := hDf.kb3
                  obtain ⟨a1, a2⟩ := hDf.drew.ut.setl (k := k) (v := .slice (some ⟨gl, 0, none⟩) (ll + 1) cl) (l := l1 ++ [p]) HN1.out HE.out hPv (by simp [Value.ownBlock]; omega) (by simp [Value.ownBlock]; omega)
                  refine hDf.drew.turn2 (bs := [g]) ((Kp.refl _ _).setCell (Or.inl (by simp)) _) (fun b hb => ?_) a1 fun b hb => ?_
                  · simp at hb
                    subst hb
                    rcases HS1.out b rfl with h1 | h1
                    · exact Or.inl ⟨T.out.blt b (Or.inr (Or.inl h1)), by rw [h1]; simp⟩
                    · exact Or.inr h1
                  · rcases a2 b hb with h1 | h1
                    · exact Or.inl h1
                    · right
                      have : gl = b := by simpa [Value.ownBlock] using h1
                      omega
                have hse2 := R.out.se.add hf rfl hpe
                have HMF : Hid (gwhole (gadd g1 p) = false → MM = ((pz, false, 0), C1.set k (nmOf p, gadd g1 p))) := fun h => R.out.eqF hpe h
                have HMT : Hid (gwhole (gadd g1 p) = true → MM = ((gpk (gadd g1 p) (nmOf p), true, 0), C1.take k ++ C1.drop (k + 1))) := fun h => R.out.eqT hpe h
                have HSF : Hid (Sim (C1.set k (nmOf p, gadd g1 p)) (U1.set k ⟨.slice (some ⟨gl, 0, none⟩) (ll + 1) cl, l1 ++ [p], age⟩)) := R.out.set _ _ ⟨hse2, by simp, by rw [gadd_left]; exact R.out.left, R.out.lo, R.out.hi⟩
                have HLF : Hid (∀ m, (∀ e ∈ U0, e.l.length ≤ m) → ∀ e ∈ U1.set k ⟨.slice (some ⟨gl, 0, none⟩) (ll + 1) cl, l1 ++ [p], age⟩, e.l.length ≤ m + 1) := fun m hm e he => by
                  obtain ⟨a1, a2⟩ := R.out.lim m hm
                  rcases List.mem_or_eq_of_mem_set he with he | rfl
                  · exact Nat.le_succ_of_le (a1 e he)
                  · simp
                    omega
                have HE2 : Hid ((U1.set k ⟨.slice (some ⟨gl, 0, none⟩) (ll + 1) cl, l1 ++ [p], age⟩)[k]? = some ⟨.slice (some ⟨gl, 0, none⟩) (ll + 1) cl, l1 ++ [p], age⟩) := by
                  show _ = _
                  rw [List.getElem?_set_self (by rw [HN1.out]; exact hk1)]
                have HDel : Hid ((U1.set k ⟨.slice (some ⟨gl, 0, none⟩) (ll + 1) cl, l1 ++ [p], age⟩).take k ++ (U1.set k ⟨.slice (some ⟨gl, 0, none⟩) (ll + 1) cl, l1 ++ [p], age⟩).drop (k + 1) = U1.take k ++ U1.drop (k + 1)) := by
                  show _ = _
                  rw [List.take_set_of_le (Nat.le_refl _), List.drop_set_of_lt (Nat.lt_succ_self _)]
                have HN2 : Hid ((U1.set k ⟨.slice (some ⟨gl, 0, none⟩) (ll + 1) cl, l1 ++ [p], age⟩).length = n1) := by show _ = _; rw [List.length_set]; exact HN1.out
                have HL2 : Hid ((l1 ++ [p]).length = ll + 1) := by show _ = _; rw [List.length_append, HLL.out]; rfl
                have c1 := Lib.hid hDf.drew.cx
                have c2 := Lib.hid hDf.drew.ck
                have c3 := Lib.hid hDf.drew.ut.cell
                have c4 := hDf.drew.ce HE.out
                have hrw := hDf.drew.ut.row
                rw [HN1.out] at hrw
                have c5 := World.ownsRow.frozenAt hrw (k * 2)
                have DS := Lib.hid hDs
                have HS2 := Lib.hid hse2
                have HLim := Lib.hid R.out.lim
                clear hDs hse2 hDf hPv hrw HDr Dj HCp hi0 hz0 hz1 hz2 hgl hklt hlt' hlt hj
                go_wp2_with fail
                refine wp_region_held_drew (S := fun w' => Hid (w'.cell? ⟨w.heap.size, 0, none⟩ = some (.pointer (some ⟨ub, 0, none⟩))) ∧ Hid (w'.cell? ⟨kb, 0, none⟩ = some (.int .i64 (k : Int))) ∧ Hid (w'.cell? ⟨ub, 0, none⟩ = some (.slice (some ⟨g, 0, none⟩) n1 cap1))) (by kernel_rfl) ⟨c1, c2, c3⟩ (fun hHeld => ?_)
                refine takeH (i := 0) (d := some 139) (v := ?_) rfl rfl (by kernel_rfl) (by kernel_rfl) (by kernel_rfl) (fun _ _ _ h => h) (Or.inl ⟨by rfl, ?_⟩) hHeld ?_
                rotate_left
                · intro w' hSw; (try dsimp only at hSw); have q1 := hSw.1.out; have q2 := hSw.2.1.out; have q3 := hSw.2.2.out; go_simp; try with_reducible rfl
                simp only [Act.put, List.setIfInBounds_toArray, List.set_cons_zero, List.set_cons_succ]
                refine takeH (i := 1) (d := some 140) (v := ?_) rfl rfl (by kernel_rfl) (by kernel_rfl) (by kernel_rfl) (fun _ _ _ h => h) (Or.inl ⟨by rfl, ?_⟩) hHeld ?_
                rotate_left
                · intro w' hSw; (try dsimp only at hSw); have q1 := hSw.1.out; have q2 := hSw.2.1.out; have q3 := hSw.2.2.out; go_simp; try with_reducible rfl
                simp only [Act.put, List.setIfInBounds_toArray, List.set_cons_zero, List.set_cons_succ]
                refine takeH (i := 2) (d := some 141) (v := ?_) rfl rfl (by kernel_rfl) (by kernel_rfl) (by kernel_rfl) (fun _ _ _ h => h) (Or.inl ⟨by rfl, ?_⟩) hHeld ?_
                rotate_left
                · intro w' hSw; (try dsimp only at hSw); have q1 := hSw.1.out; have q2 := hSw.2.1.out; have q3 := hSw.2.2.out; go_simp; try with_reducible rfl
                simp only [Act.put, List.setIfInBounds_toArray, List.set_cons_zero, List.set_cons_succ]
                refine takeH (i := 3) (d := some 142) (v := ?_) rfl rfl (by kernel_rfl) (by kernel_rfl) (by kernel_rfl) (fun _ _ _ h => h) (Or.inl ⟨by rfl, ?_⟩) hHeld ?_
                rotate_left
                · intro w' hSw; (try dsimp only at hSw); have q1 := hSw.1.out; have q2 := hSw.2.1.out; have q3 := hSw.2.2.out; go_simp; try with_reducible rfl
                simp only [Act.put, List.setIfInBounds_toArray, List.set_cons_zero, List.set_cons_succ]
                refine takeH (i := 4) (d := some 143) (v := ?_) rfl rfl (by kernel_rfl) (by kernel_rfl) (by kernel_rfl) (fun _ _ _ h => h) (Or.inl ⟨by rfl, ?_⟩) hHeld ?_
                rotate_left
                · intro w' hSw; (try dsimp only at hSw); have q1 := hSw.1.out; have q2 := hSw.2.1.out; have q3 := hSw.2.2.out; go_simp; try with_reducible rfl
                simp only [Act.put, List.setIfInBounds_toArray, List.set_cons_zero, List.set_cons_succ]
                refine takeH (i := 5) (d := some 144) (v := ?_) rfl rfl (by kernel_rfl) (by kernel_rfl) (by kernel_rfl) (fun _ _ _ h => h) (Or.inl ⟨by rfl, ?_⟩) hHeld ?_
                rotate_left
                · intro w' hSw; (try dsimp only at hSw); have q1 := hSw.1.out; have q2 := hSw.2.1.out; have q3 := hSw.2.2.out; go_simp; try with_reducible rfl
                simp only [Act.put, List.setIfInBounds_toArray, List.set_cons_zero, List.set_cons_succ]
                refine takeH (i := 6) (d := some 145) (v := ?_) rfl rfl (by kernel_rfl) (by kernel_rfl) (by kernel_rfl) (fun _ _ _ h => h) (Or.inl ⟨by rfl, ?_⟩) hHeld ?_
                rotate_left
                · intro w' hSw; (try dsimp only at hSw); have q1 := hSw.1.out; have q2 := hSw.2.1.out; have q3 := hSw.2.2.out; go_simp; try with_reducible rfl
                simp only [Act.put, List.setIfInBounds_toArray, List.set_cons_zero, List.set_cons_succ]
                refine takeH (i := 7) (d := some 146) (v := ?_) rfl rfl (by kernel_rfl) (by kernel_rfl) (by kernel_rfl) (fun _ _ _ h => h) (Or.inl ⟨by rfl, ?_⟩) hHeld ?_
                rotate_left
                · intro w' hSw; (try dsimp only at hSw); have q1 := hSw.1.out; have q2 := hSw.2.1.out; have q3 := hSw.2.2.out; go_simp; try with_reducible rfl
                simp only [Act.put, List.setIfInBounds_toArray, List.set_cons_zero, List.set_cons_succ]
                refine wpAnyH_ready (rs := [8]) (by kernel_rfl) (by simp) ?_
                refine AllReadyH.cons rfl (fun K hK => ?_) AllReadyH.nil
                go_simp
                clear hHeld
                refine hK.out _ _ ⟨Lib.hid DS.out.cx, Lib.hid DS.out.ck, Lib.hid DS.out.ut.cell⟩ (fun hHeld => ?_)
                clear hK K
                try simp only [Act.put, List.setIfInBounds_toArray, List.set_cons_zero, List.set_cons_succ]
                refine wpAnyH_done (by kernel_rfl) ?_ _
                have DT : Hid (DM w ub B (.slice o nl cap) U0 p kb k (.slice (some ⟨g, 0, none⟩) n1 cap1) (U1.set k ⟨.slice (some ⟨gl, 0, none⟩) (ll + 1) cl, l1 ++ [p], age⟩) (wc.setCell ⟨g, k * 2, none⟩ (.slice (some ⟨gl, 0, none⟩) (ll + 1) cl)).drew) := DS.out
                clear hHeld c1 c2 c3 c4 c5 DS
                generalize (wc.setCell ⟨g, k * 2, none⟩ (.slice (some ⟨gl, 0, none⟩) (ll + 1) cl)).drew = w8 at *
                generalize U1.set k ⟨.slice (some ⟨gl, 0, none⟩) (ll + 1) cl, l1 ++ [p], age⟩ = U2 at *
                generalize l1 ++ [p] = l2 at *
                generalize gadd g1 p = g2 at *
                have HDr2 : Hid (∀ W, DM w ub B (.slice o nl cap) U0 p kb k (.slice (some ⟨g, 0, none⟩) n1 cap1) U2 W → Calls Try.prog 32 #[.pointer (some ⟨w.heap.size, 0, none⟩), .pointer (some ⟨kb, 0, none⟩)] W fun e w' => e = .returned (.tuple #[]) ∧ ∃ s', DM w ub B (.slice o nl cap) U0 p kb k s' (U2.take k ++ U2.drop (k + 1)) w' ∧ Kp [ub] W w' ∧ ∀ b, s'.ownBlock = some b → W.heap.size ≤ b) := fun W h => by
                  have h1 := h.ult
                  have h2 := h.kb3
                  have h3 := h.kp.size
                  refine (drop_any w.heap.size kb ub B k _ U2 W h.cx h.ck (by omega) (by omega) h.ut (by omega) (by rw [HN2.out]; exact hk1) (by rw [HN2.out]; omega)).mono ?_
                  rintro e w' ⟨rfl, s', a1, a2, a3⟩
                  exact ⟨rfl, s', h.drop a1 a2 a3, a2, a3⟩
                have hne2 : l2 ≠ [] := fun hc => by have := HL2.out; rw [hc] at this; simp at this
                have hrp := HS2.out.rpos hne2
                have hr4 := HS2.out.inv.reach
                generalize hm2 : ll + 1 = m2 at *
                clear hm2 hne2 HE HN1 HS1 HRoE HOE HLL hk1 hgg hle1 hk hd h8 hz hle hcl hB h40 ho8 hbs
                go_wp2_with fail
                go_loopw [14, 149] (fun ev i W => ∃ j : Nat, j ≤ m2 ∧ i = .int .i64 j ∧ ev = .int .i64 (endB g2 (l2.take j)) ∧ DM w ub B (.slice o nl cap) U0 p kb k (.slice (some ⟨g, 0, none⟩) n1 cap1) U2 W) (fun _ i _ => m2 - (intOf i).toNat)
                case atStart => exact ⟨0, Nat.zero_le _, rfl, rfl, DT.out⟩
                case round =>
                  obtain ⟨j, hj, rfl, rfl, hDj⟩ := hrel
                  have Dj := Lib.hid hDj
                  clear hDj DT
                  by_cases hlt : j < m2
                  · obtain ⟨q, hq⟩ : ∃ q, l2[j]? = some q := ⟨l2[j]'(by rw [HL2.out]; exact hlt), List.getElem?_eq_getElem _⟩
                    have hqm := List.mem_of_getElem? hq
                    have Rq := Lib.hid (Dj.out.cq HE2.out hq)
                    have D5 := Lib.hid (Dj.out.alloc (.cells (pc q) 24))
                    have Q5 := Lib.hid (PB.new wr q)
                    have y6 := Q5.out.c6
                    have y7 := Q5.out.c7
                    have y8 := Q5.out.c8
                    have HES := Lib.hid (HS2.out.endS hq)
                    have hfq := HS2.out.fg q hqm
                    have hq4 := hfq.le
                    have hqo := hfq.off
                    have hqo2 : 0 ≤ q.off ∧ q.off ≤ 8191 := (chk_zero hfq.chk).2.2.2.1
                    have HLs : Hid (q.more = false → 8 * q.off + (q.body.size : Int) = (g2.reach : Int)) := fun hm => by
                      have := HS2.out.last q hqm hm
                      unfold osn at this
                      omega
                    have hq48 : 8 * q.off + (q.body.size : Int) ≤ 4000 := by unfold osn at hq4; omega
                    clear hq hqm hfq hqo hq4
                    generalize endB g2 (l2.take j) = EJ at *
                    cases hmq : q.more with
                    | true =>
                      rw [hmq] at y6
                      have HES2 : Hid (endB g2 (l2.take (j + 1)) = EJ) := by show _ = _; rw [HES.out, hmq]; rfl
                      clear hmq
                      go_wp2_with (first | (refine wpList_load_mid rfl 24 _ rfl gl (j * 9) rfl (pcl q) _ Rq.out HU.out rfl HI.out ?_) | (refine wpList_store_last rfl 24 _ _ rfl wr _ (pc q) rfl rfl rfl HI.out rfl (pc_one q) ?_))
                      go_roundw
                      case rel => exact ⟨j + 1, by omega, by go_num, by rw [HES2.out], D5.out⟩
                      case measure => simp [intOf]; omega
                    | false =>
                      rw [hmq] at y6
                      have HES2 : Hid (endB g2 (l2.take (j + 1)) = (g2.reach : Int)) := by show _ = _; rw [HES.out, hmq]; rfl
                      have HLs2 := Lib.hid (HLs.out hmq)
                      clear hmq
                      go_wp2_with (first | (refine wpList_load_mid rfl 24 _ rfl gl (j * 9) rfl (pcl q) _ Rq.out HU.out rfl HI.out ?_) | (refine wpList_store_last rfl 24 _ _ rfl wr _ (pc q) rfl rfl rfl HI.out rfl (pc_one q) ?_))
                      go_roundw
                      case rel => exact ⟨j + 1, by omega, by go_num, by rw [HES2.out, ← HLs2.out], D5.out⟩
                      case measure => simp [intOf]; omega
                  · have hlt' : ¬ ((j : Int) < (m2 : Int)) := by omega
                    have hfull : l2.take j = l2 := List.take_of_length_le (by rw [HL2.out]; omega)
                    rw [hfull, HS2.out.endE]
                    obtain ⟨E, hE⟩ : ∃ E : Int, E = if g2.closed then (g2.reach : Int) else -1 := ⟨_, rfl⟩
                    have HEE := Lib.hid hE
                    have hEb : -1 ≤ E ∧ E ≤ 4000 := by rw [hE]; split <;> omega
                    rw [← hE]
                    clear hE
                    have Zo := Lib.hid (PB.newz wr)
                    have D6 := Lib.hid (Dj.out.alloc (.cells pzc 24))
                    clear hfull hj hlt
                    have hokb := Dj.out.klt
                    have HOb : Hid (∀ b, ublk ub (.slice (some ⟨g, 0, none⟩) n1 cap1) U2 b → b ≠ wr.heap.size) := fun b hb => by have := Dj.out.ut.blt b hb; omega
                    clear Dj
                    go_upto_block 6 with (refine wpList_build24 rfl rfl ?_)
                    go_cut [13] from 165 to 211 (fun bd wf => ∃ (m : Nat) (b : ByteArray), bd = .string b ∧ Bdy g2 l2 b m ∧ Hid ((m : Int) < E → ∀ q ∈ l2, ¬ (osn q ≤ m ∧ m < osn q + q.body.size)) ∧ DM w ub B (.slice o nl cap) U0 p kb k (.slice (some ⟨g, 0, none⟩) n1 cap1) U2 wf ∧ PB wr.heap.size (outP l2 m) wf)
                    case first =>
                      have Zo' : Hid (PB wr.heap.size (outP l2 0) (wr.alloc (.cells pzc 24))) := Zo.out
                      generalize wr.alloc (.cells pzc 24) = w10 at *
                      generalize wr.heap.size = ob at *
                      go_wp2_with fail
                      go_loopw [13, 18] (fun bd gr W => ∃ (m : Nat) (b : ByteArray) (gb : Bool), bd = .string b ∧ gr = .bool gb ∧ Bdy g2 l2 b m ∧ Hid (gb = false → ∀ q ∈ l2, ¬ (osn q ≤ m ∧ m < osn q + q.body.size)) ∧ DM w ub B (.slice o nl cap) U0 p kb k (.slice (some ⟨g, 0, none⟩) n1 cap1) U2 W ∧ PB ob (outP l2 m) W) (fun bd gr _ => mOf bd gr)
                      case atStart => exact ⟨0, ⟨#[]⟩, true, rfl, rfl, Bdy.zero _ _, (by intro h; cases h), D6.out, Zo'.out⟩
                      case round =>
                        obtain ⟨m, b, gb, rfl, rfl, hBd, HNc, hDm, hO⟩ := hrel
                        have HBd := Lib.hid hBd
                        have hbsz := hBd.size
                        have hm4 := hBd.le
                        have Dm := Lib.hid hDm
                        have HO := Lib.hid hO
                        clear hBd hDm hO D6 Zo Zo'
                        cases gb with
                        | false =>
                          go_wp2_with fail
                          go_meet
                          case rel => exact ⟨m, b, rfl, HBd.out, (fun _ => by first | exact HNc.out rfl | exact HNc.out trivial), Dm.out, HO.out⟩
                        | true =>
                          by_cases hmE : (m : Int) < E
                          · go_wp2_with fail
                            go_loopw [13, 18, 174] (fun bd gr i W => ∃ (m' : Nat) (b' : ByteArray) (gb' : Bool) (j : Nat), j ≤ m2 ∧ i = .int .i64 j ∧ bd = .string b' ∧ gr = .bool gb' ∧ Hid (gb' = decide (m < m')) ∧ m ≤ m' ∧ Bdy g2 l2 b' m' ∧ Hid (m' = m → ∀ q ∈ l2.take j, ¬ (osn q ≤ m ∧ m < osn q + q.body.size)) ∧ DM w ub B (.slice o nl cap) U0 p kb k (.slice (some ⟨g, 0, none⟩) n1 cap1) U2 W ∧ PB ob (outP l2 m') W) (fun _ _ i _ => m2 - (intOf i).toNat)
                            case atStart => exact ⟨m, b, false, 0, Nat.zero_le _, rfl, rfl, rfl, (by show _ = _; simp), Nat.le_refl _, HBd.out, (fun _ q hq => by cases hq), Dm.out, HO.out⟩
                            case round =>
                              obtain ⟨m', b', gb', j, hj, rfl, rfl, rfl, HGb, hmm, hBd', HNc', hDj, hOj⟩ := hrel
                              have HBd' := Lib.hid hBd'
                              have hbs' := hBd'.size
                              have hm4' := hBd'.le
                              have Dj := Lib.hid hDj
                              have HOj := Lib.hid hOj
                              clear hBd' hDj hOj Dm HO
                              by_cases hlt : j < m2
                              · obtain ⟨q, hq⟩ : ∃ q, l2[j]? = some q := ⟨l2[j]'(by rw [HL2.out]; exact hlt), List.getElem?_eq_getElem _⟩
                                have hqm := List.mem_of_getElem? hq
                                have Rq := Lib.hid (Dj.out.cq HE2.out hq)
                                have D5 := Lib.hid (Dj.out.alloc (.cells (pc q) 24))
                                have O5 := Lib.hid (HOj.out.alloc (.cells (pc q) 24))
                                have Q5 := Lib.hid (PB.new wr q)
                                have holt := HOj.out.lt
                                have y7 := Q5.out.c7
                                have y8 := Q5.out.c8
                                have hfq := HS2.out.fg q hqm
                                have hq4 := hfq.le
                                have hqo := hfq.off
                                have hqo2 : 0 ≤ q.off ∧ q.off ≤ 8191 := (chk_zero hfq.chk).2.2.2.1
                                have hosn : osn q = q.off.toNat * 8 := rfl
                                have hos1 : (osn q : Int) = 8 * q.off := by omega
                                have hq48 : 8 * q.off + (q.body.size : Int) ≤ 4000 := by omega
                                have HTake : ∀ x ∈ l2.take (j + 1), x ∈ l2.take j ∨ x = q := fun x hx => by
                                  rw [List.take_add_one, hq] at hx
                                  simpa using hx
                                clear hq4
                                by_cases hA : q.off = 0 ∧ m' = 0
                                · obtain ⟨h0, hm0⟩ := hA
                                  subst hm0
                                  obtain ⟨hs0, hos⟩ := hfq.first h0
                                  have hm00 : m = 0 := by omega
                                  have hbe : b' = ⟨#[]⟩ := empty_of b' hbs'
                                  have HF : Hid (fstP l2 = q) := fst_at hq h0 fun x hx hx0 => by
                                    have hfx := (HS2.out.fg x (List.mem_of_mem_take hx)).first hx0
                                    exact HNc'.out hm00.symm x hx ⟨by rw [hfx.2]; omega, by rw [hfx.2]; omega⟩
                                  have HBx : Hid (Bdy g2 l2 (⟨#[]⟩ ++ q.body.extract 0 q.body.size) q.body.size) := by
                                    have := HBd'.out.ext HS2.out hqm (by omega) (by omega)
                                    rw [hos, Nat.zero_add, Nat.sub_zero, hbe] at this
                                    exact this
                                  have hc2 : (0 : Int) < (q.body.size : Int) := by omega
                                  have hsl : ∀ w', (Instr.slice 9 (.string q.body) (some (.int .i64 0)) none none).run Try.prog w' = .ok (.string (q.body.extract 0 q.body.size)) w' := fun w' => slice_low q.body 0 0 rfl (by omega) w'
                                  have HA : ∀ w', (Op.stringOp .add ⟨#[]⟩ (q.body.extract 0 q.body.size)).run Try.prog w' = .ok (.string (⟨#[]⟩ ++ q.body.extract 0 q.body.size)) w' := fun w' => run_string_add_sum w' _ _ (by have hz0 : (⟨#[]⟩ : ByteArray).size = 0 := rfl; rw [ByteArray.size_extract, hz0]; omega)
                                  have D6 := Lib.hid (D5.out.setFar hokb HOb.out (pcl q))
                                  have HOo : Hid (PB ob (outP l2 q.body.size) ((wr.alloc (.cells (pc q) 24)).setCells ob 0 (pcl q))) := by
                                    show PB ob (outP l2 q.body.size) _
                                    unfold outP
                                    rw [if_neg (by omega), HF.out]
                                    exact O5.out.setAll q
                                  have y7' : Hid (PB wr.heap.size q ((wr.alloc (.cells (pc q) 24)).setCells ob 0 (pcl q))) := by
                                    have hK : Kp [ob] (wr.alloc (.cells (pc q) 24)) ((wr.alloc (.cells (pc q) 24)).setCells ob 0 (pcl q)) := Kp.setCells _ 0 (Kp.refl _ _) (Or.inl (by simp))
                                    exact (hK.block _ Q5.out.lt (by simp; omega)).trans Q5.out
                                  have z8 := y7'.out.c8
                                  generalize (⟨#[]⟩ : ByteArray) ++ q.body.extract 0 q.body.size = B2 at *
                                  generalize q.body.extract 0 q.body.size = X at *
                                  have HLT : Hid (m < q.body.size) := by show m < _; omega
                                  rw [h0] at y7
                                  subst hbe
                                  clear hqm hfq hosn HTake hqo hos1 h0 hos hm00 hs0
                                  go_upto_region 43 with (first | (refine wpList_load_mid rfl 24 _ rfl gl (j * 9) rfl (pcl q) _ Rq.out HU.out rfl HI.out ?_) | (refine wpList_store_last rfl 24 _ _ rfl wr _ (pc q) rfl rfl rfl HI.out rfl (pc_one q) ?_))
                                  generalize wr.alloc (.cells (pc q) 24) = w5 at *
                                  generalize wr.heap.size = qb at *
                                  clear Rq
                                  go_upto_region 44 with (first | (refine wpList_load_mid rfl 24 _ rfl qb 0 rfl (pcl q) _ Q5.out.range HU.out rfl HI.out ?_) | (refine wpList_store_mid rfl 24 _ _ rfl ob _ (pc q) rfl rfl O5.out.there info24 (pc_one q) ?_))
                                  clear y7 y8 Q5 O5 D5 y7'
                                  generalize w5.setCells ob 0 (pcl q) = w6 at *
                                  go_wp2_with fail
                                  go_roundw
                                  case rel => exact ⟨q.body.size, B2, true, j + 1, by omega, by go_num, rfl, rfl, (by show _ = _; rw [decide_eq_true HLT.out]), by have := HLT.out; omega, HBx.out, (fun h => by exfalso; have := HLT.out; omega), D6.out, HOo.out⟩
                                  case measure => simp [intOf]; omega
                                · have hNA := hA
                                  clear hA hq
                                  by_cases hcov : osn q ≤ m' ∧ m' < osn q + q.body.size
                                  · have hmp : 0 < m' := by
                                      rcases Nat.eq_zero_or_pos m' with h1 | h1
                                      · exact absurd ⟨osn_zero hfq (by omega), h1⟩ hNA
                                      · exact h1
                                    by_cases h0 : q.off = 0
                                    · have hos : osn q = 0 := (hfq.first h0).2
                                      have HBx : Hid (Bdy g2 l2 (b' ++ q.body.extract m' q.body.size) q.body.size) := by
                                        have := HBd'.out.ext HS2.out hqm hcov.1 hcov.2
                                        rw [hos, Nat.zero_add, Nat.sub_zero] at this
                                        exact this
                                      have hc2 : (m' : Int) < (q.body.size : Int) := by omega
                                      have hsl : ∀ w', (Instr.slice 9 (.string q.body) (some (.int .i64 (m' : Int))) none none).run Try.prog w' = .ok (.string (q.body.extract m' q.body.size)) w' := fun w' => slice_low q.body m' _ rfl (by omega) w'
                                      have HA : ∀ w', (Op.stringOp .add b' (q.body.extract m' q.body.size)).run Try.prog w' = .ok (.string (b' ++ q.body.extract m' q.body.size)) w' := fun w' => run_string_add_sum w' _ _ (by rw [ByteArray.size_extract]; omega)
                                      have hmlt : m < q.body.size := by omega
                                      have HOo : Hid (PB ob (outP l2 q.body.size) (wr.alloc (.cells (pc q) 24))) := by
                                        have := O5.out
                                        unfold outP at this ⊢
                                        rw [if_neg (by omega)] at this ⊢
                                        exact this
                                      generalize b' ++ q.body.extract m' q.body.size = B2 at *
                                      generalize q.body.extract m' q.body.size = X at *
                                      rw [h0] at y7
                                      have hne := filled b' (by omega)
                                      have HLT := Lib.hid hmlt
                                      clear hmlt
                                      clear hqm hfq hcov hNA hosn HTake hqo hos1 h0 hos
                                      go_wp2_with (first | (refine wpList_load_mid rfl 24 _ rfl gl (j * 9) rfl (pcl q) _ Rq.out HU.out rfl HI.out ?_) | (refine wpList_store_last rfl 24 _ _ rfl wr _ (pc q) rfl rfl rfl HI.out rfl (pc_one q) ?_))
                                      go_roundw
                                      case rel => exact ⟨q.body.size, B2, true, j + 1, by omega, by go_num, rfl, rfl, (by show _ = _; rw [decide_eq_true HLT.out]), by have := HLT.out; omega, HBx.out, (fun h => by exfalso; have := HLT.out; omega), D5.out, HOo.out⟩
                                      case measure => simp [intOf]; omega
                                    · have HBx := Lib.hid (HBd'.out.ext HS2.out hqm hcov.1 hcov.2)
                                      have hc1 : 8 * q.off ≤ (m' : Int) := by omega
                                      have hc2 : (m' : Int) < 8 * q.off + (q.body.size : Int) := by omega
                                      have hsl : ∀ w', (Instr.slice 9 (.string q.body) (some (.int .i64 ((m' : Int) - 8 * q.off))) none none).run Try.prog w' = .ok (.string (q.body.extract (m' - osn q) q.body.size)) w' := fun w' => slice_low q.body (m' - osn q) _ (by omega) (by omega) w'
                                      have HA : ∀ w', (Op.stringOp .add b' (q.body.extract (m' - osn q) q.body.size)).run Try.prog w' = .ok (.string (b' ++ q.body.extract (m' - osn q) q.body.size)) w' := fun w' => run_string_add_sum w' _ _ (by rw [ByteArray.size_extract]; omega)
                                      have hmlt : m < osn q + q.body.size := by omega
                                      have HOo : Hid (PB ob (outP l2 (osn q + q.body.size)) (wr.alloc (.cells (pc q) 24))) := by
                                        have := O5.out
                                        unfold outP at this ⊢
                                        rw [if_neg (by omega)] at this ⊢
                                        exact this
                                      generalize b' ++ q.body.extract (m' - osn q) q.body.size = B2 at *
                                      generalize q.body.extract (m' - osn q) q.body.size = X at *
                                      have h0' : (8 * q.off == 0) = false := by rw [beq_eq_false_iff_ne]; omega
                                      have HLT := Lib.hid hmlt
                                      clear hmlt
                                      clear hqm hfq hcov hNA hosn HTake hqo hos1 h0
                                      go_wp2_with (first | (refine wpList_load_mid rfl 24 _ rfl gl (j * 9) rfl (pcl q) _ Rq.out HU.out rfl HI.out ?_) | (refine wpList_store_last rfl 24 _ _ rfl wr _ (pc q) rfl rfl rfl HI.out rfl (pc_one q) ?_))
                                      go_roundw
                                      case rel => exact ⟨(osn q + q.body.size), B2, true, j + 1, by omega, by go_num, rfl, rfl, (by show _ = _; rw [decide_eq_true HLT.out]), by have := HLT.out; omega, HBx.out, (fun h => by exfalso; have := HLT.out; omega), D5.out, HOo.out⟩
                                      case measure => simp [intOf]; omega
                                  · by_cases h0 : q.off = 0
                                    · have hmp : 0 < m' := by
                                        rcases Nat.eq_zero_or_pos m' with h1 | h1
                                        · exact absurd ⟨h0, h1⟩ hNA
                                        · exact h1
                                      have HNn : Hid (m' = m → ∀ x ∈ l2.take (j + 1), ¬ (osn x ≤ m ∧ m < osn x + x.body.size)) := fun h x hx => by
                                        rcases HTake x hx with hx | rfl
                                        · exact HNc'.out h x hx
                                        · rw [h] at hcov; exact hcov
                                      have hos : osn q = 0 := (hfq.first h0).2
                                      have hc2 : ¬ ((m' : Int) < (q.body.size : Int)) := by omega
                                      have hne := filled b' (by omega)
                                      rw [h0] at y7
                                      clear hqm hfq hcov hNA hosn HTake hqo hos1 h0 hos
                                      go_wp2_with (first | (refine wpList_load_mid rfl 24 _ rfl gl (j * 9) rfl (pcl q) _ Rq.out HU.out rfl HI.out ?_) | (refine wpList_store_last rfl 24 _ _ rfl wr _ (pc q) rfl rfl rfl HI.out rfl (pc_one q) ?_))
                                      go_roundw
                                      case rel => exact ⟨m', b', gb', j + 1, by omega, by go_num, rfl, rfl, HGb, hmm, HBd'.out, HNn.out, D5.out, O5.out⟩
                                      case measure => simp [intOf]; omega
                                    · by_cases hle2 : osn q ≤ m'
                                      · have HNn : Hid (m' = m → ∀ x ∈ l2.take (j + 1), ¬ (osn x ≤ m ∧ m < osn x + x.body.size)) := fun h x hx => by
                                          rcases HTake x hx with hx | rfl
                                          · exact HNc'.out h x hx
                                          · rw [h] at hcov; exact hcov
                                        have h0' : (8 * q.off == 0) = false := by rw [beq_eq_false_iff_ne]; omega
                                        have hc1 : 8 * q.off ≤ (m' : Int) := by omega
                                        have hc2 : ¬ ((m' : Int) < 8 * q.off + (q.body.size : Int)) := by omega
                                        clear hqm hfq hcov hNA hosn HTake hqo hos1 h0 hle2
                                        go_wp2_with (first | (refine wpList_load_mid rfl 24 _ rfl gl (j * 9) rfl (pcl q) _ Rq.out HU.out rfl HI.out ?_) | (refine wpList_store_last rfl 24 _ _ rfl wr _ (pc q) rfl rfl rfl HI.out rfl (pc_one q) ?_))
                                        go_roundw
                                        case rel => exact ⟨m', b', gb', j + 1, by omega, by go_num, rfl, rfl, HGb, hmm, HBd'.out, HNn.out, D5.out, O5.out⟩
                                        case measure => simp [intOf]; omega
                                      · have HNn : Hid (m' = m → ∀ x ∈ l2.take (j + 1), ¬ (osn x ≤ m ∧ m < osn x + x.body.size)) := fun h x hx => by
                                          rcases HTake x hx with hx | rfl
                                          · exact HNc'.out h x hx
                                          · rw [h] at hcov; exact hcov
                                        have h0' : (8 * q.off == 0) = false := by rw [beq_eq_false_iff_ne]; omega
                                        have hc1 : ¬ (8 * q.off ≤ (m' : Int)) := by omega
                                        clear hqm hfq hcov hNA hosn HTake hqo hos1 h0 hle2
                                        go_wp2_with (first | (refine wpList_load_mid rfl 24 _ rfl gl (j * 9) rfl (pcl q) _ Rq.out HU.out rfl HI.out ?_) | (refine wpList_store_last rfl 24 _ _ rfl wr _ (pc q) rfl rfl rfl HI.out rfl (pc_one q) ?_))
                                        go_roundw
                                        case rel => exact ⟨m', b', gb', j + 1, by omega, by go_num, rfl, rfl, HGb, hmm, HBd'.out, HNn.out, D5.out, O5.out⟩
                                        case measure => simp [intOf]; omega
                              · have hlt' : ¬ ((j : Int) < (m2 : Int)) := by omega
                                have hfull : l2.take j = l2 := List.take_of_length_le (by rw [HL2.out]; omega)
                                rw [hfull] at HNc'
                                clear hfull
                                go_wp2_with fail
                                go_roundw
                                case rel =>
                                  refine ⟨m', b', gb', rfl, rfl, HBd'.out, (fun h => ?_), Dj.out, HOj.out⟩
                                  have hg := HGb.out
                                  rw [h] at hg
                                  have hg : ¬ (m < m') := fun c => by rw [decide_eq_true c] at hg; cases hg
                                  have he : m' = m := by omega
                                  rw [he]
                                  exact HNc'.out he
                                case measure =>
                                  have hg := HGb.out
                                  show mOf (.string b') (.bool gb') < mOf (.string b) (.bool true)
                                  unfold mOf
                                  simp only
                                  rw [hbs', hbsz]
                                  cases gb' with
                                  | true => have h1 : m < m' := (by simpa using hg.symm); simp; omega
                                  | false => have h1 : ¬ m < m' := (by simpa using hg.symm); simp; omega
                          · go_wp2_with fail
                            go_meet
                            case rel => exact ⟨m, b, rfl, HBd.out, (fun h => by exfalso; omega), Dm.out, HO.out⟩
                    case rest =>
                      obtain ⟨m, b, rfl, hBd, HNc, hDf, hO⟩ := hcut
                      have Df := Lib.hid hDf
                      have HO := Lib.hid hO
                      have HBd := Lib.hid hBd
                      have hbsz := hBd.size
                      have hm4 := hBd.le
                      have hml := HS2.out.mle hBd.all
                      have Z9 := Lib.hid hDf.rr
                      generalize wr.heap.size = ob at *
                      clear hBd hDf hO D6 Zo
                      by_cases hc : g2.closed = true
                      · have hE : E = (g2.reach : Int) := by rw [HEE.out, if_pos hc]
                        by_cases hmr : m < g2.reach
                        · have hw := HS2.out.wholeF hmr (HNc.out (by omega))
                          have HQ := Lib.hid (HPo.out k kb _ U2 wc (pz, false, 0) _ (pcl pz) Df.out (HMF.out hw) HSF.out HLF.out)
                          have hx1 : ¬ (E < 0) := by omega
                          have hx2 : (m : Int) < E := by omega
                          clear hE hc hw hmr
                          go_wp2_with (first | (refine wpList_build24 rfl rfl ?_) | (refine wpList_store_mid rfl _ _ _ rfl _ _ (pc pz) rfl rfl Z9.out.there info24 (pc_one pz) ?_))
                          refine bodyPost_ret (v := .tuple #[pv pz, .bool false, .int .i64 0]) (by simp only [results, Try.results17, Act.put, asAddr]; simp [told wc (w.heap.size + 2) pz pz Z9.out]) rfl ?_
                          exact HQ.out
                        · have hw := HS2.out.wholeT hc HBd.out.all (by omega)
                          have hmr' : m = g2.reach := by omega
                          have HMt := Lib.hid (HMT.out hw)
                          have hx1 : ¬ (E < 0) := by omega
                          have hx2 : ¬ ((m : Int) < E) := by omega
                          have HOf : Hid (PB ob (fstP l2) wc) := by
                            have := HO.out
                            unfold outP at this
                            rwa [if_neg (by omega)] at this
                          have HGp : Hid ({ fstP l2 with more := false, off := 0, body := b } = gpk g2 (nmOf p)) := by
                            show _ = _
                            rw [HBd.out.eq, hmr']
                            exact HS2.out.out (HBd.out.all 0 (by omega))
                          clear hE hc hw hmr hmr' HO
                          go_wp2_with fail
                          refine (HDr2.out _ Df.out).mono ?_; rintro ex w12 ⟨rfl, s12, hD12, hK12, hs12⟩
                          have hobu : ob ≠ ub := by have := hD12.ult; have := hD12.kb3; omega
                          have hoblt := HOf.out.lt
                          have O12 : Hid (PB ob (fstP l2) w12) := (hK12.block _ hoblt (by simpa using hobu)).trans HOf.out
                          have hlo : ∀ b, ublk ub s12 (U2.take k ++ U2.drop (k + 1)) b → b ≠ ob := fun b hb => by
                            rcases hb with rfl | hb | ⟨e, he, hb⟩
                            · exact fun e => hobu e.symm
                            · have := hs12 b hb; omega
                            · exact HOb.out b (Or.inr (Or.inr ⟨e, mem_del he, hb⟩))
                          have x6 := O12.out.c6
                          have x7 := (O12.out.setMore false).c7
                          have x8 := ((O12.out.setMore false).setOff 0).c8
                          have f6 := O12.out.free 6
                          have f7 := (O12.out.setMore false).free 7
                          have f8 := ((O12.out.setMore false).setOff 0).free 8
                          have O13 : Hid (PB ob (gpk g2 (nmOf p)) (((w12.setCell ⟨ob, 6, none⟩ (.bool false)).setCell ⟨ob, 7, none⟩ (.int .i64 0)).setCell ⟨ob, 8, none⟩ (.string b))) := by
                            show PB ob (gpk g2 (nmOf p)) _
                            rw [← HGp.out]
                            exact ((O12.out.setMore false).setOff 0).setBody b
                          have D13 := Lib.hid (((hD12.setFar1 hokb hlo 6 (.bool false)).setFar1 hokb hlo 7 (.int .i64 0)).setFar1 hokb hlo 8 (.string b))
                          have Z13 := Lib.hid D13.out.rr
                          have HQ := Lib.hid (HPo.out k kb _ _ _ (gpk g2 (nmOf p), true, 0) _ (pcl (gpk g2 (nmOf p))) D13.out HMt.out (by rw [HDel.out]; exact R.out.del) fun m hm e he => by
                            rw [HDel.out] at he
                            exact Nat.le_succ_of_le ((HLim.out m hm).1 e (mem_del he)))
                          generalize gpk g2 (nmOf p) = GP at *
                          clear hlo hs12 hK12 hD12 HMt HGp
                          go_upto_region 52 with fail
                          clear x6 x7 x8 f6 f7 f8 O12 HOf
                          generalize ((w12.setCell ⟨ob, 6, none⟩ (.bool false)).setCell ⟨ob, 7, none⟩ (.int .i64 0)).setCell ⟨ob, 8, none⟩ (.string b) = w13 at *
                          go_wp2_with (first | (refine wpList_load_mid rfl 24 _ rfl ob 0 rfl (pcl GP) _ O13.out.range HU.out rfl HI.out ?_) | (refine wpList_store_mid rfl 24 _ _ rfl _ _ (pc GP) rfl rfl Z13.out.there info24 (pc_one GP) ?_))
                          refine bodyPost_ret (v := .tuple #[pv GP, .bool true, .int .i64 0]) (by simp only [results, Try.results17, Act.put, asAddr]; simp [told w13 (w.heap.size + 2) pz GP Z13.out]) rfl ?_
                          exact HQ.out
                      · have hw := HS2.out.open_ (by simpa using hc)
                        have hE : E = -1 := by rw [HEE.out, if_neg hc]
                        have HQ := Lib.hid (HPo.out k kb _ U2 wc (pz, false, 0) _ (pcl pz) Df.out (HMF.out hw) HSF.out HLF.out)
                        have hx1 : E < 0 := by omega
                        clear hE hc hw
                        go_wp2_with (first | (refine wpList_build24 rfl rfl ?_) | (refine wpList_store_mid rfl _ _ _ rfl _ _ (pc pz) rfl rfl Z9.out.there info24 (pc_one pz) ?_))
                        refine bodyPost_ret (v := .tuple #[pv pz, .bool false, .int .i64 0]) (by simp only [results, Try.results17, Act.put, asAddr]; simp [told wc (w.heap.size + 2) pz pz Z9.out]) rfl ?_
                        exact HQ.out
end Go.Proofs.Ytfnmcnbiahfnfaa
