/-
  The walk of FragSays.
-/
import Derived.Test.YtfnmcnbiahfnfaaEk
import Derived.BigQuiet
import Derived.Deep.QuietTactic
import Derived.Deep.CutRange
namespace Go.Proofs.Ytfnmcnbiahfnfaa
open Go.RowKit
set_option linter.unusedVariables false
set_option linter.unusedSimpArgs false

set_option maxHeartbeats 8000000 in
set_option maxRecDepth 100000 in
theorem says_walk (hdin : ∀ (ub B : Nat) (s0 : Value) (U0 : List DE) (C : List (Nm × Gm)) (p : Pk) (w : World), UT w ub B s0 U0 → B ≤ w.heap.size → Sim C U0 → PD C → C.length ≤ 8 → Fits p → (∀ e ∈ U0, (e.l.length + 1) * 64 ≤ 140737488355328) → Calls Try.prog 17 #[.pointer (some ⟨ub, 0, none⟩), pv p] w (DPost w ub B s0 U0 C p))
    (o : Option Addr) (b off len cap : Nat) (C : Nat → List Value) (S : Nat → Stp) (w : World) (hb : 0 < len → o = some ⟨b, off, none⟩ ∧ b < w.heap.size) (hS : StepsAt w b off len C S) (hlen : len ≤ maxLen) (hz : len * 64 ≤ 140737488355328) :
    Calls Try.prog 4 #[.slice o len cap] w fun e w' => e = .returned (.bool true) ∧ Below w.heap.size w w' := by
  unfold maxLen at hlen
  have HN : Hid (∀ w', Calls Try.prog 12 #[] w' fun e w'' => e = .returned (.pointer (some ⟨w'.heap.size + 1, 0, none⟩)) ∧ Tab w'' (w'.heap.size + 1) w'.heap.size [] ∧ Below w'.heap.size w' w'') := new_any
  have HT1 : Hid (∀ tb w', Calls Try.prog 13 #[.pointer (some ⟨tb, 0, none⟩), .int .i64 (-1)] w' fun e w'' => e = .returned (.int .i64 1) ∧ w'' = w') := fun tb w' => tick_neg tb (-1) w' (by omega)
  have HIn : Hid (∀ tb mb A p w', Tab w' tb mb A → Fits p → Calls Try.prog 16 #[.pointer (some ⟨tb, 0, none⟩), pv p] w' (InPost w' tb mb A p)) := fun tb mb A p w' h f => in_any tb mb A p w' h f
  have HOp : Hid (∀ tb mb A w', Tab w' tb mb A → Calls Try.prog 18 #[.pointer (some ⟨tb, 0, none⟩)] w' fun e w'' => e = .returned (.int .i64 (A.length : Int)) ∧ w'' = w') := open_any
  have HDi := Lib.hid hdin
  have HB0 := Lib.hid hb
  have HS0 := Lib.hid hS
  clear hb hS hdin
  go_enter Try.func4, Try.ntmps4
  go_wp2_with fail
  refine (HN.out _).mono ?_; rintro e w1 ⟨rfl, hT1, hb1⟩
  have T1 := Lib.hid (Two.new hT1 hb1 (Nat.le_refl _))
  have hw1 := hb1.size
  clear hT1 hb1
  go_wp2_with fail
  refine (HT1.out _ _).mono ?_; rintro e w2 ⟨rfl, rfl⟩
  go_wp2_with fail
  generalize w1.alloc (.cells #[.slice none 0 0] 37) = W0 at *
  generalize w1.heap.size = ub at *
  go_loopw [25] (fun i W => ∃ (k : Nat) (A : List Ent) (s : Value) (U : List DE), k ≤ len ∧ i = .int .i64 k ∧ Two w W (w.heap.size + 1) w.heap.size ub A s U ∧ Sim (abs A) U ∧ ∀ e ∈ U, e.l.length ≤ k) (fun i _ => len - (intOf i).toNat)
  case atStart => exact ⟨0, [], _, [], Nat.zero_le _, rfl, T1.out, trivial, fun e he => by cases he⟩
  case round =>
    obtain ⟨k, A, s, U, hk, rfl, hT, hSm, hlm⟩ := hrel
    have T := Lib.hid hT
    have HSm := Lib.hid hSm
    have HLm := Lib.hid hlm
    clear hT hSm hlm
    by_cases hlt : k < len
    · obtain ⟨ho, hbb⟩ := HB0.out (by omega)
      subst ho
      obtain ⟨hr', hcs⟩ := HS0.out k hlt
      have hsz := T.out.be.size
      have hrr : Hid (wr.rangeAt b (off + k * 45) (C k)) := fun j v hv => by
        rw [T.out.be.cell (p := ⟨b, off + k * 45 + j, none⟩) hbb]; exact hr' j v hv
      have HCs := Lib.hid hcs
      have HI : Hid ((Try.prog.info? 50).map (·.size) = some (C k).length) := by show _ = _; rw [hcs.len]; exact info50
      have HI' : Hid ((Try.prog.info? 50).map (·.size) = some (C k).toArray.size) := by show _ = _; rw [List.size_toArray, hcs.len]; exact info50
      have H45 : Hid (45 = (C k).toArray.size) := by show _ = _; rw [List.size_toArray, hcs.len]
      have H1 := Lib.hid (all_oneCell_toArray hcs.one)
      have HOf : Hid (∀ w', Calls Try.prog 14 #[.agg (C k).toArray, .int .i64 6] w' fun e w'' => e = .returned (.int .i64 ((S k).kind % 6)) ∧ Below w'.heap.size w' w'') := fun w' => of_any (C k) (S k) w' hcs
      have HF := Lib.hid hcs.fits
      have T2 := Lib.hid (T.out.alloc (.cells (C k).toArray 50))
      have B2 := Lib.hid (heap_alloc_new wr (.cells (C k).toArray 50))
      have HRg : Hid ((wr.alloc (.cells (C k).toArray 50)).rangeAt wr.heap.size 0 (C k)) := fun j v hv => by
        rw [Joins.cell_of_block (heap_alloc_new wr (.cells (C k).toArray 50)), List.getElem?_toArray]
        simpa using hv
      have HPk : Hid (∀ W : World, W.heap[wr.heap.size]? = some (.cells (C k).toArray 50 (0, 0)) → W.rangeAt wr.heap.size 7 (pcl (S k).pack)) := fun W h => step_range h hcs
      have HB1 : Hid ((C k).toArray[1]? = some (.int .i64 (S k).num)) := by show _ = _; rw [List.getElem?_toArray]; exact hcs.c1
      have hn1 := hcs.n1
      have hn2 := hcs.n2
      have HU := Lib.hid Try.underlying24
      have HI24 : Hid ((Try.prog.info? 24).map (·.size) = some 9) := info24
      have HBn : Hid (wr.heap.size ∉ w.heap.size :: blks A) := fun hm => by
        rcases List.mem_cons.1 hm with hm | hm
        · have := T.out.tab.mlt; omega
        · have := T.out.tab.blt _ hm; omega
      have HBu : Hid (wr.heap.size ≠ ub) := by have := T.out.ut.lt; intro e; omega
      clear hcs hr' hbb
      generalize C k = cs at *
      generalize (S k).pack = q at *
      generalize (S k).num = num at *
      generalize (S k).kind % 6 = kd at *
      go_wp2_with (first | (refine wpList_load_mid rfl 50 _ rfl b (off + k * 45) rfl cs _ hrr.out Try.underlying50 rfl HI.out ?_) | (refine wpList_store_last rfl 50 _ _ rfl wr _ cs.toArray rfl rfl rfl HI'.out H45.out H1.out ?_) | (refine wpList_load_mid rfl 50 _ rfl wr.heap.size 0 rfl cs _ HRg.out Try.underlying50 rfl HI.out ?_))
      refine (HOf.out _).mono ?_; rintro e w4 ⟨rfl, hb4⟩
      have T5 := Lib.hid (T2.out.on hb4)
      have B5 : Hid (w4.heap[wr.heap.size]? = some (.cells cs.toArray 50 (0, 0))) := (hb4.block _ (lt_of_heap B2.out)).trans B2.out
      have cB := (Joins.cell_of_block B5.out 1).trans HB1.out
      clear T T2 B2 hb4 HRg hrr HI HI' H45 H1 HOf HCs
      generalize wr.heap.size = bx at *
      by_cases hkd : kd = 0
      · subst hkd
        by_cases hneg : num < 0
        · have HTn : Hid (∀ (tb : Nat) (w' : World), Calls Try.prog 13 #[.pointer (some ⟨tb, 0, none⟩), .int .i64 num] w' fun e w'' => e = .returned (.int .i64 1) ∧ w'' = w') := fun tb w' => tick_neg tb num w' hneg
          have HDn : Hid (∀ (ub : Nat) (w' : World), Calls Try.prog 15 #[.pointer (some ⟨ub, 0, none⟩), .int .i64 num] w' fun e w'' => e = .returned (.int .i64 1) ∧ w'' = w') := fun ub w' => dtick_neg ub num w' hneg
          clear hneg
          go_wp2_with fail
          refine wp_region_held_drew (S := fun w' => Hid (w'.cell? ⟨bx, 1, none⟩ = some (.int .i64 num))) (by kernel_rfl) (Lib.hid cB) (fun hHeld => ?_)
          refine takeH (i := 0) (d := some 32) (v := ?_) rfl rfl (by kernel_rfl) (by kernel_rfl) (by kernel_rfl) (fun _ _ _ h => h) (Or.inl ⟨by rfl, ?_⟩) hHeld ?_
          rotate_left
          · intro w' hSw; (try dsimp only at hSw); have q := hSw.out; go_simp; try with_reducible rfl
          simp only [Act.put, List.setIfInBounds_toArray, List.set_cons_zero, List.set_cons_succ]
          refine takeH (i := 1) (d := some 33) (v := ?_) rfl rfl (by kernel_rfl) (by kernel_rfl) (by kernel_rfl) (fun _ _ _ h => h) (Or.inl ⟨by rfl, ?_⟩) hHeld ?_
          rotate_left
          · intro w' hSw; (try dsimp only at hSw); have q := hSw.out; go_simp; try with_reducible rfl
          simp only [Act.put, List.setIfInBounds_toArray, List.set_cons_zero, List.set_cons_succ]
          refine takeH (i := 2) (d := some 34) (v := ?_) rfl rfl (by kernel_rfl) (by kernel_rfl) (by kernel_rfl) (fun _ _ _ h => h) (Or.inl ⟨by rfl, ?_⟩) hHeld ?_
          rotate_left
          · intro w' hSw; (try dsimp only at hSw); have q := hSw.out; go_simp; try with_reducible rfl
          simp only [Act.put, List.setIfInBounds_toArray, List.set_cons_zero, List.set_cons_succ]
          refine takeH (i := 4) (d := some 36) (v := ?_) rfl rfl (by kernel_rfl) (by kernel_rfl) (by kernel_rfl) (fun _ _ _ h => h) (Or.inl ⟨by rfl, ?_⟩) hHeld ?_
          rotate_left
          · intro w' hSw; (try dsimp only at hSw); have q := hSw.out; go_simp; try with_reducible rfl
          simp only [Act.put, List.setIfInBounds_toArray, List.set_cons_zero, List.set_cons_succ]
          refine takeH (i := 5) (d := some 37) (v := ?_) rfl rfl (by kernel_rfl) (by kernel_rfl) (by kernel_rfl) (fun _ _ _ h => h) (Or.inl ⟨by rfl, ?_⟩) hHeld ?_
          rotate_left
          · intro w' hSw; (try dsimp only at hSw); have q := hSw.out; go_simp; try with_reducible rfl
          simp only [Act.put, List.setIfInBounds_toArray, List.set_cons_zero, List.set_cons_succ]
          refine takeH (i := 6) (d := some 38) (v := ?_) rfl rfl (by kernel_rfl) (by kernel_rfl) (by kernel_rfl) (fun _ _ _ h => h) (Or.inl ⟨by rfl, ?_⟩) hHeld ?_
          rotate_left
          · intro w' hSw; (try dsimp only at hSw); have q := hSw.out; go_simp; try with_reducible rfl
          simp only [Act.put, List.setIfInBounds_toArray, List.set_cons_zero, List.set_cons_succ]
          refine wpAnyH_ready (rs := [3]) (by kernel_rfl) (by simp) ?_
          refine AllReadyH.cons rfl (fun K hK => ?_) AllReadyH.nil
          go_simp
          refine (HTn.out _ _).mono ?_; rintro e wa ⟨rfl, rfl⟩
          clear hHeld
          refine hK.out _ _ (Lib.hid cB) (fun hHeld => ?_)
          clear hK K
          try simp only [Act.put, List.setIfInBounds_toArray, List.set_cons_zero, List.set_cons_succ]
          refine wpAnyH_ready (rs := [7]) (by kernel_rfl) (by simp) ?_
          refine AllReadyH.cons rfl (fun K hK => ?_) AllReadyH.nil
          go_simp
          refine (HDn.out _ _).mono ?_; rintro e wb ⟨rfl, rfl⟩
          clear hHeld
          refine hK.out _ _ (Lib.hid cB) (fun hHeld => ?_)
          clear hK K
          try simp only [Act.put, List.setIfInBounds_toArray, List.set_cons_zero, List.set_cons_succ]
          refine takeH (i := 8) (d := some 40) (v := ?_) rfl rfl (by kernel_rfl) (by kernel_rfl) (by kernel_rfl) (fun _ _ _ h => h) (Or.inl ⟨by rfl, ?_⟩) hHeld ?_
          rotate_left
          · intro w' hSw; (try dsimp only at hSw); go_simp; try with_reducible rfl
          simp only [Act.put, List.setIfInBounds_toArray, List.set_cons_zero, List.set_cons_succ]
          refine wpAnyH_done (by kernel_rfl) ?_ _
          have TZ : Hid (Two w w4.drew (w.heap.size + 1) w.heap.size ub A s U) := T5.out.on ((Below.refl _ _).drew)
          have HL1 : Hid (∀ e ∈ U, e.l.length ≤ k + 1) := fun e he => Nat.le_succ_of_le (HLm.out e he)
          generalize w4.drew = w6 at *
          clear HTn HDn cB HPk HBn HBu B5 T5
          obtain ⟨ou, cu, hsz', _⟩ := own_form TZ.out.ut.row
          subst hsz'
          have cU := TZ.out.ut.cell
          have HOpZ : Hid (∀ w', Tab w' (w.heap.size + 1) w.heap.size A → Calls Try.prog 18 #[.pointer (some ⟨w.heap.size + 1, 0, none⟩)] w' fun e w'' => e = .returned (.int .i64 ((U).length : Int)) ∧ w'' = w') := fun w' h => by
            have := HOp.out _ _ _ w' h
            rwa [show (A).length = (U).length from by have := HSm.out.len; rwa [abs_len] at this] at this
          have hnu : (U).length ≤ 8 := by have h1 := HSm.out.len; have h2 := TZ.out.tab.le; rw [abs_len] at h1; omega
          have HRel : Hid (Two w (w6).drew (w.heap.size + 1) w.heap.size ub A (.slice ou (U).length cu) U ∧ Sim (abs A) U ∧ ∀ e ∈ U, e.l.length ≤ k + 1) := ⟨TZ.out.on ((Below.refl _ _).drew), HSm.out, HL1.out⟩
          generalize hnue : (U).length = nu at *
          clear hnue
          go_wp2_with fail
          refine wp_region_held_drew (S := fun w' => Hid (w'.cell? ⟨ub, 0, none⟩ = some (.slice ou nu cu))) (by kernel_rfl) (Lib.hid cU) (fun hHeld => ?_)
          refine takeH (i := 0) (d := some 70) (v := ?_) rfl rfl (by kernel_rfl) (by kernel_rfl) (by kernel_rfl) (fun _ _ _ h => h) (Or.inl ⟨by rfl, ?_⟩) hHeld ?_
          rotate_left
          · intro w' hSw; (try dsimp only at hSw); have q := hSw.out; go_simp; try with_reducible rfl
          simp only [Act.put, List.setIfInBounds_toArray, List.set_cons_zero, List.set_cons_succ]
          refine takeH (i := 2) (d := some 72) (v := ?_) rfl rfl (by kernel_rfl) (by kernel_rfl) (by kernel_rfl) (fun _ _ _ h => h) (Or.inl ⟨by rfl, ?_⟩) hHeld ?_
          rotate_left
          · intro w' hSw; (try dsimp only at hSw); have q := hSw.out; go_simp; try with_reducible rfl
          simp only [Act.put, List.setIfInBounds_toArray, List.set_cons_zero, List.set_cons_succ]
          refine takeH (i := 3) (d := some 73) (v := ?_) rfl rfl (by kernel_rfl) (by kernel_rfl) (by kernel_rfl) (fun _ _ _ h => h) (Or.inl ⟨by rfl, ?_⟩) hHeld ?_
          rotate_left
          · intro w' hSw; (try dsimp only at hSw); have q := hSw.out; go_simp; try with_reducible rfl
          simp only [Act.put, List.setIfInBounds_toArray, List.set_cons_zero, List.set_cons_succ]
          refine takeH (i := 4) (d := some 74) (v := ?_) rfl rfl (by kernel_rfl) (by kernel_rfl) (by kernel_rfl) (fun _ _ _ h => h) (Or.inl ⟨by rfl, ?_⟩) hHeld ?_
          rotate_left
          · intro w' hSw; (try dsimp only at hSw); have q := hSw.out; go_simp; try with_reducible rfl
          simp only [Act.put, List.setIfInBounds_toArray, List.set_cons_zero, List.set_cons_succ]
          refine takeH (i := 5) (d := some 75) (v := ?_) rfl rfl (by kernel_rfl) (by kernel_rfl) (by kernel_rfl) (fun _ _ _ h => h) (Or.inl ⟨by rfl, ?_⟩) hHeld ?_
          rotate_left
          · intro w' hSw; (try dsimp only at hSw); have q := hSw.out; go_simp; try with_reducible rfl
          simp only [Act.put, List.setIfInBounds_toArray, List.set_cons_zero, List.set_cons_succ]
          refine takeH (i := 6) (d := some 76) (v := ?_) rfl rfl (by kernel_rfl) (by kernel_rfl) (by kernel_rfl) (fun _ _ _ h => h) (Or.inl ⟨by rfl, ?_⟩) hHeld ?_
          rotate_left
          · intro w' hSw; (try dsimp only at hSw); have q := hSw.out; go_simp; try with_reducible rfl
          simp only [Act.put, List.setIfInBounds_toArray, List.set_cons_zero, List.set_cons_succ]
          refine wpAnyH_ready (rs := [1]) (by kernel_rfl) (by simp) ?_
          refine AllReadyH.cons rfl (fun K hK => ?_) AllReadyH.nil
          go_simp
          refine (HOpZ.out _ TZ.out.tab.drew).mono ?_; rintro e wo ⟨rfl, rfl⟩
          clear hHeld
          refine hK.out _ _ (Lib.hid cU) (fun hHeld => ?_)
          clear hK K
          try simp only [Act.put, List.setIfInBounds_toArray, List.set_cons_zero, List.set_cons_succ]
          refine takeH (i := 7) (d := some 77) (v := ?_) rfl rfl (by kernel_rfl) (by kernel_rfl) (by kernel_rfl) (fun _ _ _ h => h) (Or.inl ⟨by rfl, ?_⟩) hHeld ?_
          rotate_left
          · intro w' hSw; (try dsimp only at hSw); go_simp; try with_reducible rfl
          simp only [Act.put, List.setIfInBounds_toArray, List.set_cons_zero, List.set_cons_succ]
          refine wpAnyH_done (by kernel_rfl) ?_ _
          go_wp2_with fail
          go_roundw
          case rel => exact ⟨k + 1, A, _, U, by omega, by go_num, HRel.out⟩
          case measure => simp [intOf]; omega
        · have hpos : 0 ≤ num := by omega
          have hU8 : U.length ≤ 8 := by have h1 := HSm.out.len; have h2 := T5.out.tab.le; rw [abs_len] at h1; omega
          have HTp : Hid (∀ w', Tab w' (w.heap.size + 1) w.heap.size A → Calls Try.prog 13 #[.pointer (some ⟨w.heap.size + 1, 0, none⟩), .int .i64 num] w' fun e w'' => e = .returned (.int .i64 0) ∧ Tab w'' (w.heap.size + 1) w.heap.size (tickA num A) ∧ Kp (w.heap.size :: blks A) w' w'') := fun w' h => tick_pos (w.heap.size + 1) w.heap.size A num w' hpos h (sim_left HSm.out)
          have HDp : Hid (∀ w', UT w' ub w.heap.size s U → w.heap.size ≤ w'.heap.size → Calls Try.prog 15 #[.pointer (some ⟨ub, 0, none⟩), .int .i64 num] w' fun e w'' => e = .returned (.int .i64 0) ∧ ∃ s', UT w'' ub w.heap.size s' (dtick num U) ∧ Kp [ub] w' w'' ∧ ∀ g, s'.ownBlock = some g → w'.heap.size ≤ g) := fun w' h1 h2 => dtick_any ub w.heap.size num s U w' h1 h2 hU8 ⟨hpos, hn2⟩ (sim_age HSm.out)
          have HUt : Hid (∀ (s' : Value) (W : World), (∀ g, s'.ownBlock = some g → W.heap.size ≤ g) → ∀ b, ublk ub s' (dtick num U) b → ublk ub s U b ∨ W.heap.size ≤ b) := fun s' W hg b hb => by
            rcases hb with rfl | hb | ⟨e, he, hb⟩
            · exact Or.inl (Or.inl rfl)
            · exact Or.inr (hg b hb)
            · obtain ⟨x, hx, e1, _⟩ := dtick_mem he
              exact Or.inl (Or.inr (Or.inr ⟨x, hx, by rw [← e1]; exact hb⟩))
          have HS1 : Hid (Sim (abs (tickA num A)) (dtick num U)) := by show Sim _ _; rw [abs_tick]; exact HSm.out.tick hpos
          have HL1 : Hid (∀ e ∈ dtick num U, e.l.length ≤ k + 1) := fun e he => by
            obtain ⟨x, hx, _, e2⟩ := dtick_mem he
            rw [e2]; exact Nat.le_succ_of_le (HLm.out x hx)
          have HBt : Hid (∀ k ∈ blks (tickA num A), k ∈ blks A) := fun k hk => blks_tick k hk
          generalize hA1 : tickA num A = A1 at *
          have HA1 := Lib.hid hA1
          generalize hU1 : dtick num U = U1 at *
          have HU1 := Lib.hid hU1
          clear hneg hpos hU8 hA1 hU1
          go_wp2_with fail
          refine wp_region_held_drew (S := fun w' => Hid (w'.cell? ⟨bx, 1, none⟩ = some (.int .i64 num))) (by kernel_rfl) (Lib.hid cB) (fun hHeld => ?_)
          refine takeH (i := 0) (d := some 32) (v := ?_) rfl rfl (by kernel_rfl) (by kernel_rfl) (by kernel_rfl) (fun _ _ _ h => h) (Or.inl ⟨by rfl, ?_⟩) hHeld ?_
          rotate_left
          · intro w' hSw; (try dsimp only at hSw); have q := hSw.out; go_simp; try with_reducible rfl
          simp only [Act.put, List.setIfInBounds_toArray, List.set_cons_zero, List.set_cons_succ]
          refine takeH (i := 1) (d := some 33) (v := ?_) rfl rfl (by kernel_rfl) (by kernel_rfl) (by kernel_rfl) (fun _ _ _ h => h) (Or.inl ⟨by rfl, ?_⟩) hHeld ?_
          rotate_left
          · intro w' hSw; (try dsimp only at hSw); have q := hSw.out; go_simp; try with_reducible rfl
          simp only [Act.put, List.setIfInBounds_toArray, List.set_cons_zero, List.set_cons_succ]
          refine takeH (i := 2) (d := some 34) (v := ?_) rfl rfl (by kernel_rfl) (by kernel_rfl) (by kernel_rfl) (fun _ _ _ h => h) (Or.inl ⟨by rfl, ?_⟩) hHeld ?_
          rotate_left
          · intro w' hSw; (try dsimp only at hSw); have q := hSw.out; go_simp; try with_reducible rfl
          simp only [Act.put, List.setIfInBounds_toArray, List.set_cons_zero, List.set_cons_succ]
          refine takeH (i := 4) (d := some 36) (v := ?_) rfl rfl (by kernel_rfl) (by kernel_rfl) (by kernel_rfl) (fun _ _ _ h => h) (Or.inl ⟨by rfl, ?_⟩) hHeld ?_
          rotate_left
          · intro w' hSw; (try dsimp only at hSw); have q := hSw.out; go_simp; try with_reducible rfl
          simp only [Act.put, List.setIfInBounds_toArray, List.set_cons_zero, List.set_cons_succ]
          refine takeH (i := 5) (d := some 37) (v := ?_) rfl rfl (by kernel_rfl) (by kernel_rfl) (by kernel_rfl) (fun _ _ _ h => h) (Or.inl ⟨by rfl, ?_⟩) hHeld ?_
          rotate_left
          · intro w' hSw; (try dsimp only at hSw); have q := hSw.out; go_simp; try with_reducible rfl
          simp only [Act.put, List.setIfInBounds_toArray, List.set_cons_zero, List.set_cons_succ]
          refine takeH (i := 6) (d := some 38) (v := ?_) rfl rfl (by kernel_rfl) (by kernel_rfl) (by kernel_rfl) (fun _ _ _ h => h) (Or.inl ⟨by rfl, ?_⟩) hHeld ?_
          rotate_left
          · intro w' hSw; (try dsimp only at hSw); have q := hSw.out; go_simp; try with_reducible rfl
          simp only [Act.put, List.setIfInBounds_toArray, List.set_cons_zero, List.set_cons_succ]
          refine wpAnyH_ready (rs := [3]) (by kernel_rfl) (by simp) ?_
          refine AllReadyH.cons rfl (fun K hK => ?_) AllReadyH.nil
          go_simp
          refine (HTp.out _ T5.out.tab.drew).mono ?_; rintro e wa ⟨rfl, hTa, hKa⟩
          have T6 := Lib.hid ((T5.out.on ((Below.refl _ _).drew)).t hTa hKa (fun k hk => Or.inl (HBt.out k hk)))
          have B6 : Hid (wa.heap[bx]? = some (.cells cs.toArray 50 (0, 0))) := (hKa.block bx (lt_of_heap B5.out) HBn.out).trans B5.out
          have cB6 := (Joins.cell_of_block B6.out 1).trans HB1.out
          clear hTa hKa
          clear hHeld
          refine hK.out _ _ (Lib.hid cB6) (fun hHeld => ?_)
          clear hK K
          try simp only [Act.put, List.setIfInBounds_toArray, List.set_cons_zero, List.set_cons_succ]
          refine wpAnyH_ready (rs := [7]) (by kernel_rfl) (by simp) ?_
          refine AllReadyH.cons rfl (fun K hK => ?_) AllReadyH.nil
          go_simp
          refine (HDp.out _ T6.out.ut T6.out.be.size).mono ?_; rintro e wb ⟨rfl, s', hUb, hKb, hgb⟩
          have T7 := Lib.hid (T6.out.u hUb (hKb.mono (by simp)) (fun b hb => HUt.out _ _ hgb b hb))
          have B7 : Hid (wb.heap[bx]? = some (.cells cs.toArray 50 (0, 0))) := (hKb.block bx (lt_of_heap B6.out) (by simpa using HBu.out)).trans B6.out
          have cB7 := (Joins.cell_of_block B7.out 1).trans HB1.out
          clear hUb hKb hgb
          clear hHeld
          refine hK.out _ _ (Lib.hid cB7) (fun hHeld => ?_)
          clear hK K
          try simp only [Act.put, List.setIfInBounds_toArray, List.set_cons_zero, List.set_cons_succ]
          refine takeH (i := 8) (d := some 40) (v := ?_) rfl rfl (by kernel_rfl) (by kernel_rfl) (by kernel_rfl) (fun _ _ _ h => h) (Or.inl ⟨by rfl, ?_⟩) hHeld ?_
          rotate_left
          · intro w' hSw; (try dsimp only at hSw); go_simp; try with_reducible rfl
          simp only [Act.put, List.setIfInBounds_toArray, List.set_cons_zero, List.set_cons_succ]
          refine wpAnyH_done (by kernel_rfl) ?_ _
          have TZ := T7
          clear HTp HDp cB cB6 cB7 HPk HBn HBu B5 T5 B6 T6 B7 T7 HUt
          obtain ⟨ou, cu, hsz', _⟩ := own_form TZ.out.ut.row
          subst hsz'
          have cU := TZ.out.ut.cell
          have HOpZ : Hid (∀ w', Tab w' (w.heap.size + 1) w.heap.size A1 → Calls Try.prog 18 #[.pointer (some ⟨w.heap.size + 1, 0, none⟩)] w' fun e w'' => e = .returned (.int .i64 ((U1).length : Int)) ∧ w'' = w') := fun w' h => by
            have := HOp.out _ _ _ w' h
            rwa [show (A1).length = (U1).length from by have := HS1.out.len; rwa [abs_len] at this] at this
          have hnu : (U1).length ≤ 8 := by have h1 := HS1.out.len; have h2 := TZ.out.tab.le; rw [abs_len] at h1; omega
          have HRel : Hid (Two w (wb).drew (w.heap.size + 1) w.heap.size ub A1 (.slice ou (U1).length cu) U1 ∧ Sim (abs A1) U1 ∧ ∀ e ∈ U1, e.l.length ≤ k + 1) := ⟨TZ.out.on ((Below.refl _ _).drew), HS1.out, HL1.out⟩
          generalize hnue : (U1).length = nu at *
          clear hnue
          go_wp2_with fail
          refine wp_region_held_drew (S := fun w' => Hid (w'.cell? ⟨ub, 0, none⟩ = some (.slice ou nu cu))) (by kernel_rfl) (Lib.hid cU) (fun hHeld => ?_)
          refine takeH (i := 0) (d := some 70) (v := ?_) rfl rfl (by kernel_rfl) (by kernel_rfl) (by kernel_rfl) (fun _ _ _ h => h) (Or.inl ⟨by rfl, ?_⟩) hHeld ?_
          rotate_left
          · intro w' hSw; (try dsimp only at hSw); have q := hSw.out; go_simp; try with_reducible rfl
          simp only [Act.put, List.setIfInBounds_toArray, List.set_cons_zero, List.set_cons_succ]
          refine takeH (i := 2) (d := some 72) (v := ?_) rfl rfl (by kernel_rfl) (by kernel_rfl) (by kernel_rfl) (fun _ _ _ h => h) (Or.inl ⟨by rfl, ?_⟩) hHeld ?_
          rotate_left
          · intro w' hSw; (try dsimp only at hSw); have q := hSw.out; go_simp; try with_reducible rfl
          simp only [Act.put, List.setIfInBounds_toArray, List.set_cons_zero, List.set_cons_succ]
          refine takeH (i := 3) (d := some 73) (v := ?_) rfl rfl (by kernel_rfl) (by kernel_rfl) (by kernel_rfl) (fun _ _ _ h => h) (Or.inl ⟨by rfl, ?_⟩) hHeld ?_
          rotate_left
          · intro w' hSw; (try dsimp only at hSw); have q := hSw.out; go_simp; try with_reducible rfl
          simp only [Act.put, List.setIfInBounds_toArray, List.set_cons_zero, List.set_cons_succ]
          refine takeH (i := 4) (d := some 74) (v := ?_) rfl rfl (by kernel_rfl) (by kernel_rfl) (by kernel_rfl) (fun _ _ _ h => h) (Or.inl ⟨by rfl, ?_⟩) hHeld ?_
          rotate_left
          · intro w' hSw; (try dsimp only at hSw); have q := hSw.out; go_simp; try with_reducible rfl
          simp only [Act.put, List.setIfInBounds_toArray, List.set_cons_zero, List.set_cons_succ]
          refine takeH (i := 5) (d := some 75) (v := ?_) rfl rfl (by kernel_rfl) (by kernel_rfl) (by kernel_rfl) (fun _ _ _ h => h) (Or.inl ⟨by rfl, ?_⟩) hHeld ?_
          rotate_left
          · intro w' hSw; (try dsimp only at hSw); have q := hSw.out; go_simp; try with_reducible rfl
          simp only [Act.put, List.setIfInBounds_toArray, List.set_cons_zero, List.set_cons_succ]
          refine takeH (i := 6) (d := some 76) (v := ?_) rfl rfl (by kernel_rfl) (by kernel_rfl) (by kernel_rfl) (fun _ _ _ h => h) (Or.inl ⟨by rfl, ?_⟩) hHeld ?_
          rotate_left
          · intro w' hSw; (try dsimp only at hSw); have q := hSw.out; go_simp; try with_reducible rfl
          simp only [Act.put, List.setIfInBounds_toArray, List.set_cons_zero, List.set_cons_succ]
          refine wpAnyH_ready (rs := [1]) (by kernel_rfl) (by simp) ?_
          refine AllReadyH.cons rfl (fun K hK => ?_) AllReadyH.nil
          go_simp
          refine (HOpZ.out _ TZ.out.tab.drew).mono ?_; rintro e wo ⟨rfl, rfl⟩
          clear hHeld
          refine hK.out _ _ (Lib.hid cU) (fun hHeld => ?_)
          clear hK K
          try simp only [Act.put, List.setIfInBounds_toArray, List.set_cons_zero, List.set_cons_succ]
          refine takeH (i := 7) (d := some 77) (v := ?_) rfl rfl (by kernel_rfl) (by kernel_rfl) (by kernel_rfl) (fun _ _ _ h => h) (Or.inl ⟨by rfl, ?_⟩) hHeld ?_
          rotate_left
          · intro w' hSw; (try dsimp only at hSw); go_simp; try with_reducible rfl
          simp only [Act.put, List.setIfInBounds_toArray, List.set_cons_zero, List.set_cons_succ]
          refine wpAnyH_done (by kernel_rfl) ?_ _
          go_wp2_with fail
          go_roundw
          case rel => exact ⟨k + 1, A1, _, U1, by omega, by go_num, HRel.out⟩
          case measure => simp [intOf]; omega
      · have hkd' : (kd == 0) = false := by simpa using hkd
        have hroom : ∀ e ∈ U, (e.l.length + 1) * 64 ≤ 140737488355328 := fun e he => by have := HLm.out e he; omega
        have HDc : Hid (∀ w', UT w' ub w.heap.size s U → w.heap.size ≤ w'.heap.size → Calls Try.prog 17 #[.pointer (some ⟨ub, 0, none⟩), pv q] w' (DPost w' ub w.heap.size s U (abs A) q)) := fun w' h1 h2 => HDi.out ub w.heap.size s U (abs A) q w' h1 h2 HSm.out (abs_pd T5.out.tab.names) (by rw [abs_len]; exact T5.out.tab.le) HF.out hroom
        have Pk5 := Lib.hid (HPk.out w4 B5.out)
        clear hkd cB
        go_wp2_with (refine wpList_load_mid rfl 24 _ rfl bx 7 rfl (pcl q) _ Pk5.out HU.out rfl HI24.out ?_)
        refine (HIn.out _ _ _ _ _ T5.out.tab HF.out).mono ?_; rintro e w5 ⟨A', rfl, hT5', hab, hk5, hs5⟩
        have T6 := Lib.hid (T5.out.t hT5' hk5 hs5)
        have B6 : Hid (w5.heap[bx]? = some (.cells cs.toArray 50 (0, 0))) := (hk5.block bx (lt_of_heap B5.out) HBn.out).trans B5.out
        have HAb := Lib.hid hab
        clear hT5' hab hk5 hs5 T5 B5 Pk5
        obtain ⟨MM, hMM⟩ : ∃ MM, MM = inM (abs A) q := ⟨_, rfl⟩
        rw [← hMM]
        rw [← hMM] at HAb
        obtain ⟨⟨V1, V2, V3⟩, M2⟩ := MM
        have HMM := Lib.hid hMM
        clear hMM
        have T7 := Lib.hid (T6.out.alloc (.cells (pc V1) 24))
        have B7 : Hid ((w5.alloc (.cells (pc V1) 24)).heap[bx]? = some (.cells cs.toArray 50 (0, 0))) := (heap_alloc_old _ _ (lt_of_heap B6.out)).trans B6.out
        have PA7 := Lib.hid (PB.new w5 V1)
        have Pk7 := Lib.hid (HPk.out _ B7.out)
        simp only
        go_wp2_with (first | (refine wpList_store_last rfl 24 _ _ rfl w5 _ (pc V1) rfl rfl rfl HI24.out rfl (pc_one V1) ?_) | (refine wpList_load_mid rfl 24 _ rfl bx 7 rfl (pcl q) _ Pk7.out HU.out rfl HI24.out ?_))
        refine (HDc.out _ T7.out.ut T7.out.be.size).mono ?_; rintro e w8 ⟨s', U', rfl, hU8, hS8, hl8, hK8, ho8⟩
        have T8 := Lib.hid (T7.out.u hU8 hK8 ho8)
        have PA8 : Hid (PB w5.heap.size V1 w8) := (hK8.block _ PA7.out.lt (fun hm => by
          rcases List.mem_cons.1 hm with hm | hm
          · have := T6.out.ut.lt; omega
          · have := T6.out.ut.blt w5.heap.size (Or.inr (Or.inl (by simpa using hm))); omega)).trans PA7.out
        rw [← HMM.out] at hS8
        rw [← HMM.out]
        have HS8 : Hid (Sim (abs A') U') := by show Sim _ _; rw [HAb.out]; exact hS8
        have HL8 := Lib.hid (hl8 k HLm.out)
        have TZ := Lib.hid (T8.out.alloc (.cells (pc V1) 24))
        have PA9 := Lib.hid (PA8.out.alloc (.cells (pc V1) 24))
        have PB9 := Lib.hid (PB.new w8 V1)
        clear hU8 hS8 hl8 hK8 ho8 T6 T7 T8 B6 B7 PA7 PA8 Pk7 HDc HPk HBn HBu
        simp only
        go_upto_region 12 with (refine wpList_store_last rfl 24 _ _ rfl w8 _ (pc V1) rfl rfl rfl HI24.out rfl (pc_one V1) ?_)
        generalize w5.heap.size = ab at *
        generalize w8.alloc (.cells (pc V1) 24) = w9 at *
        generalize w8.heap.size = bb at *
        go_wp2_with (first | (refine wpList_load_mid rfl 24 _ rfl ab 0 rfl (pcl V1) _ PA9.out.range HU.out rfl HI24.out ?_) | (refine wpList_load_mid rfl 24 _ rfl bb 0 rfl (pcl V1) _ PB9.out.range HU.out rfl HI24.out ?_))
        obtain ⟨ou, cu, hsz', _⟩ := own_form TZ.out.ut.row
        subst hsz'
        have cU := TZ.out.ut.cell
        have HOpZ : Hid (∀ w', Tab w' (w.heap.size + 1) w.heap.size A' → Calls Try.prog 18 #[.pointer (some ⟨w.heap.size + 1, 0, none⟩)] w' fun e w'' => e = .returned (.int .i64 ((U').length : Int)) ∧ w'' = w') := fun w' h => by
          have := HOp.out _ _ _ w' h
          rwa [show (A').length = (U').length from by have := HS8.out.len; rwa [abs_len] at this] at this
        have hnu : (U').length ≤ 8 := by have h1 := HS8.out.len; have h2 := TZ.out.tab.le; rw [abs_len] at h1; omega
        have HRel : Hid (Two w (w9).drew (w.heap.size + 1) w.heap.size ub A' (.slice ou (U').length cu) U' ∧ Sim (abs A') U' ∧ ∀ e ∈ U', e.l.length ≤ k + 1) := ⟨TZ.out.on ((Below.refl _ _).drew), HS8.out, HL8.out⟩
        generalize hnue : (U').length = nu at *
        clear hnue
        refine wp_region_held_drew (S := fun w' => Hid (w'.cell? ⟨ub, 0, none⟩ = some (.slice ou nu cu))) (by kernel_rfl) (Lib.hid cU) (fun hHeld => ?_)
        refine takeH (i := 0) (d := some 70) (v := ?_) rfl rfl (by kernel_rfl) (by kernel_rfl) (by kernel_rfl) (fun _ _ _ h => h) (Or.inl ⟨by rfl, ?_⟩) hHeld ?_
        rotate_left
        · intro w' hSw; (try dsimp only at hSw); have q := hSw.out; go_simp; try with_reducible rfl
        simp only [Act.put, List.setIfInBounds_toArray, List.set_cons_zero, List.set_cons_succ]
        refine takeH (i := 2) (d := some 72) (v := ?_) rfl rfl (by kernel_rfl) (by kernel_rfl) (by kernel_rfl) (fun _ _ _ h => h) (Or.inl ⟨by rfl, ?_⟩) hHeld ?_
        rotate_left
        · intro w' hSw; (try dsimp only at hSw); have q := hSw.out; go_simp; try with_reducible rfl
        simp only [Act.put, List.setIfInBounds_toArray, List.set_cons_zero, List.set_cons_succ]
        refine takeH (i := 3) (d := some 73) (v := ?_) rfl rfl (by kernel_rfl) (by kernel_rfl) (by kernel_rfl) (fun _ _ _ h => h) (Or.inl ⟨by rfl, ?_⟩) hHeld ?_
        rotate_left
        · intro w' hSw; (try dsimp only at hSw); have q := hSw.out; go_simp; try with_reducible rfl
        simp only [Act.put, List.setIfInBounds_toArray, List.set_cons_zero, List.set_cons_succ]
        refine takeH (i := 4) (d := some 74) (v := ?_) rfl rfl (by kernel_rfl) (by kernel_rfl) (by kernel_rfl) (fun _ _ _ h => h) (Or.inl ⟨by rfl, ?_⟩) hHeld ?_
        rotate_left
        · intro w' hSw; (try dsimp only at hSw); have q := hSw.out; go_simp; try with_reducible rfl
        simp only [Act.put, List.setIfInBounds_toArray, List.set_cons_zero, List.set_cons_succ]
        refine takeH (i := 5) (d := some 75) (v := ?_) rfl rfl (by kernel_rfl) (by kernel_rfl) (by kernel_rfl) (fun _ _ _ h => h) (Or.inl ⟨by rfl, ?_⟩) hHeld ?_
        rotate_left
        · intro w' hSw; (try dsimp only at hSw); have q := hSw.out; go_simp; try with_reducible rfl
        simp only [Act.put, List.setIfInBounds_toArray, List.set_cons_zero, List.set_cons_succ]
        refine takeH (i := 6) (d := some 76) (v := ?_) rfl rfl (by kernel_rfl) (by kernel_rfl) (by kernel_rfl) (fun _ _ _ h => h) (Or.inl ⟨by rfl, ?_⟩) hHeld ?_
        rotate_left
        · intro w' hSw; (try dsimp only at hSw); have q := hSw.out; go_simp; try with_reducible rfl
        simp only [Act.put, List.setIfInBounds_toArray, List.set_cons_zero, List.set_cons_succ]
        refine wpAnyH_ready (rs := [1]) (by kernel_rfl) (by simp) ?_
        refine AllReadyH.cons rfl (fun K hK => ?_) AllReadyH.nil
        go_simp
        refine (HOpZ.out _ TZ.out.tab.drew).mono ?_; rintro e wo ⟨rfl, rfl⟩
        clear hHeld
        refine hK.out _ _ (Lib.hid cU) (fun hHeld => ?_)
        clear hK K
        try simp only [Act.put, List.setIfInBounds_toArray, List.set_cons_zero, List.set_cons_succ]
        refine takeH (i := 7) (d := some 77) (v := ?_) rfl rfl (by kernel_rfl) (by kernel_rfl) (by kernel_rfl) (fun _ _ _ h => h) (Or.inl ⟨by rfl, ?_⟩) hHeld ?_
        rotate_left
        · intro w' hSw; (try dsimp only at hSw); go_simp; try with_reducible rfl
        simp only [Act.put, List.setIfInBounds_toArray, List.set_cons_zero, List.set_cons_succ]
        refine wpAnyH_done (by kernel_rfl) ?_ _
        go_wp2_with fail
        go_roundw
        case rel => exact ⟨k + 1, A', _, U', by omega, by go_num, HRel.out⟩
        case measure => simp [intOf]; omega
    · have hlt' : ¬ ((k : Int) < (len : Int)) := by omega
      have hbe := T.out.be
      go_wp2_with fail
      go_ret
      exact ⟨rfl, hbe⟩
end Go.Proofs.Ytfnmcnbiahfnfaa
