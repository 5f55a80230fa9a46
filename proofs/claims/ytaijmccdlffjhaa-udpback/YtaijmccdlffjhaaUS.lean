/-
  The walk of UdpShort.
-/
import Derived.Test.YtaijmccdlffjhaaRt
import Derived.Test.YtaijmccdlffjhaaOpen
namespace Go.Proofs.Ytaijmccdlffjhaa
open Go.RowKit
set_option linter.unusedVariables false
set_option linter.unusedSimpArgs false

theorem rerr_none (src dst : Nat) (s : ByteArray) (h : s.size < 8) : rerr src dst s = 3 ∧ rres src dst s = gz := by
  have f : flt src dst s = 3 := by unfold flt; rw [if_pos h]
  have e : rerr src dst s = 3 := by unfold rerr; rw [if_neg (by rw [f]; decide), f]
  exact ⟨e, by unfold rres; rw [e, if_neg (by decide)]⟩
theorem rres_bad {src dst : Nat} {s : ByteArray} (h : rerr src dst s ≠ 0) : rres src dst s = gz := by unfold rres; rw [if_neg h]

/-- A datagram that Check finds fault with. -/
theorem short_bad (g : Gr) (f : Fits g) (at_ : Int) (r : ByteArray) (w : World) (h : gchk g ≠ 0) :
    Calls Try.prog 6 #[gv g, .int .i64 at_, .string r] w fun e w' => e = .returned (.bool true) ∧ Below w.heap.size w w' := by
  have HA : Hid (∀ w', Calls Try.prog 7 #[gv g] w' fun e w'' => e = .returned (.tuple #[.string ⟨#[]⟩, .int .i64 (gchk g)]) ∧ Below w'.heap.size w' w'') := fun w' => write_bad g w' h
  have HB : Hid (∀ w', Calls Try.prog 11 #[.int .u32 0, .int .u32 0, .string ⟨#[]⟩] w' fun e w'' => e = .returned (.tuple #[.agg gzc, .int .i64 3]) ∧ Below w'.heap.size w' w'') := fun w' => by
    have := read_any 0 0 ⟨#[]⟩ w' (by omega) (by omega) (by show (0 : Nat) ≤ _; omega)
    rw [(rerr_none 0 0 ⟨#[]⟩ (by show (0 : Nat) < _; omega)).1, (rerr_none 0 0 ⟨#[]⟩ (by show (0 : Nat) < _; omega)).2] at this
    exact this
  have b0 : Below w.heap.size w (w.alloc (.cells (gc g) 26)) := (Below.refl _ _).alloc (Nat.le_refl _) _
  generalize gchk g = C at *
  have hne : (C != 0) = true := by simpa using h
  go_enter Try.func6, Try.ntmps6
  go_wp2_with fail
  refine (HA.out _).mono ?_; rintro e w1 ⟨rfl, hb1⟩
  have b1 := b0.trans (hb1.mono (by simp))
  go_wp2_with fail
  refine (HB.out _).mono ?_; rintro e w2 ⟨rfl, hb2⟩
  have b2 := b1.trans (hb2.mono b1.size)
  go_wp2
  go_ret
  exact ⟨rfl, b2.alloc b2.size _⟩

set_option maxHeartbeats 2000000 in
theorem short_ok (g : Gr) (f : Fits g) (at_ : Int) (ha : -9223372036854775808 ≤ at_ ∧ at_ ≤ 9223372036854775807) (r : ByteArray) (hr : r.size ≤ 140737488351232) (w : World) (h : gchk g = 0) :
    Calls Try.prog 6 #[gv g, .int .i64 at_, .string r] w fun e w' => e = .returned (.bool true) ∧ Below w.heap.size w w' := by
  obtain ⟨p1, p2, p3, p4, hs⟩ := gchk_ok h
  have z := uw_sz g
  obtain ⟨k, hk⟩ := Int.eq_ofNat_of_zero_le (Int.emod_nonneg at_ (show ((uw g).size : Int) ≠ 0 by omega))
  have hk2 := Int.emod_lt_of_pos at_ (show 0 < ((uw g).size : Int) by omega)
  have hks : k < (uw g).size := by omega
  have HA : Hid (∀ w', Calls Try.prog 7 #[gv g] w' fun e w'' => e = .returned (.tuple #[.string (uw g), .int .i64 0]) ∧ Below w'.heap.size w' w'') := fun w' => write_ok g w' h f.sa f.da
  have HB : Hid (∀ w', Calls Try.prog 11 #[.int .u32 0, .int .u32 0, .string ⟨#[]⟩] w' fun e w'' => e = .returned (.tuple #[.agg gzc, .int .i64 3]) ∧ Below w'.heap.size w' w'') := fun w' => by
    have := read_any 0 0 ⟨#[]⟩ w' (by omega) (by omega) (by show (0 : Nat) ≤ _; omega)
    rw [(rerr_none 0 0 ⟨#[]⟩ (by show (0 : Nat) < _; omega)).1, (rerr_none 0 0 ⟨#[]⟩ (by show (0 : Nat) < _; omega)).2] at this
    exact this
  have HR : Hid (∀ w', Calls Try.prog 14 #[.int .i64 at_, .int .i64 ((uw g).size : Int)] w' fun e w'' => e = .returned (.int .i64 (k : Int)) ∧ Below w'.heap.size w' w'') := fun w' => by
    have := rest_any at_ ((uw g).size : Int) w' (by omega) (by omega) ha.1 ha.2
    rw [hk] at this
    exact this.mono (by rintro e w'' ⟨rfl, rfl⟩; exact ⟨rfl, Below.refl _ _⟩)
  have sl : ∀ w', (Instr.slice 9 (.string (uw g)) none (some (.int .i64 (k : Int))) none).run Try.prog w' = .ok (.string ((uw g).extract 0 k)) w' := fun w' => by
    have := run_slice_string_h (P := Try.prog) w' 9 (uw g) Try.underlying9 .i64 (k : Int) (by omega) (by omega)
    simpa using this
  have HK : Hid (∀ w', Calls Try.prog 11 #[.int .u32 (g.sa : Int), .int .u32 (g.da : Int), .string ((uw g).extract 0 k)] w' fun e w'' => e = .returned (.tuple #[.agg gzc, .int .i64 3]) ∧ Below w'.heap.size w' w'') := fun w' => by
    have := read_any g.sa g.da ((uw g).extract 0 k) w' f.sa f.da (by simp; omega)
    have e := prefix_err g h k hks
    rw [rres_bad (by rw [e]; decide), e] at this
    exact this
  have HM : Hid (∃ (q : Gr) (c : Int), ((r.size = 0 → c = 0) ∧ (0 < r.size → c = 4)) ∧ ∀ w', Calls Try.prog 11 #[.int .u32 (g.sa : Int), .int .u32 (g.da : Int), .string (uw g ++ r)] w' fun e w'' => e = .returned (.tuple #[gv q, .int .i64 c]) ∧ Below w'.heap.size w' w'') := by
    refine ⟨_, _, ⟨fun h0 => ?_, fun h0 => more_err g h r h0⟩, fun w' => read_any g.sa g.da (uw g ++ r) w' f.sa f.da (by rw [ByteArray.size_append]; omega)⟩
    have e0 : r = ⟨#[]⟩ := ByteArray.ext (Array.eq_empty_of_size_eq_zero h0)
    have e1 : uw g ++ r = uw g := by rw [e0]; apply ByteArray.ext; apply Array.toList_inj.1; simp
    rw [e1]; exact (there_err g h).1
  obtain ⟨q, c, hc, hM⟩ := HM.out
  have HN := Lib.hid hM
  have t1 : ∀ w', (Op.stringOp .add (uw g) r).run Try.prog w' = .ok (.string (uw g ++ r)) w' := fun w' => run_string_add_sum w' _ _ (by omega)
  have hem : (uw g).toList.isEmpty = false := by
    rw [List.isEmpty_eq_false_iff]
    intro hx
    have := (toList_nil_iff_emptyBytes (uw g)).1 hx
    rw [this] at z; simp at z; omega
  have b0 : Below w.heap.size w (w.alloc (.cells (gc g) 26)) := (Below.refl _ _).alloc (Nat.le_refl _) _
  have P0 := Lib.hid (GB.new w g)
  clear hM HM hk hk2 h z
  generalize (uw g).extract 0 k = X at *
  generalize uw g ++ r = Y at *
  generalize uw g = U at *
  go_enter Try.func6, Try.ntmps6
  go_wp2_with fail
  refine (HA.out _).mono ?_; rintro e w1 ⟨rfl, hb1⟩
  have P1 := Lib.hid (P0.out.keep hb1)
  have b1 := b0.trans (hb1.mono (by simp))
  go_wp2_with fail
  refine (HB.out _).mono ?_; rintro e w2 ⟨rfl, hb2⟩
  have b2 := b1.trans (hb2.mono b1.size)
  have P2 := Lib.hid (P1.out.keep hb2)
  have b3 : Below w.heap.size w (w2.alloc (.cells gzc 26)).drew := (b2.alloc b2.size _).drew
  have P3 : Hid (GB w.heap.size g (w2.alloc (.cells gzc 26)).drew) := P2.out.alloc _
  clear b0 P0 hb1 P1 b1 hb2 b2 P2
  go_wp2_with fail
  generalize w2.alloc (.cells gzc 26) = w3 at *
  go_cut [11, 12] from 38 to 53 (fun p v wc => v = .int .i64 3 ∧ GB w.heap.size g wc ∧ Below w.heap.size w wc)
  case first =>
    refine wp_region_held_drew (S := fun w' => Hid (GB w.heap.size g w')) (by kernel_rfl) P3 (fun hHeld => ?_)
    refine takeH (i := 0) (d := some 39) (v := ?_) rfl rfl (by kernel_rfl) (by kernel_rfl) (by kernel_rfl) (fun _ _ _ h => h) (Or.inl ⟨by rfl, ?_⟩) hHeld ?_
    rotate_left
    · intro w' hSw; (try dsimp only at hSw); go_simp; try with_reducible rfl
    simp only [Act.put, List.setIfInBounds_toArray, List.set_cons_zero, List.set_cons_succ]
    refine takeH (i := 1) (d := some 40) (v := ?_) rfl rfl (by kernel_rfl) (by kernel_rfl) (by kernel_rfl) (fun _ _ _ h => h) (Or.inl ⟨by rfl, ?_⟩) hHeld ?_
    rotate_left
    · intro w' hSw; (try dsimp only at hSw); go_simp; try with_reducible rfl
    simp only [Act.put, List.setIfInBounds_toArray, List.set_cons_zero, List.set_cons_succ]
    refine takeH (i := 3) (d := some 42) (v := ?_) rfl rfl (by kernel_rfl) (by kernel_rfl) (by kernel_rfl) (fun _ _ _ h => h) (Or.inl ⟨by rfl, ?_⟩) hHeld ?_
    rotate_left
    · intro w' hSw; (try dsimp only at hSw); go_simp; try with_reducible rfl
    simp only [Act.put, List.setIfInBounds_toArray, List.set_cons_zero, List.set_cons_succ]
    refine takeH (i := 4) (d := some 43) (v := ?_) rfl rfl (by kernel_rfl) (by kernel_rfl) (by kernel_rfl) (fun _ _ _ h => h) (Or.inl ⟨by rfl, ?_⟩) hHeld ?_
    rotate_left
    · intro w' hSw; (try dsimp only at hSw); go_simp; try with_reducible rfl
    simp only [Act.put, List.setIfInBounds_toArray, List.set_cons_zero, List.set_cons_succ]
    refine takeH (i := 2) (d := some 41) (v := ?_) rfl rfl (by kernel_rfl) (by kernel_rfl) (by kernel_rfl) (fun _ _ _ h => h) (Or.inl ⟨by rfl, ?_⟩) hHeld ?_
    rotate_left
    · intro w' hSw; (try dsimp only at hSw); have hc := hSw.out.c0; clear hSw; go_simp; try with_reducible rfl
    simp only [Act.put, List.setIfInBounds_toArray, List.set_cons_zero, List.set_cons_succ]
    refine takeH (i := 5) (d := some 44) (v := ?_) rfl rfl (by kernel_rfl) (by kernel_rfl) (by kernel_rfl) (fun _ _ _ h => h) (Or.inl ⟨by rfl, ?_⟩) hHeld ?_
    rotate_left
    · intro w' hSw; (try dsimp only at hSw); have hc := hSw.out.c2; clear hSw; go_simp; try with_reducible rfl
    simp only [Act.put, List.setIfInBounds_toArray, List.set_cons_zero, List.set_cons_succ]
    refine takeH (i := 6) (d := some 45) (v := ?_) rfl rfl (by kernel_rfl) (by kernel_rfl) (by kernel_rfl) (fun _ _ _ h => h) (Or.inl ⟨by rfl, ?_⟩) hHeld ?_
    rotate_left
    · intro w' hSw; (try dsimp only at hSw); go_simp; try with_reducible rfl
    simp only [Act.put, List.setIfInBounds_toArray, List.set_cons_zero, List.set_cons_succ]
    refine takeH (i := 7) (d := some 46) (v := ?_) rfl rfl (by kernel_rfl) (by kernel_rfl) (by kernel_rfl) (fun _ _ _ h => h) (Or.inl ⟨by rfl, ?_⟩) hHeld ?_
    rotate_left
    · intro w' hSw; (try dsimp only at hSw); go_simp; try with_reducible rfl
    simp only [Act.put, List.setIfInBounds_toArray, List.set_cons_zero, List.set_cons_succ]
    refine takeH (i := 8) (d := some 47) (v := ?_) rfl rfl (by kernel_rfl) (by kernel_rfl) (by kernel_rfl) (fun _ _ _ h => h) (Or.inl ⟨by rfl, ?_⟩) hHeld ?_
    rotate_left
    · intro w' hSw; (try dsimp only at hSw); go_simp; try with_reducible rfl
    simp only [Act.put, List.setIfInBounds_toArray, List.set_cons_zero, List.set_cons_succ]
    refine takeH (i := 9) (d := some 48) (v := ?_) rfl rfl (by kernel_rfl) (by kernel_rfl) (by kernel_rfl) (fun _ _ _ h => h) (Or.inl ⟨by rfl, ?_⟩) hHeld ?_
    rotate_left
    · intro w' hSw; (try dsimp only at hSw); go_simp; try with_reducible rfl
    simp only [Act.put, List.setIfInBounds_toArray, List.set_cons_zero, List.set_cons_succ]
    refine wpAnyH_ready (rs := [10, 16]) (by kernel_rfl) (by simp) ?_
    refine AllReadyH.cons rfl (fun K hK => ?_) (AllReadyH.cons rfl (fun K hK => ?_) AllReadyH.nil)
    · go_simp
      refine (HR.out _).mono ?_
      rintro e y1 ⟨rfl, hb1⟩
      have Q_1 := Lib.hid (hHeld.out.keep hb1)
      have b_1 := b3.trans (hb1.mono b3.size)
      clear hb1 hHeld
      refine hK.out _ _ Q_1 (fun hHeld => ?_)
      clear hK K
      try simp only [Act.put, List.setIfInBounds_toArray, List.set_cons_zero, List.set_cons_succ]
      refine takeH (i := 11) (d := some 50) (v := ?_) rfl rfl (by kernel_rfl) (by kernel_rfl) (by kernel_rfl) (fun _ _ _ h => h) (Or.inl ⟨by rfl, ?_⟩) hHeld ?_
      rotate_left
      · intro w' hSw; (try dsimp only at hSw); go_simp; try with_reducible rfl
      simp only [Act.put, List.setIfInBounds_toArray, List.set_cons_zero, List.set_cons_succ]
      refine wpAnyH_ready (rs := [12, 16]) (by kernel_rfl) (by simp) ?_
      refine AllReadyH.cons rfl (fun K hK => ?_) (AllReadyH.cons rfl (fun K hK => ?_) AllReadyH.nil)
      · go_simp
        refine (HK.out _).mono ?_
        rintro e y2 ⟨rfl, hb2⟩
        have Q_2 := Lib.hid (hHeld.out.keep hb2)
        have b_2 := b_1.trans (hb2.mono b_1.size)
        clear hb2 hHeld
        refine hK.out _ _ Q_2 (fun hHeld => ?_)
        clear hK K
        try simp only [Act.put, List.setIfInBounds_toArray, List.set_cons_zero, List.set_cons_succ]
        refine takeH (i := 13) (d := some 38) (v := ?_) rfl rfl (by kernel_rfl) (by kernel_rfl) (by kernel_rfl) (fun _ _ _ h => h) (Or.inl ⟨by rfl, ?_⟩) hHeld ?_
        rotate_left
        · intro w' hSw; (try dsimp only at hSw); go_simp; try with_reducible rfl
        simp only [Act.put, List.setIfInBounds_toArray, List.set_cons_zero, List.set_cons_succ]
        refine takeH (i := 14) (d := some 52) (v := ?_) rfl rfl (by kernel_rfl) (by kernel_rfl) (by kernel_rfl) (fun _ _ _ h => h) (Or.inl ⟨by rfl, ?_⟩) hHeld ?_
        rotate_left
        · intro w' hSw; (try dsimp only at hSw); go_simp; try with_reducible rfl
        simp only [Act.put, List.setIfInBounds_toArray, List.set_cons_zero, List.set_cons_succ]
        refine takeH (i := 15) (d := some 53) (v := ?_) rfl rfl (by kernel_rfl) (by kernel_rfl) (by kernel_rfl) (fun _ _ _ h => h) (Or.inl ⟨by rfl, ?_⟩) hHeld ?_
        rotate_left
        · intro w' hSw; (try dsimp only at hSw); go_simp; try with_reducible rfl
        simp only [Act.put, List.setIfInBounds_toArray, List.set_cons_zero, List.set_cons_succ]
        refine wpAnyH_ready (rs := [16]) (by kernel_rfl) (by simp) ?_
        refine AllReadyH.cons rfl (fun K hK => ?_) AllReadyH.nil
        go_simp
        have LT_3 := hHeld.out.lt
        have Q_3 := Lib.hid (hHeld.out.alloc (.cells gzc 26))
        clear hHeld
        refine hK.out _ _ Q_3 (fun hHeld => ?_)
        clear hK K
        try simp only [Act.put, List.setIfInBounds_toArray, List.set_cons_zero, List.set_cons_succ]
        have G_3 : Hid (GB y2.heap.size gz (World.alloc (y2) (.cells gzc 26))) := GB.new _ gz
        have b_3 := b_2.alloc b_2.size (.cells gzc 26)
        have TH : Hid (World.there (World.alloc (y2) (.cells gzc 26)) (y2.heap.size) 0 5) := G_3.out.there
        refine wpAnyH_ready (rs := [17]) (by kernel_rfl) (by simp) ?_
        refine AllReadyH.cons rfl (fun K hK => ?_) AllReadyH.nil
        rw [if_pos (by rfl)]
        refine wp_store_mid _ _ _ rfl _ _ (gc gz) rfl rfl TH.out info26 (gc_one _) ?_
        have QS := Lib.hid (hHeld.out.setOther (Nat.ne_of_lt LT_3) (gc gz).toList)
        clear hHeld
        refine hK.out _ _ QS (fun hHeld => ?_)
        clear hK K
        try simp only [Act.put, List.setIfInBounds_toArray, List.set_cons_zero, List.set_cons_succ]
        refine takeH (i := 18) (d := some 12) (v := ?_) rfl rfl (by kernel_rfl) (by kernel_rfl) (by kernel_rfl) (fun _ _ _ h => h) (Or.inl ⟨by rfl, ?_⟩) hHeld ?_
        rotate_left
        · intro w' hSw; (try dsimp only at hSw); go_simp; try with_reducible rfl
        simp only [Act.put, List.setIfInBounds_toArray, List.set_cons_zero, List.set_cons_succ]
        refine wpAnyH_done (by kernel_rfl) ?_ _
        try dsimp only
        try go_wp2_with fail
        go_meet
        exact ⟨rfl, hHeld.out, below_setCells b_3 (Nat.le_of_lt LT_3) _ _⟩
      · go_simp
        have LT_4 := hHeld.out.lt
        have Q_4 := Lib.hid (hHeld.out.alloc (.cells gzc 26))
        clear hHeld
        refine hK.out _ _ Q_4 (fun hHeld => ?_)
        clear hK K
        try simp only [Act.put, List.setIfInBounds_toArray, List.set_cons_zero, List.set_cons_succ]
        have G_4 : Hid (GB y1.heap.size gz (World.alloc (y1) (.cells gzc 26))) := GB.new _ gz
        have b_4 := b_1.alloc b_1.size (.cells gzc 26)
        refine wpAnyH_ready (rs := [12]) (by kernel_rfl) (by simp) ?_
        refine AllReadyH.cons rfl (fun K hK => ?_) AllReadyH.nil
        go_simp
        refine (HK.out _).mono ?_
        rintro e y5 ⟨rfl, hb5⟩
        have Q_5 := Lib.hid (hHeld.out.keep hb5)
        have G_5 := Lib.hid (G_4.out.keep hb5)
        have b_5 := b_4.trans (hb5.mono b_4.size)
        clear hb5 hHeld
        refine hK.out _ _ Q_5 (fun hHeld => ?_)
        clear hK K
        try simp only [Act.put, List.setIfInBounds_toArray, List.set_cons_zero, List.set_cons_succ]
        refine takeH (i := 13) (d := some 38) (v := ?_) rfl rfl (by kernel_rfl) (by kernel_rfl) (by kernel_rfl) (fun _ _ _ h => h) (Or.inl ⟨by rfl, ?_⟩) hHeld ?_
        rotate_left
        · intro w' hSw; (try dsimp only at hSw); go_simp; try with_reducible rfl
        simp only [Act.put, List.setIfInBounds_toArray, List.set_cons_zero, List.set_cons_succ]
        refine takeH (i := 14) (d := some 52) (v := ?_) rfl rfl (by kernel_rfl) (by kernel_rfl) (by kernel_rfl) (fun _ _ _ h => h) (Or.inl ⟨by rfl, ?_⟩) hHeld ?_
        rotate_left
        · intro w' hSw; (try dsimp only at hSw); go_simp; try with_reducible rfl
        simp only [Act.put, List.setIfInBounds_toArray, List.set_cons_zero, List.set_cons_succ]
        refine takeH (i := 15) (d := some 53) (v := ?_) rfl rfl (by kernel_rfl) (by kernel_rfl) (by kernel_rfl) (fun _ _ _ h => h) (Or.inl ⟨by rfl, ?_⟩) hHeld ?_
        rotate_left
        · intro w' hSw; (try dsimp only at hSw); go_simp; try with_reducible rfl
        simp only [Act.put, List.setIfInBounds_toArray, List.set_cons_zero, List.set_cons_succ]
        have TH : Hid (World.there (y5) (y1.heap.size) 0 5) := G_5.out.there
        refine wpAnyH_ready (rs := [17]) (by kernel_rfl) (by simp) ?_
        refine AllReadyH.cons rfl (fun K hK => ?_) AllReadyH.nil
        rw [if_pos (by rfl)]
        refine wp_store_mid _ _ _ rfl _ _ (gc gz) rfl rfl TH.out info26 (gc_one _) ?_
        have QS := Lib.hid (hHeld.out.setOther (Nat.ne_of_lt LT_4) (gc gz).toList)
        clear hHeld
        refine hK.out _ _ QS (fun hHeld => ?_)
        clear hK K
        try simp only [Act.put, List.setIfInBounds_toArray, List.set_cons_zero, List.set_cons_succ]
        refine takeH (i := 18) (d := some 12) (v := ?_) rfl rfl (by kernel_rfl) (by kernel_rfl) (by kernel_rfl) (fun _ _ _ h => h) (Or.inl ⟨by rfl, ?_⟩) hHeld ?_
        rotate_left
        · intro w' hSw; (try dsimp only at hSw); go_simp; try with_reducible rfl
        simp only [Act.put, List.setIfInBounds_toArray, List.set_cons_zero, List.set_cons_succ]
        refine wpAnyH_done (by kernel_rfl) ?_ _
        try dsimp only
        try go_wp2_with fail
        go_meet
        exact ⟨rfl, hHeld.out, below_setCells b_5 (Nat.le_of_lt LT_4) _ _⟩
    · go_simp
      have LT_6 := hHeld.out.lt
      have Q_6 := Lib.hid (hHeld.out.alloc (.cells gzc 26))
      clear hHeld
      refine hK.out _ _ Q_6 (fun hHeld => ?_)
      clear hK K
      try simp only [Act.put, List.setIfInBounds_toArray, List.set_cons_zero, List.set_cons_succ]
      have G_6 : Hid (GB w3.heap.size gz (World.alloc (w3.drew) (.cells gzc 26))) := GB.new _ gz
      have b_6 := b3.alloc b3.size (.cells gzc 26)
      refine wpAnyH_ready (rs := [10]) (by kernel_rfl) (by simp) ?_
      refine AllReadyH.cons rfl (fun K hK => ?_) AllReadyH.nil
      go_simp
      refine (HR.out _).mono ?_
      rintro e y7 ⟨rfl, hb7⟩
      have Q_7 := Lib.hid (hHeld.out.keep hb7)
      have G_7 := Lib.hid (G_6.out.keep hb7)
      have b_7 := b_6.trans (hb7.mono b_6.size)
      clear hb7 hHeld
      refine hK.out _ _ Q_7 (fun hHeld => ?_)
      clear hK K
      try simp only [Act.put, List.setIfInBounds_toArray, List.set_cons_zero, List.set_cons_succ]
      refine takeH (i := 11) (d := some 50) (v := ?_) rfl rfl (by kernel_rfl) (by kernel_rfl) (by kernel_rfl) (fun _ _ _ h => h) (Or.inl ⟨by rfl, ?_⟩) hHeld ?_
      rotate_left
      · intro w' hSw; (try dsimp only at hSw); go_simp; try with_reducible rfl
      simp only [Act.put, List.setIfInBounds_toArray, List.set_cons_zero, List.set_cons_succ]
      refine wpAnyH_ready (rs := [12]) (by kernel_rfl) (by simp) ?_
      refine AllReadyH.cons rfl (fun K hK => ?_) AllReadyH.nil
      go_simp
      refine (HK.out _).mono ?_
      rintro e y8 ⟨rfl, hb8⟩
      have Q_8 := Lib.hid (hHeld.out.keep hb8)
      have G_8 := Lib.hid (G_7.out.keep hb8)
      have b_8 := b_7.trans (hb8.mono b_7.size)
      clear hb8 hHeld
      refine hK.out _ _ Q_8 (fun hHeld => ?_)
      clear hK K
      try simp only [Act.put, List.setIfInBounds_toArray, List.set_cons_zero, List.set_cons_succ]
      refine takeH (i := 13) (d := some 38) (v := ?_) rfl rfl (by kernel_rfl) (by kernel_rfl) (by kernel_rfl) (fun _ _ _ h => h) (Or.inl ⟨by rfl, ?_⟩) hHeld ?_
      rotate_left
      · intro w' hSw; (try dsimp only at hSw); go_simp; try with_reducible rfl
      simp only [Act.put, List.setIfInBounds_toArray, List.set_cons_zero, List.set_cons_succ]
      refine takeH (i := 14) (d := some 52) (v := ?_) rfl rfl (by kernel_rfl) (by kernel_rfl) (by kernel_rfl) (fun _ _ _ h => h) (Or.inl ⟨by rfl, ?_⟩) hHeld ?_
      rotate_left
      · intro w' hSw; (try dsimp only at hSw); go_simp; try with_reducible rfl
      simp only [Act.put, List.setIfInBounds_toArray, List.set_cons_zero, List.set_cons_succ]
      refine takeH (i := 15) (d := some 53) (v := ?_) rfl rfl (by kernel_rfl) (by kernel_rfl) (by kernel_rfl) (fun _ _ _ h => h) (Or.inl ⟨by rfl, ?_⟩) hHeld ?_
      rotate_left
      · intro w' hSw; (try dsimp only at hSw); go_simp; try with_reducible rfl
      simp only [Act.put, List.setIfInBounds_toArray, List.set_cons_zero, List.set_cons_succ]
      have TH : Hid (World.there (y8) (w3.heap.size) 0 5) := G_8.out.there
      refine wpAnyH_ready (rs := [17]) (by kernel_rfl) (by simp) ?_
      refine AllReadyH.cons rfl (fun K hK => ?_) AllReadyH.nil
      rw [if_pos (by rfl)]
      refine wp_store_mid _ _ _ rfl _ _ (gc gz) rfl rfl TH.out info26 (gc_one _) ?_
      have QS := Lib.hid (hHeld.out.setOther (Nat.ne_of_lt LT_6) (gc gz).toList)
      clear hHeld
      refine hK.out _ _ QS (fun hHeld => ?_)
      clear hK K
      try simp only [Act.put, List.setIfInBounds_toArray, List.set_cons_zero, List.set_cons_succ]
      refine takeH (i := 18) (d := some 12) (v := ?_) rfl rfl (by kernel_rfl) (by kernel_rfl) (by kernel_rfl) (fun _ _ _ h => h) (Or.inl ⟨by rfl, ?_⟩) hHeld ?_
      rotate_left
      · intro w' hSw; (try dsimp only at hSw); go_simp; try with_reducible rfl
      simp only [Act.put, List.setIfInBounds_toArray, List.set_cons_zero, List.set_cons_succ]
      refine wpAnyH_done (by kernel_rfl) ?_ _
      try dsimp only
      try go_wp2_with fail
      go_meet
      exact ⟨rfl, hHeld.out, below_setCells b_8 (Nat.le_of_lt LT_6) _ _⟩
  case rest =>
    obtain ⟨rfl, Q, b⟩ := hcut
    have Q1 := Lib.hid Q
    have x0 := Q.c0
    have x2 := Q.c2
    clear Q P3 b3
    go_wp2_with fail
    refine (HN.out _).mono ?_; rintro e w5 ⟨rfl, hb5⟩
    have b5 := b.trans (hb5.mono b.size)
    clear x0 x2
    by_cases h0 : r.size = 0
    · obtain rfl : c = 0 := hc.1 h0
      obtain rfl : r = ⟨#[]⟩ := ByteArray.ext (Array.eq_empty_of_size_eq_zero h0)
      go_wp2
      go_ret
      exact ⟨rfl, b5.alloc b5.size _⟩
    · obtain rfl : c = 4 := hc.2 (by omega)
      have her : r.toList.isEmpty = false := by
        rw [List.isEmpty_eq_false_iff]
        intro hx
        have := (toList_nil_iff_emptyBytes r).1 hx
        rw [this] at h0; simp at h0
      go_wp2
      go_ret
      exact ⟨rfl, b5.alloc b5.size _⟩

theorem short_walk (g : Gr) (at_ : Int) (r : ByteArray) (f : Fits g) (ha : -9223372036854775808 ≤ at_ ∧ at_ ≤ 9223372036854775807) (hr : r.size ≤ 140737488351232) (w : World) :
    Calls Try.prog 6 #[gv g, .int .i64 at_, .string r] w fun e w' => e = .returned (.bool true) ∧ Below w.heap.size w w' := by
  by_cases h : gchk g = 0
  · exact short_ok g f at_ ha r hr w h
  · exact short_bad g f at_ r w h
end Go.Proofs.Ytaijmccdlffjhaa
