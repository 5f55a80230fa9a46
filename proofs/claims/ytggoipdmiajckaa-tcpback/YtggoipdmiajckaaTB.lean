/-
  The walk of TcpBack.
-/
import Derived.Test.YtggoipdmiajckaaTA
import Derived.Test.YtggoipdmiajckaaOpen
import Derived.Deep.CutRange
namespace Go.Proofs.Ytggoipdmiajckaa
open Go.RowKit
set_option linter.unusedVariables false
set_option linter.unusedSimpArgs false

/-- Two blocks that hold the same segment. -/
structure G2 (a b : Nat) (g : Sg) (W : World) : Prop where
  x : GB a g W
  y : GB b g W
  l : a < b
theorem G2.keep {a b : Nat} {g : Sg} {W W1 : World} (h : G2 a b g W) (hb : Below W.heap.size W W1) : G2 a b g W1 := ⟨h.x.keep hb, h.y.keep hb, h.l⟩
theorem G2.lt {a b : Nat} {g : Sg} {W : World} (h : G2 a b g W) : b < W.heap.size := h.y.lt
theorem G2.alloc {a b : Nat} {g : Sg} {W : World} (h : G2 a b g W) (o : Obj) : G2 a b g (W.alloc o) := ⟨h.x.alloc o, h.y.alloc o, h.l⟩
theorem G2.drew {a b : Nat} {g : Sg} {W : World} (h : G2 a b g W) : G2 a b g W.drew := ⟨h.x, h.y, h.l⟩
theorem G2.setOther {a b k : Nat} {g : Sg} {W : World} (h : G2 a b g W) (hk : b < k) (l : List Value) : G2 a b g (W.setCells k 0 l) := ⟨h.x.setOther (Nat.ne_of_lt (Nat.lt_trans h.l hk)) l, h.y.setOther (Nat.ne_of_lt hk) l, h.l⟩
theorem G2.c0 {a b : Nat} {g : Sg} {W : World} (h : G2 a b g W) : W.cell? ⟨a, 0, none⟩ = some (.int .u32 (g.sa : Int)) := h.x.c0
theorem G2.c2 {a b : Nat} {g : Sg} {W : World} (h : G2 a b g W) : W.cell? ⟨a, 2, none⟩ = some (.int .u32 (g.da : Int)) := h.x.c2

set_option maxHeartbeats 4000000 in
theorem back_bad (g : Sg) (at_ bit : Int) (f : Fits g) (w : World) (h : gchk g ≠ 0) :
    Calls Try.prog 5 #[gv g, .int .i64 at_, .int .i64 bit] w fun e w' => e = .returned (.bool true) ∧ Below w.heap.size w w' := by
  have HA : Hid (∀ w', Calls Try.prog 8 #[gv g] w' fun e w'' => e = .returned (.tuple #[.string ⟨#[]⟩, .int .i64 (gchk g)]) ∧ Below w'.heap.size w' w'') := fun w' => write_bad g w' h
  have HB : Hid (∀ w', Calls Try.prog 14 #[.int .u32 0, .int .u32 0, .string ⟨#[]⟩] w' fun e w'' => e = .returned (.tuple #[.agg gzc, .int .i64 3]) ∧ Below w'.heap.size w' w'') := fun w' => read_none w'
  have HC : Hid (∀ w', Calls Try.prog 10 #[gv g] w' fun e w'' => e = .returned (.int .i64 (gchk g)) ∧ Below w'.heap.size w' w'') := fun w' => gchk_any g w'
  have b0 : Below w.heap.size w (w.alloc (.cells (gc g) 26)) := (Below.refl _ _).alloc (Nat.le_refl _) _
  have P0 := Lib.hid (GB.new w g)
  generalize gchk g = C at *
  have hne : (C != 0) = true := by simpa using h
  go_enter Try.func5, Try.ntmps5
  go_wp2_with fail
  refine (HA.out _).mono ?_; rintro e w1 ⟨rfl, hb1⟩
  have P1 := Lib.hid (P0.out.keep hb1)
  have b1 := b0.trans (hb1.mono (by simp))
  go_wp2_with fail
  refine (HB.out _).mono ?_; rintro e w2 ⟨rfl, hb2⟩
  have b2 := (b1.trans (hb2.mono b1.size)).alloc (b1.trans (hb2.mono b1.size)).size (.cells gzc 26)
  have P2 := Lib.hid ((P1.out.keep hb2).alloc (.cells gzc 26))
  have x0 := P2.out.c0
  have x1 := P2.out.c1
  have x2 := P2.out.c2
  have x3 := P2.out.c3
  have x4 := P2.out.c4
  have x5 := P2.out.c5
  have x6 := P2.out.c6
  have x7 := P2.out.c7
  have x8 := P2.out.c8
  have x9 := P2.out.c9
  have x10 := P2.out.c10
  have x11 := P2.out.c11
  have x12 := P2.out.c12
  clear P0 P1 b0 b1 hb1 hb2
  go_wp2_with fail
  refine (HC.out _).mono ?_; rintro e w3 ⟨rfl, hb3⟩
  have b3 := b2.trans (hb3.mono b2.size)
  go_wp2
  go_ret
  exact ⟨rfl, b3⟩

set_option maxHeartbeats 4000000 in
theorem back_ok (g : Sg) (at_ bit : Int) (f : Fits g) (ha : -9223372036854775808 ≤ at_ ∧ at_ ≤ 9223372036854775807) (hbit : -9223372036854775808 ≤ bit ∧ bit ≤ 9223372036854775807) (w : World) (h : gchk g = 0) :
    Calls Try.prog 5 #[gv g, .int .i64 at_, .int .i64 bit] w fun e w' => e = .returned (.bool true) ∧ Below w.heap.size w w' := by
  have HA : Hid (∀ w', Calls Try.prog 8 #[gv g] w' fun e w'' => e = .returned (.tuple #[.string (uw g), .int .i64 0]) ∧ Below w'.heap.size w' w'') := fun w' => write_ok g w' h f.sa f.da f.sq f.ak
  have HB : Hid (∀ w', Calls Try.prog 14 #[.int .u32 0, .int .u32 0, .string ⟨#[]⟩] w' fun e w'' => e = .returned (.tuple #[.agg gzc, .int .i64 3]) ∧ Below w'.heap.size w' w'') := fun w' => read_none w'
  have zu : 20 ≤ (uw g).size ∧ (uw g).size ≤ 2000 := by
    have := gchk_ok h
    have := wb_cases g
    rw [uw_sz]; omega
  have HR : Hid (∀ w', Calls Try.prog 14 #[.int .u32 (g.sa : Int), .int .u32 (g.da : Int), .string (uw g)] w' fun e w'' => e = .returned (.tuple #[gv g, .int .i64 0]) ∧ Below w'.heap.size w' w'') := fun w' => by
    have := read_any g.sa g.da (uw g) w' f.sa f.da (by omega)
    obtain ⟨t1, t2⟩ := there_err g h f.sq f.ak
    rw [t1, t2] at this
    exact this
  obtain ⟨T, J, hJ, hT, hJc⟩ : ∃ (T : ByteArray) (J : Int), J ≠ 0 ∧ (∀ w', Calls Try.prog 16 #[.string (uw g), .int .i64 at_, .int .i64 bit] w' fun e w'' => e = .returned (.string T) ∧ Below w'.heap.size w' w'') ∧ (∀ w', Calls Try.prog 14 #[.int .u32 (g.sa : Int), .int .u32 (g.da : Int), .string T] w' fun e w'' => e = .returned (.tuple #[.agg gzc, .int .i64 J]) ∧ Below w'.heap.size w' w'') := by
    obtain ⟨i, hi⟩ := Int.eq_ofNat_of_zero_le (Int.emod_nonneg at_ (show ((uw g).size : Int) ≠ 0 by omega))
    obtain ⟨k, hk⟩ := Int.eq_ofNat_of_zero_le (Int.emod_nonneg bit (show (8 : Int) ≠ 0 by omega))
    have hil : i < (uw g).size := by
      have := Int.emod_lt_of_pos at_ (show 0 < ((uw g).size : Int) by omega)
      omega
    have hk8 : k < 8 := by omega
    have he := flip_err g h f.sq f.ak i k hil hk8
    refine ⟨⟨(flip (uw g) i k hil).toArray⟩, rerr g.sa g.da ⟨(flip (uw g) i k hil).toArray⟩, he, fun w' => turned_any (uw g) at_ bit w' (by omega) (by omega) ha.1 ha.2 hbit.1 hbit.2 i k hi hk hil, fun w' => ?_⟩
    have zf : (⟨(flip (uw g) i k hil).toArray⟩ : ByteArray).size = (uw g).size := by
      show (flip (uw g) i k hil).toArray.size = _
      unfold flip; simp
    have := read_any g.sa g.da ⟨(flip (uw g) i k hil).toArray⟩ w' f.sa f.da (by omega)
    rw [rres_bad he] at this
    exact this
  have HT := Lib.hid hT
  have HJ := Lib.hid hJc
  have hj : (J != 0) = true := by simpa using hJ
  have b0 : Below w.heap.size w (w.alloc (.cells (gc g) 26)) := (Below.refl _ _).alloc (Nat.le_refl _) _
  have P0 := Lib.hid (GB.new w g)
  clear hT hJc hJ h f ha hbit
  have d1 : ¬ ((uw g).size : Int) < 20 := by omega
  generalize uw g = U at *
  go_enter Try.func5, Try.ntmps5
  go_wp2_with fail
  refine (HA.out _).mono ?_; rintro e w1 ⟨rfl, hb1⟩
  have P1 := Lib.hid (P0.out.keep hb1)
  have b1 := b0.trans (hb1.mono (by simp))
  go_wp2_with fail
  refine (HB.out _).mono ?_; rintro e w2 ⟨rfl, hb2⟩
  have b2 := (b1.trans (hb2.mono b1.size)).alloc (b1.trans (hb2.mono b1.size)).size (.cells gzc 26)
  have P2 := Lib.hid ((P1.out.keep hb2).alloc (.cells gzc 26))
  have x0 := P2.out.c0
  have x2 := P2.out.c2
  clear P0 P1 b0 b1 hb1 hb2
  go_wp2_with fail
  refine (HR.out _).mono ?_; rintro e w5 ⟨rfl, hb5⟩
  have P5 := Lib.hid (P2.out.keep hb5)
  have b5 := b2.trans (hb5.mono b2.size)
  have P6 : Hid (G2 w.heap.size w5.heap.size g (w5.alloc (.cells (gc g) 26)).drew) := ⟨P5.out.alloc _, GB.new _ _, P5.out.lt⟩
  have b6 : Below w.heap.size w (w5.alloc (.cells (gc g) 26)).drew := (b5.alloc b5.size _).drew
  clear x0 x2 P2 b2 hb5
  go_upto_region 10 with fail
  generalize w5.alloc (.cells (gc g) 26) = w6 at *
  generalize w5.heap.size = n5 at *
  go_cut [13, 14] from 50 to 63 (fun p v wc => v = .int .i64 J ∧ G2 w.heap.size n5 g wc ∧ Below w.heap.size w wc)
  case first =>
      refine wp_region_held_drew (S := fun w' => Hid (G2 w.heap.size n5 g w')) (by kernel_rfl) P6 (fun hHeld => ?_)
      refine takeH (i := 0) (d := some 51) (v := ?_) rfl rfl (by kernel_rfl) (by kernel_rfl) (by kernel_rfl) (fun _ _ _ h => h) (Or.inl ⟨by rfl, ?_⟩) hHeld ?_
      rotate_left
      · intro w' hSw; (try dsimp only at hSw); go_simp; try with_reducible rfl
      simp only [Act.put, List.setIfInBounds_toArray, List.set_cons_zero, List.set_cons_succ]
      refine takeH (i := 1) (d := some 52) (v := ?_) rfl rfl (by kernel_rfl) (by kernel_rfl) (by kernel_rfl) (fun _ _ _ h => h) (Or.inl ⟨by rfl, ?_⟩) hHeld ?_
      rotate_left
      · intro w' hSw; (try dsimp only at hSw); go_simp; try with_reducible rfl
      simp only [Act.put, List.setIfInBounds_toArray, List.set_cons_zero, List.set_cons_succ]
      refine takeH (i := 3) (d := some 54) (v := ?_) rfl rfl (by kernel_rfl) (by kernel_rfl) (by kernel_rfl) (fun _ _ _ h => h) (Or.inl ⟨by rfl, ?_⟩) hHeld ?_
      rotate_left
      · intro w' hSw; (try dsimp only at hSw); go_simp; try with_reducible rfl
      simp only [Act.put, List.setIfInBounds_toArray, List.set_cons_zero, List.set_cons_succ]
      refine takeH (i := 4) (d := some 55) (v := ?_) rfl rfl (by kernel_rfl) (by kernel_rfl) (by kernel_rfl) (fun _ _ _ h => h) (Or.inl ⟨by rfl, ?_⟩) hHeld ?_
      rotate_left
      · intro w' hSw; (try dsimp only at hSw); go_simp; try with_reducible rfl
      simp only [Act.put, List.setIfInBounds_toArray, List.set_cons_zero, List.set_cons_succ]
      refine takeH (i := 2) (d := some 53) (v := ?_) rfl rfl (by kernel_rfl) (by kernel_rfl) (by kernel_rfl) (fun _ _ _ h => h) (Or.inl ⟨by rfl, ?_⟩) hHeld ?_
      rotate_left
      · intro w' hSw; (try dsimp only at hSw); have hc := hSw.out.c0; clear hSw; go_simp; try with_reducible rfl
      simp only [Act.put, List.setIfInBounds_toArray, List.set_cons_zero, List.set_cons_succ]
      refine takeH (i := 5) (d := some 56) (v := ?_) rfl rfl (by kernel_rfl) (by kernel_rfl) (by kernel_rfl) (fun _ _ _ h => h) (Or.inl ⟨by rfl, ?_⟩) hHeld ?_
      rotate_left
      · intro w' hSw; (try dsimp only at hSw); have hc := hSw.out.c2; clear hSw; go_simp; try with_reducible rfl
      simp only [Act.put, List.setIfInBounds_toArray, List.set_cons_zero, List.set_cons_succ]
      refine takeH (i := 6) (d := some 57) (v := ?_) rfl rfl (by kernel_rfl) (by kernel_rfl) (by kernel_rfl) (fun _ _ _ h => h) (Or.inl ⟨by rfl, ?_⟩) hHeld ?_
      rotate_left
      · intro w' hSw; (try dsimp only at hSw); go_simp; try with_reducible rfl
      simp only [Act.put, List.setIfInBounds_toArray, List.set_cons_zero, List.set_cons_succ]
      refine takeH (i := 7) (d := some 58) (v := ?_) rfl rfl (by kernel_rfl) (by kernel_rfl) (by kernel_rfl) (fun _ _ _ h => h) (Or.inl ⟨by rfl, ?_⟩) hHeld ?_
      rotate_left
      · intro w' hSw; (try dsimp only at hSw); go_simp; try with_reducible rfl
      simp only [Act.put, List.setIfInBounds_toArray, List.set_cons_zero, List.set_cons_succ]
      refine takeH (i := 8) (d := some 59) (v := ?_) rfl rfl (by kernel_rfl) (by kernel_rfl) (by kernel_rfl) (fun _ _ _ h => h) (Or.inl ⟨by rfl, ?_⟩) hHeld ?_
      rotate_left
      · intro w' hSw; (try dsimp only at hSw); go_simp; try with_reducible rfl
      simp only [Act.put, List.setIfInBounds_toArray, List.set_cons_zero, List.set_cons_succ]
      refine wpAnyH_ready (rs := [9, 14]) (by kernel_rfl) (by simp) ?_
      refine AllReadyH.cons rfl (fun K hK => ?_) (AllReadyH.cons rfl (fun K hK => ?_) AllReadyH.nil)
      · go_simp
        refine (HT.out _).mono ?_
        rintro e y1 ⟨rfl, hb1⟩
        have Q_1 := Lib.hid (hHeld.out.keep hb1)
        have b_1 := b6.trans (hb1.mono b6.size)
        clear hb1 hHeld
        refine hK.out _ _ Q_1 (fun hHeld => ?_)
        clear hK K
        try simp only [Act.put, List.setIfInBounds_toArray, List.set_cons_zero, List.set_cons_succ]
        refine wpAnyH_ready (rs := [10, 14]) (by kernel_rfl) (by simp) ?_
        refine AllReadyH.cons rfl (fun K hK => ?_) (AllReadyH.cons rfl (fun K hK => ?_) AllReadyH.nil)
        · go_simp
          refine (HJ.out _).mono ?_
          rintro e y2 ⟨rfl, hb2⟩
          have Q_2 := Lib.hid (hHeld.out.keep hb2)
          have b_2 := b_1.trans (hb2.mono b_1.size)
          clear hb2 hHeld
          refine hK.out _ _ Q_2 (fun hHeld => ?_)
          clear hK K
          try simp only [Act.put, List.setIfInBounds_toArray, List.set_cons_zero, List.set_cons_succ]
          refine takeH (i := 11) (d := some 50) (v := ?_) rfl rfl (by kernel_rfl) (by kernel_rfl) (by kernel_rfl) (fun _ _ _ h => h) (Or.inl ⟨by rfl, ?_⟩) hHeld ?_
          rotate_left
          · intro w' hSw; (try dsimp only at hSw); go_simp; try with_reducible rfl
          simp only [Act.put, List.setIfInBounds_toArray, List.set_cons_zero, List.set_cons_succ]
          refine takeH (i := 12) (d := some 62) (v := ?_) rfl rfl (by kernel_rfl) (by kernel_rfl) (by kernel_rfl) (fun _ _ _ h => h) (Or.inl ⟨by rfl, ?_⟩) hHeld ?_
          rotate_left
          · intro w' hSw; (try dsimp only at hSw); go_simp; try with_reducible rfl
          simp only [Act.put, List.setIfInBounds_toArray, List.set_cons_zero, List.set_cons_succ]
          refine takeH (i := 13) (d := some 63) (v := ?_) rfl rfl (by kernel_rfl) (by kernel_rfl) (by kernel_rfl) (fun _ _ _ h => h) (Or.inl ⟨by rfl, ?_⟩) hHeld ?_
          rotate_left
          · intro w' hSw; (try dsimp only at hSw); go_simp; try with_reducible rfl
          simp only [Act.put, List.setIfInBounds_toArray, List.set_cons_zero, List.set_cons_succ]
          refine wpAnyH_ready (rs := [14]) (by kernel_rfl) (by simp) ?_
          refine AllReadyH.cons rfl (fun K hK => ?_) AllReadyH.nil
          go_simp
          have LT_3 := hHeld.out.lt
          have Q_3 := Lib.hid (hHeld.out.alloc (.cells gzc 26))
          clear hHeld
          refine hK.out _ _ Q_3 (fun hHeld => ?_)
          clear hK K
          try simp only [Act.put, List.setIfInBounds_toArray, List.set_cons_zero, List.set_cons_succ]
          have G_3 : Hid (GB y2.heap.size gz (World.alloc (y2) (.cells gzc 26))) := GB.new _ gz
          have b_3 := b_2.alloc b_2.size (.cells gzc 26)
          have TH : Hid (World.there (World.alloc (y2) (.cells gzc 26)) (y2.heap.size) 0 13) := G_3.out.there
          refine wpAnyH_ready (rs := [15]) (by kernel_rfl) (by simp) ?_
          refine AllReadyH.cons rfl (fun K hK => ?_) AllReadyH.nil
          rw [if_pos (by rfl)]
          refine wp_store_mid _ _ _ rfl _ _ (gc gz) rfl rfl TH.out info26 (gc_one _) ?_
          have QS := Lib.hid (hHeld.out.setOther (LT_3) (gc gz).toList)
          clear hHeld
          refine hK.out _ _ QS (fun hHeld => ?_)
          clear hK K
          try simp only [Act.put, List.setIfInBounds_toArray, List.set_cons_zero, List.set_cons_succ]
          refine takeH (i := 16) (d := some 14) (v := ?_) rfl rfl (by kernel_rfl) (by kernel_rfl) (by kernel_rfl) (fun _ _ _ h => h) (Or.inl ⟨by rfl, ?_⟩) hHeld ?_
          rotate_left
          · intro w' hSw; (try dsimp only at hSw); go_simp; try with_reducible rfl
          simp only [Act.put, List.setIfInBounds_toArray, List.set_cons_zero, List.set_cons_succ]
          refine wpAnyH_done (by kernel_rfl) ?_ _
          try dsimp only
          try go_wp2_with fail
          go_meet
          exact ⟨rfl, hHeld.out, below_setCells b_3 (Nat.le_of_lt (Nat.lt_trans hHeld.out.l LT_3)) _ _⟩
        · go_simp
          have LT_4 := hHeld.out.lt
          have Q_4 := Lib.hid (hHeld.out.alloc (.cells gzc 26))
          clear hHeld
          refine hK.out _ _ Q_4 (fun hHeld => ?_)
          clear hK K
          try simp only [Act.put, List.setIfInBounds_toArray, List.set_cons_zero, List.set_cons_succ]
          have G_4 : Hid (GB y1.heap.size gz (World.alloc (y1) (.cells gzc 26))) := GB.new _ gz
          have b_4 := b_1.alloc b_1.size (.cells gzc 26)
          refine wpAnyH_ready (rs := [10]) (by kernel_rfl) (by simp) ?_
          refine AllReadyH.cons rfl (fun K hK => ?_) AllReadyH.nil
          go_simp
          refine (HJ.out _).mono ?_
          rintro e y5 ⟨rfl, hb5⟩
          have Q_5 := Lib.hid (hHeld.out.keep hb5)
          have G_5 := Lib.hid (G_4.out.keep hb5)
          have b_5 := b_4.trans (hb5.mono b_4.size)
          clear hb5 hHeld
          refine hK.out _ _ Q_5 (fun hHeld => ?_)
          clear hK K
          try simp only [Act.put, List.setIfInBounds_toArray, List.set_cons_zero, List.set_cons_succ]
          refine takeH (i := 11) (d := some 50) (v := ?_) rfl rfl (by kernel_rfl) (by kernel_rfl) (by kernel_rfl) (fun _ _ _ h => h) (Or.inl ⟨by rfl, ?_⟩) hHeld ?_
          rotate_left
          · intro w' hSw; (try dsimp only at hSw); go_simp; try with_reducible rfl
          simp only [Act.put, List.setIfInBounds_toArray, List.set_cons_zero, List.set_cons_succ]
          refine takeH (i := 12) (d := some 62) (v := ?_) rfl rfl (by kernel_rfl) (by kernel_rfl) (by kernel_rfl) (fun _ _ _ h => h) (Or.inl ⟨by rfl, ?_⟩) hHeld ?_
          rotate_left
          · intro w' hSw; (try dsimp only at hSw); go_simp; try with_reducible rfl
          simp only [Act.put, List.setIfInBounds_toArray, List.set_cons_zero, List.set_cons_succ]
          refine takeH (i := 13) (d := some 63) (v := ?_) rfl rfl (by kernel_rfl) (by kernel_rfl) (by kernel_rfl) (fun _ _ _ h => h) (Or.inl ⟨by rfl, ?_⟩) hHeld ?_
          rotate_left
          · intro w' hSw; (try dsimp only at hSw); go_simp; try with_reducible rfl
          simp only [Act.put, List.setIfInBounds_toArray, List.set_cons_zero, List.set_cons_succ]
          have TH : Hid (World.there (y5) (y1.heap.size) 0 13) := G_5.out.there
          refine wpAnyH_ready (rs := [15]) (by kernel_rfl) (by simp) ?_
          refine AllReadyH.cons rfl (fun K hK => ?_) AllReadyH.nil
          rw [if_pos (by rfl)]
          refine wp_store_mid _ _ _ rfl _ _ (gc gz) rfl rfl TH.out info26 (gc_one _) ?_
          have QS := Lib.hid (hHeld.out.setOther (LT_4) (gc gz).toList)
          clear hHeld
          refine hK.out _ _ QS (fun hHeld => ?_)
          clear hK K
          try simp only [Act.put, List.setIfInBounds_toArray, List.set_cons_zero, List.set_cons_succ]
          refine takeH (i := 16) (d := some 14) (v := ?_) rfl rfl (by kernel_rfl) (by kernel_rfl) (by kernel_rfl) (fun _ _ _ h => h) (Or.inl ⟨by rfl, ?_⟩) hHeld ?_
          rotate_left
          · intro w' hSw; (try dsimp only at hSw); go_simp; try with_reducible rfl
          simp only [Act.put, List.setIfInBounds_toArray, List.set_cons_zero, List.set_cons_succ]
          refine wpAnyH_done (by kernel_rfl) ?_ _
          try dsimp only
          try go_wp2_with fail
          go_meet
          exact ⟨rfl, hHeld.out, below_setCells b_5 (Nat.le_of_lt (Nat.lt_trans hHeld.out.l LT_4)) _ _⟩
      · go_simp
        have LT_6 := hHeld.out.lt
        have Q_6 := Lib.hid (hHeld.out.alloc (.cells gzc 26))
        clear hHeld
        refine hK.out _ _ Q_6 (fun hHeld => ?_)
        clear hK K
        try simp only [Act.put, List.setIfInBounds_toArray, List.set_cons_zero, List.set_cons_succ]
        have G_6 : Hid (GB w6.heap.size gz (World.alloc (w6.drew) (.cells gzc 26))) := GB.new _ gz
        have b_6 := b6.alloc b6.size (.cells gzc 26)
        refine wpAnyH_ready (rs := [9]) (by kernel_rfl) (by simp) ?_
        refine AllReadyH.cons rfl (fun K hK => ?_) AllReadyH.nil
        go_simp
        refine (HT.out _).mono ?_
        rintro e y7 ⟨rfl, hb7⟩
        have Q_7 := Lib.hid (hHeld.out.keep hb7)
        have G_7 := Lib.hid (G_6.out.keep hb7)
        have b_7 := b_6.trans (hb7.mono b_6.size)
        clear hb7 hHeld
        refine hK.out _ _ Q_7 (fun hHeld => ?_)
        clear hK K
        try simp only [Act.put, List.setIfInBounds_toArray, List.set_cons_zero, List.set_cons_succ]
        refine wpAnyH_ready (rs := [10]) (by kernel_rfl) (by simp) ?_
        refine AllReadyH.cons rfl (fun K hK => ?_) AllReadyH.nil
        go_simp
        refine (HJ.out _).mono ?_
        rintro e y8 ⟨rfl, hb8⟩
        have Q_8 := Lib.hid (hHeld.out.keep hb8)
        have G_8 := Lib.hid (G_7.out.keep hb8)
        have b_8 := b_7.trans (hb8.mono b_7.size)
        clear hb8 hHeld
        refine hK.out _ _ Q_8 (fun hHeld => ?_)
        clear hK K
        try simp only [Act.put, List.setIfInBounds_toArray, List.set_cons_zero, List.set_cons_succ]
        refine takeH (i := 11) (d := some 50) (v := ?_) rfl rfl (by kernel_rfl) (by kernel_rfl) (by kernel_rfl) (fun _ _ _ h => h) (Or.inl ⟨by rfl, ?_⟩) hHeld ?_
        rotate_left
        · intro w' hSw; (try dsimp only at hSw); go_simp; try with_reducible rfl
        simp only [Act.put, List.setIfInBounds_toArray, List.set_cons_zero, List.set_cons_succ]
        refine takeH (i := 12) (d := some 62) (v := ?_) rfl rfl (by kernel_rfl) (by kernel_rfl) (by kernel_rfl) (fun _ _ _ h => h) (Or.inl ⟨by rfl, ?_⟩) hHeld ?_
        rotate_left
        · intro w' hSw; (try dsimp only at hSw); go_simp; try with_reducible rfl
        simp only [Act.put, List.setIfInBounds_toArray, List.set_cons_zero, List.set_cons_succ]
        refine takeH (i := 13) (d := some 63) (v := ?_) rfl rfl (by kernel_rfl) (by kernel_rfl) (by kernel_rfl) (fun _ _ _ h => h) (Or.inl ⟨by rfl, ?_⟩) hHeld ?_
        rotate_left
        · intro w' hSw; (try dsimp only at hSw); go_simp; try with_reducible rfl
        simp only [Act.put, List.setIfInBounds_toArray, List.set_cons_zero, List.set_cons_succ]
        have TH : Hid (World.there (y8) (w6.heap.size) 0 13) := G_8.out.there
        refine wpAnyH_ready (rs := [15]) (by kernel_rfl) (by simp) ?_
        refine AllReadyH.cons rfl (fun K hK => ?_) AllReadyH.nil
        rw [if_pos (by rfl)]
        refine wp_store_mid _ _ _ rfl _ _ (gc gz) rfl rfl TH.out info26 (gc_one _) ?_
        have QS := Lib.hid (hHeld.out.setOther (LT_6) (gc gz).toList)
        clear hHeld
        refine hK.out _ _ QS (fun hHeld => ?_)
        clear hK K
        try simp only [Act.put, List.setIfInBounds_toArray, List.set_cons_zero, List.set_cons_succ]
        refine takeH (i := 16) (d := some 14) (v := ?_) rfl rfl (by kernel_rfl) (by kernel_rfl) (by kernel_rfl) (fun _ _ _ h => h) (Or.inl ⟨by rfl, ?_⟩) hHeld ?_
        rotate_left
        · intro w' hSw; (try dsimp only at hSw); go_simp; try with_reducible rfl
        simp only [Act.put, List.setIfInBounds_toArray, List.set_cons_zero, List.set_cons_succ]
        refine wpAnyH_done (by kernel_rfl) ?_ _
        try dsimp only
        try go_wp2_with fail
        go_meet
        exact ⟨rfl, hHeld.out, below_setCells b_8 (Nat.le_of_lt (Nat.lt_trans hHeld.out.l LT_6)) _ _⟩
  case rest =>
    obtain ⟨rfl, Q7, b7⟩ := hcut
    have x0 := Q7.x.c0
    have y0 := Q7.y.c0
    have x1 := Q7.x.c1
    have y1 := Q7.y.c1
    have x2 := Q7.x.c2
    have y2 := Q7.y.c2
    have x3 := Q7.x.c3
    have y3 := Q7.y.c3
    have x4 := Q7.x.c4
    have y4 := Q7.y.c4
    have x5 := Q7.x.c5
    have y5 := Q7.y.c5
    have x6 := Q7.x.c6
    have y6 := Q7.y.c6
    have x7 := Q7.x.c7
    have y7 := Q7.y.c7
    have x8 := Q7.x.c8
    have y8 := Q7.y.c8
    have x9 := Q7.x.c9
    have y9 := Q7.y.c9
    have x10 := Q7.x.c10
    have y10 := Q7.y.c10
    have x11 := Q7.x.c11
    have y11 := Q7.y.c11
    have x12 := Q7.x.c12
    have y12 := Q7.y.c12
    clear Q7 P6 b6
    go_wp2
    go_ret
    exact ⟨rfl, b7⟩

theorem back_walk (g : Sg) (at_ bit : Int) (f : Fits g) (ha : -9223372036854775808 ≤ at_ ∧ at_ ≤ 9223372036854775807) (hbit : -9223372036854775808 ≤ bit ∧ bit ≤ 9223372036854775807) (w : World) :
    Calls Try.prog 5 #[gv g, .int .i64 at_, .int .i64 bit] w fun e w' => e = .returned (.bool true) ∧ Below w.heap.size w w' := by
  by_cases h : gchk g = 0
  · exact back_ok g at_ bit f ha hbit w h
  · exact back_bad g at_ bit f w h
end Go.Proofs.Ytggoipdmiajckaa
