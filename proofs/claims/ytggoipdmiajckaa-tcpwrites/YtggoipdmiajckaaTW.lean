/-
  The walk of TcpWrites.
-/
import Derived.Test.YtggoipdmiajckaaRWa
import Derived.Test.YtggoipdmiajckaaRWb
import Derived.Test.YtggoipdmiajckaaOpen
import Derived.Test.YtggoipdmiajckaaLg
namespace Go.Proofs.Ytggoipdmiajckaa
open Go.RowKit
set_option linter.unusedVariables false
set_option linter.unusedSimpArgs false

theorem rwrite_any (g : Sg) (w : World) (hsa : g.sa < 4294967296) (hda : g.da < 4294967296) (hsq : g.sq < 4294967296) (hak : g.ak < 4294967296) :
    Calls Try.prog 9 #[gv g] w fun e w' => e = .returned (.tuple #[.string (wtx g), .int .i64 (gchk g)]) ∧ Below w.heap.size w w' := by
  by_cases h : gchk g = 0
  · unfold wtx; rw [if_pos h, h]
    by_cases hm : g.mss = 0
    · exact rwrite_n g w h hsa hda hsq hak hm
    · exact rwrite_m g w h hsa hda hsq hak hm
  · unfold wtx; rw [if_neg h]; exact rwrite_bad g w h

set_option maxHeartbeats 4000000 in
theorem writes_walk (g : Sg) (f : Fits g) (w : World) :
    Calls Try.prog 3 #[gv g] w fun e w' => e = .returned (.bool true) ∧ Below w.heap.size w w' := by
  have HA : Hid (∀ w', Calls Try.prog 8 #[gv g] w' fun e w'' => e = .returned (.tuple #[.string (wtx g), .int .i64 (gchk g)]) ∧ Below w'.heap.size w' w'') := fun w' => write_any g w' f.sa f.da f.sq f.ak
  have HB : Hid (∀ w', Calls Try.prog 9 #[gv g] w' fun e w'' => e = .returned (.tuple #[.string (wtx g), .int .i64 (gchk g)]) ∧ Below w'.heap.size w' w'') := fun w' => rwrite_any g w' f.sa f.da f.sq f.ak
  have HC : Hid (∀ w', Calls Try.prog 10 #[gv g] w' fun e w'' => e = .returned (.int .i64 (gchk g)) ∧ Below w'.heap.size w' w'') := fun w' => gchk_any g w'
  have HD : Hid (∀ w', Calls Try.prog 11 #[gv g] w' fun e w'' => e = .returned (.int .i64 (gchk g)) ∧ Below w'.heap.size w' w'') := fun w' => rchk_any g w'
  have hbody := f.body
  have HE : Hid (∀ w', Calls Try.prog 12 #[gv g] w' fun e w'' => e = .returned (.int .i64 (lnw g)) ∧ Below w'.heap.size w' w'') := fun w' => lengthw_any g w' hbody
  have HF : Hid (∀ w', Calls Try.prog 13 #[gv g] w' fun e w'' => e = .returned (.int .i64 (lnw g)) ∧ Below w'.heap.size w' w'') := fun w' => rlengthw_any g w' hbody
  have b0 : Below w.heap.size w (w.alloc (.cells (gc g) 26)) := (Below.refl _ _).alloc (Nat.le_refl _) _
  have P0 := Lib.hid (GB.new w g)
  generalize gchk g = C at *
  generalize wtx g = X at *
  generalize lnw g = L at *
  clear hbody
  go_enter Try.func3, Try.ntmps3
  go_wp2_with fail
  refine (HA.out _).mono ?_; rintro e w1 ⟨rfl, hb1⟩
  have P1 := Lib.hid (P0.out.keep hb1)
  have b1 := b0.trans (hb1.mono (by simp))
  have x0 := P1.out.c0
  have x1 := P1.out.c1
  have x2 := P1.out.c2
  have x3 := P1.out.c3
  have x4 := P1.out.c4
  have x5 := P1.out.c5
  have x6 := P1.out.c6
  have x7 := P1.out.c7
  have x8 := P1.out.c8
  have x9 := P1.out.c9
  have x10 := P1.out.c10
  have x11 := P1.out.c11
  have x12 := P1.out.c12
  go_wp2_with fail
  refine (HB.out _).mono ?_; rintro e w2 ⟨rfl, hb2⟩
  have P2 := Lib.hid (P1.out.keep hb2)
  have b2 := b1.trans (hb2.mono (Nat.le_of_lt P1.out.lt))
  clear hb1 hb2 P0 P1 b0 b1 x0 x1 x2 x3 x4 x5 x6 x7 x8 x9 x10 x11 x12
  go_wp2_with fail
  refine wp_region_held_drew (S := fun w' => Hid (GB w.heap.size g w')) (by kernel_rfl) (Lib.hid P2.out.drew) (fun hHeld => ?_)
  refine takeH (i := 0) (d := some 17) (v := ?_) rfl rfl (by kernel_rfl) (by kernel_rfl) (by kernel_rfl) (fun _ _ _ h => h) (Or.inl ⟨by rfl, ?_⟩) hHeld ?_
  rotate_left
  · intro w' hSw; (try dsimp only at hSw); go_simp; try with_reducible rfl
  simp only [Act.put, List.setIfInBounds_toArray, List.set_cons_zero, List.set_cons_succ]
  refine takeH (i := 1) (d := some 18) (v := ?_) rfl rfl (by kernel_rfl) (by kernel_rfl) (by kernel_rfl) (fun _ _ _ h => h) (Or.inl ⟨by rfl, ?_⟩) hHeld ?_
  rotate_left
  · intro w' hSw; (try dsimp only at hSw); go_simp; try with_reducible rfl
  simp only [Act.put, List.setIfInBounds_toArray, List.set_cons_zero, List.set_cons_succ]
  refine takeH (i := 2) (d := some 19) (v := ?_) rfl rfl (by kernel_rfl) (by kernel_rfl) (by kernel_rfl) (fun _ _ _ h => h) (Or.inl ⟨by rfl, ?_⟩) hHeld ?_
  rotate_left
  · intro w' hSw; (try dsimp only at hSw); go_simp; try with_reducible rfl
  simp only [Act.put, List.setIfInBounds_toArray, List.set_cons_zero, List.set_cons_succ]
  refine takeH (i := 3) (d := some 20) (v := ?_) rfl rfl (by kernel_rfl) (by kernel_rfl) (by kernel_rfl) (fun _ _ _ h => h) (Or.inl ⟨by rfl, ?_⟩) hHeld ?_
  rotate_left
  · intro w' hSw; (try dsimp only at hSw); go_simp; try with_reducible rfl
  simp only [Act.put, List.setIfInBounds_toArray, List.set_cons_zero, List.set_cons_succ]
  refine takeH (i := 4) (d := some 21) (v := ?_) rfl rfl (by kernel_rfl) (by kernel_rfl) (by kernel_rfl) (fun _ _ _ h => h) (Or.inl ⟨by rfl, ?_⟩) hHeld ?_
  rotate_left
  · intro w' hSw; (try dsimp only at hSw); go_simp; try with_reducible rfl
  simp only [Act.put, List.setIfInBounds_toArray, List.set_cons_zero, List.set_cons_succ]
  refine takeH (i := 5) (d := some 22) (v := ?_) rfl rfl (by kernel_rfl) (by kernel_rfl) (by kernel_rfl) (fun _ _ _ h => h) (Or.inl ⟨by rfl, ?_⟩) hHeld ?_
  rotate_left
  · intro w' hSw; (try dsimp only at hSw); go_simp; try with_reducible rfl
  simp only [Act.put, List.setIfInBounds_toArray, List.set_cons_zero, List.set_cons_succ]
  refine takeH (i := 6) (d := some 23) (v := ?_) rfl rfl (by kernel_rfl) (by kernel_rfl) (by kernel_rfl) (fun _ _ _ h => h) (Or.inl ⟨by rfl, ?_⟩) hHeld ?_
  rotate_left
  · intro w' hSw; (try dsimp only at hSw); go_simp; try with_reducible rfl
  simp only [Act.put, List.setIfInBounds_toArray, List.set_cons_zero, List.set_cons_succ]
  refine takeH (i := 7) (d := some 24) (v := ?_) rfl rfl (by kernel_rfl) (by kernel_rfl) (by kernel_rfl) (fun _ _ _ h => h) (Or.inl ⟨by rfl, ?_⟩) hHeld ?_
  rotate_left
  · intro w' hSw; (try dsimp only at hSw); go_simp; try with_reducible rfl
  simp only [Act.put, List.setIfInBounds_toArray, List.set_cons_zero, List.set_cons_succ]
  refine takeH (i := 8) (d := some 25) (v := ?_) rfl rfl (by kernel_rfl) (by kernel_rfl) (by kernel_rfl) (fun _ _ _ h => h) (Or.inl ⟨by rfl, ?_⟩) hHeld ?_
  rotate_left
  · intro w' hSw; (try dsimp only at hSw); go_simp; try with_reducible rfl
  simp only [Act.put, List.setIfInBounds_toArray, List.set_cons_zero, List.set_cons_succ]
  refine takeH (i := 9) (d := some 26) (v := ?_) rfl rfl (by kernel_rfl) (by kernel_rfl) (by kernel_rfl) (fun _ _ _ h => h) (Or.inl ⟨by rfl, ?_⟩) hHeld ?_
  rotate_left
  · intro w' hSw; (try dsimp only at hSw); have h0 := hSw.out.c0; have h1 := hSw.out.c1; have h2 := hSw.out.c2; have h3 := hSw.out.c3; have h4 := hSw.out.c4; have h5 := hSw.out.c5; have h6 := hSw.out.c6; have h7 := hSw.out.c7; have h8 := hSw.out.c8; have h9 := hSw.out.c9; have h10 := hSw.out.c10; have h11 := hSw.out.c11; have h12 := hSw.out.c12; clear hSw; go_simp; try with_reducible rfl
  simp only [Act.put, List.setIfInBounds_toArray, List.set_cons_zero, List.set_cons_succ]
  refine takeH (i := 11) (d := some 28) (v := ?_) rfl rfl (by kernel_rfl) (by kernel_rfl) (by kernel_rfl) (fun _ _ _ h => h) (Or.inl ⟨by rfl, ?_⟩) hHeld ?_
  rotate_left
  · intro w' hSw; (try dsimp only at hSw); have h0 := hSw.out.c0; have h1 := hSw.out.c1; have h2 := hSw.out.c2; have h3 := hSw.out.c3; have h4 := hSw.out.c4; have h5 := hSw.out.c5; have h6 := hSw.out.c6; have h7 := hSw.out.c7; have h8 := hSw.out.c8; have h9 := hSw.out.c9; have h10 := hSw.out.c10; have h11 := hSw.out.c11; have h12 := hSw.out.c12; clear hSw; go_simp; try with_reducible rfl
  simp only [Act.put, List.setIfInBounds_toArray, List.set_cons_zero, List.set_cons_succ]
  refine wpAnyH_ready (rs := [10]) (by kernel_rfl) (by simp) ?_
  refine AllReadyH.cons rfl (fun K hK => ?_) AllReadyH.nil
  go_simp
  refine (HC.out _).mono ?_; rintro e y1 ⟨rfl, hb1⟩
  have Q_1 := Lib.hid (hHeld.out.keep hb1)
  have b_1 := b2.drew.trans (hb1.mono b2.drew.size)
  clear hHeld hb1
  refine hK.out _ _ Q_1 (fun hHeld => ?_)
  clear hK K
  try simp only [Act.put, List.setIfInBounds_toArray, List.set_cons_zero, List.set_cons_succ]
  refine wpAnyH_ready (rs := [12]) (by kernel_rfl) (by simp) ?_
  refine AllReadyH.cons rfl (fun K hK => ?_) AllReadyH.nil
  go_simp
  refine (HD.out _).mono ?_; rintro e y2 ⟨rfl, hb2⟩
  have Q_2 := Lib.hid (hHeld.out.keep hb2)
  have b_2 := b_1.trans (hb2.mono b_1.size)
  clear hHeld hb2
  refine hK.out _ _ Q_2 (fun hHeld => ?_)
  clear hK K
  try simp only [Act.put, List.setIfInBounds_toArray, List.set_cons_zero, List.set_cons_succ]
  refine takeH (i := 13) (d := some 30) (v := ?_) rfl rfl (by kernel_rfl) (by kernel_rfl) (by kernel_rfl) (fun _ _ _ h => h) (Or.inl ⟨by rfl, ?_⟩) hHeld ?_
  rotate_left
  · intro w' hSw; (try dsimp only at hSw); go_simp; try with_reducible rfl
  simp only [Act.put, List.setIfInBounds_toArray, List.set_cons_zero, List.set_cons_succ]
  refine takeH (i := 14) (d := some 31) (v := ?_) rfl rfl (by kernel_rfl) (by kernel_rfl) (by kernel_rfl) (fun _ _ _ h => h) (Or.inl ⟨by rfl, ?_⟩) hHeld ?_
  rotate_left
  · intro w' hSw; (try dsimp only at hSw); go_simp; try with_reducible rfl
  simp only [Act.put, List.setIfInBounds_toArray, List.set_cons_zero, List.set_cons_succ]
  refine takeH (i := 15) (d := some 32) (v := ?_) rfl rfl (by kernel_rfl) (by kernel_rfl) (by kernel_rfl) (fun _ _ _ h => h) (Or.inl ⟨by rfl, ?_⟩) hHeld ?_
  rotate_left
  · intro w' hSw; (try dsimp only at hSw); go_simp; try with_reducible rfl
  simp only [Act.put, List.setIfInBounds_toArray, List.set_cons_zero, List.set_cons_succ]
  refine takeH (i := 16) (d := some 33) (v := ?_) rfl rfl (by kernel_rfl) (by kernel_rfl) (by kernel_rfl) (fun _ _ _ h => h) (Or.inl ⟨by rfl, ?_⟩) hHeld ?_
  rotate_left
  · intro w' hSw; (try dsimp only at hSw); have h0 := hSw.out.c0; have h1 := hSw.out.c1; have h2 := hSw.out.c2; have h3 := hSw.out.c3; have h4 := hSw.out.c4; have h5 := hSw.out.c5; have h6 := hSw.out.c6; have h7 := hSw.out.c7; have h8 := hSw.out.c8; have h9 := hSw.out.c9; have h10 := hSw.out.c10; have h11 := hSw.out.c11; have h12 := hSw.out.c12; clear hSw; go_simp; try with_reducible rfl
  simp only [Act.put, List.setIfInBounds_toArray, List.set_cons_zero, List.set_cons_succ]
  refine takeH (i := 18) (d := some 35) (v := ?_) rfl rfl (by kernel_rfl) (by kernel_rfl) (by kernel_rfl) (fun _ _ _ h => h) (Or.inl ⟨by rfl, ?_⟩) hHeld ?_
  rotate_left
  · intro w' hSw; (try dsimp only at hSw); have h0 := hSw.out.c0; have h1 := hSw.out.c1; have h2 := hSw.out.c2; have h3 := hSw.out.c3; have h4 := hSw.out.c4; have h5 := hSw.out.c5; have h6 := hSw.out.c6; have h7 := hSw.out.c7; have h8 := hSw.out.c8; have h9 := hSw.out.c9; have h10 := hSw.out.c10; have h11 := hSw.out.c11; have h12 := hSw.out.c12; clear hSw; go_simp; try with_reducible rfl
  simp only [Act.put, List.setIfInBounds_toArray, List.set_cons_zero, List.set_cons_succ]
  refine wpAnyH_ready (rs := [17]) (by kernel_rfl) (by simp) ?_
  refine AllReadyH.cons rfl (fun K hK => ?_) AllReadyH.nil
  go_simp
  refine (HE.out _).mono ?_; rintro e y3 ⟨rfl, hb3⟩
  have Q_3 := Lib.hid (hHeld.out.keep hb3)
  have b_3 := b_2.trans (hb3.mono b_2.size)
  clear hHeld hb3
  refine hK.out _ _ Q_3 (fun hHeld => ?_)
  clear hK K
  try simp only [Act.put, List.setIfInBounds_toArray, List.set_cons_zero, List.set_cons_succ]
  refine wpAnyH_ready (rs := [19]) (by kernel_rfl) (by simp) ?_
  refine AllReadyH.cons rfl (fun K hK => ?_) AllReadyH.nil
  go_simp
  refine (HF.out _).mono ?_; rintro e y4 ⟨rfl, hb4⟩
  have Q_4 := Lib.hid (hHeld.out.keep hb4)
  have b_4 := b_3.trans (hb4.mono b_3.size)
  clear hHeld hb4
  refine hK.out _ _ Q_4 (fun hHeld => ?_)
  clear hK K
  try simp only [Act.put, List.setIfInBounds_toArray, List.set_cons_zero, List.set_cons_succ]
  refine takeH (i := 20) (d := some 37) (v := ?_) rfl rfl (by kernel_rfl) (by kernel_rfl) (by kernel_rfl) (fun _ _ _ h => h) (Or.inl ⟨by rfl, ?_⟩) hHeld ?_
  rotate_left
  · intro w' hSw; (try dsimp only at hSw); go_simp; try with_reducible rfl
  simp only [Act.put, List.setIfInBounds_toArray, List.set_cons_zero, List.set_cons_succ]
  refine takeH (i := 21) (d := some 38) (v := ?_) rfl rfl (by kernel_rfl) (by kernel_rfl) (by kernel_rfl) (fun _ _ _ h => h) (Or.inl ⟨by rfl, ?_⟩) hHeld ?_
  rotate_left
  · intro w' hSw; (try dsimp only at hSw); go_simp; try with_reducible rfl
  simp only [Act.put, List.setIfInBounds_toArray, List.set_cons_zero, List.set_cons_succ]
  refine takeH (i := 22) (d := some 2) (v := ?_) rfl rfl (by kernel_rfl) (by kernel_rfl) (by kernel_rfl) (fun _ _ _ h => h) (Or.inl ⟨by rfl, ?_⟩) hHeld ?_
  rotate_left
  · intro w' hSw; (try dsimp only at hSw); go_simp; try with_reducible rfl
  simp only [Act.put, List.setIfInBounds_toArray, List.set_cons_zero, List.set_cons_succ]
  refine wpAnyH_done (by kernel_rfl) ?_ _
  go_wp2
  go_ret
  exact ⟨rfl, b_4⟩
end Go.Proofs.Ytggoipdmiajckaa
