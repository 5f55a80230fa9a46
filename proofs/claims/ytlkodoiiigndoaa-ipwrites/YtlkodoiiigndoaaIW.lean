/-
  The walk of IpWrites.
-/
import Derived.Test.YtlkodoiiigndoaaRW
import Derived.Test.YtlkodoiiigndoaaOpen
namespace Go.Proofs.Ytlkodoiiigndoaa
open Go.RowKit
set_option linter.unusedVariables false
set_option linter.unusedSimpArgs false

/-- Write and the document's IpWrite tell the same. -/
theorem writes_same (p : Pk) (hsrc : p.src < 4294967296) (hdst : p.dst < 4294967296) : ∃ (X : ByteArray) (c : Int),
    (∀ w', Calls Try.prog 8 #[pv p] w' fun e w'' => e = .returned (.tuple #[.string X, .int .i64 c]) ∧ Below w'.heap.size w' w'') ∧ (∀ w', Calls Try.prog 9 #[pv p] w' fun e w'' => e = .returned (.tuple #[.string X, .int .i64 c]) ∧ Below w'.heap.size w' w'') := by
  by_cases h : chk p = 0
  · exact ⟨_, _, fun w' => write_ok p w' h hsrc hdst, fun w' => rwrite_ok p w' h hsrc hdst⟩
  · exact ⟨_, _, fun w' => write_bad p w' h, fun w' => rwrite_bad p w' h⟩

set_option maxHeartbeats 2000000 in
theorem writes_walk (p : Pk) (w : World) (hsrc : p.src < 4294967296) (hdst : p.dst < 4294967296) :
    Calls Try.prog 3 #[pv p] w fun e w' => e = .returned (.bool true) ∧ Below w.heap.size w w' := by
  obtain ⟨X, c, h8, h9⟩ := writes_same p hsrc hdst
  have H8 := Lib.hid h8
  have H9 := Lib.hid h9
  clear h8 h9
  have H10 : Hid (∀ w', Calls Try.prog 10 #[pv p] w' fun e w'' => e = .returned (.int .i64 (chk p)) ∧ Below w'.heap.size w' w'') := fun w' => pchk_any p w'
  have H11 : Hid (∀ w', Calls Try.prog 11 #[pv p] w' fun e w'' => e = .returned (.int .i64 (chk p)) ∧ Below w'.heap.size w' w'') := fun w' => rchk_any p w'
  have b0 : Below w.heap.size w (w.alloc (.cells (pc p) 24)) := (Below.refl _ _).alloc (Nat.le_refl _) _
  have P0 := Lib.hid (PB.new w p)
  have HU := Lib.hid Try.underlying24
  have HI : Hid ((Try.prog.info? 24).map (·.size) = some (pcl p).length) := info24
  generalize chk p = C at *
  go_enter Try.func3, Try.ntmps3
  go_wp2_with (refine wpList_load_mid rfl _ _ rfl _ _ rfl (pcl p) _ P0.out.range HU.out rfl HI.out ?_)
  refine (H8.out _).mono ?_; rintro e w1 ⟨rfl, hb1⟩
  have P1 := Lib.hid (P0.out.keep hb1)
  have b1 := b0.trans (hb1.mono (by simp))
  go_wp2_with (refine wpList_load_mid rfl _ _ rfl _ _ rfl (pcl p) _ P1.out.range HU.out rfl HI.out ?_)
  refine (H9.out _).mono ?_; rintro e w2 ⟨rfl, hb2⟩
  have P2 := Lib.hid (P1.out.keep hb2)
  have b2 := b1.trans (hb2.mono (Nat.le_of_lt P1.out.lt))
  clear hb1 hb2 P0 P1 b0 b1
  go_wp2
  refine wp_region_held_drew (S := fun w' => Hid (PB w.heap.size p w')) (by kernel_rfl) (Lib.hid P2.out.drew) (fun hHeld => ?_)
  refine takeH (i := 0) (d := some 17) (v := ?_) rfl rfl (by kernel_rfl) (by kernel_rfl) (by kernel_rfl) (fun _ _ _ h => h) (Or.inl ⟨by rfl, ?_⟩) hHeld ?_
  rotate_left
  · intro w' hSw; (try dsimp only at hSw); go_simp; try with_reducible rfl
  simp only [Act.put, List.setIfInBounds_toArray, List.set_cons_zero, List.set_cons_succ]
  refine takeH (i := 1) (d := some 18) (v := ?_) rfl rfl (by kernel_rfl) (by kernel_rfl) (by kernel_rfl) (fun _ _ _ h => h) (Or.inl ⟨by rfl, ?_⟩) hHeld ?_
  rotate_left
  · intro w' hSw; (try dsimp only at hSw); go_simp; try with_reducible rfl
  simp only [Act.put, List.setIfInBounds_toArray, List.set_cons_zero, List.set_cons_succ]
  refine takeH (i := 2) (d := some 19) (v := ?_) rfl rfl (by kernel_rfl) (by kernel_rfl) (by kernel_rfl) (fun _ _ _ h => h) (Or.inl ⟨by rfl, ?_⟩) hHeld ?_
  rotate_left
  · intro w' hSw; (try dsimp only at hSw); go_simp; try with_reducible rfl
  simp only [Act.put, List.setIfInBounds_toArray, List.set_cons_zero, List.set_cons_succ]
  refine takeH (i := 3) (d := some 20) (v := ?_) rfl rfl (by kernel_rfl) (by kernel_rfl) (by kernel_rfl) (fun _ _ _ h => h) (Or.inl ⟨by rfl, ?_⟩) hHeld ?_
  rotate_left
  · intro w' hSw; (try dsimp only at hSw); go_simp; try with_reducible rfl
  simp only [Act.put, List.setIfInBounds_toArray, List.set_cons_zero, List.set_cons_succ]
  refine takeH (i := 4) (d := some 21) (v := ?_) rfl rfl (by kernel_rfl) (by kernel_rfl) (by kernel_rfl) (fun _ _ _ h => h) (Or.inl ⟨by rfl, ?_⟩) hHeld ?_
  rotate_left
  · intro w' hSw; (try dsimp only at hSw); go_simp; try with_reducible rfl
  simp only [Act.put, List.setIfInBounds_toArray, List.set_cons_zero, List.set_cons_succ]
  refine takeH (i := 5) (d := some 22) (v := ?_) rfl rfl (by kernel_rfl) (by kernel_rfl) (by kernel_rfl) (fun _ _ _ h => h) (Or.inl ⟨by rfl, ?_⟩) hHeld ?_
  rotate_left
  · intro w' hSw; (try dsimp only at hSw); go_simp; try with_reducible rfl
  simp only [Act.put, List.setIfInBounds_toArray, List.set_cons_zero, List.set_cons_succ]
  refine takeH (i := 6) (d := some 23) (v := ?_) rfl rfl (by kernel_rfl) (by kernel_rfl) (by kernel_rfl) (fun _ _ _ h => h) (Or.inl ⟨by rfl, ?_⟩) hHeld ?_
  rotate_left
  · intro w' hSw; (try dsimp only at hSw); go_simp; try with_reducible rfl
  simp only [Act.put, List.setIfInBounds_toArray, List.set_cons_zero, List.set_cons_succ]
  refine takeH (i := 7) (d := some 24) (v := ?_) rfl rfl (by kernel_rfl) (by kernel_rfl) (by kernel_rfl) (fun _ _ _ h => h) (Or.inl ⟨by rfl, ?_⟩) hHeld ?_
  rotate_left
  · intro w' hSw; (try dsimp only at hSw); go_simp; try with_reducible rfl
  simp only [Act.put, List.setIfInBounds_toArray, List.set_cons_zero, List.set_cons_succ]
  refine takeH (i := 8) (d := some 25) (v := ?_) rfl rfl (by kernel_rfl) (by kernel_rfl) (by kernel_rfl) (fun _ _ _ h => h) (Or.inl ⟨by rfl, ?_⟩) hHeld ?_
  rotate_left
  · intro w' hSw; (try dsimp only at hSw); go_simp; try with_reducible rfl
  simp only [Act.put, List.setIfInBounds_toArray, List.set_cons_zero, List.set_cons_succ]
  refine takeH (i := 9) (d := some 26) rfl rfl (by kernel_rfl) (by kernel_rfl) (by kernel_rfl) (fun _ _ _ h => h) (yieldsIf_load_mid (by rfl) _ _ rfl _ _ rfl (pcl p) _ (fun w' hSw => hSw.out.range) HU.out rfl HI.out) hHeld ?_
  simp only [Act.put, List.setIfInBounds_toArray, List.set_cons_zero, List.set_cons_succ]
  refine takeH (i := 11) (d := some 28) rfl rfl (by kernel_rfl) (by kernel_rfl) (by kernel_rfl) (fun _ _ _ h => h) (yieldsIf_load_mid (by rfl) _ _ rfl _ _ rfl (pcl p) _ (fun w' hSw => hSw.out.range) HU.out rfl HI.out) hHeld ?_
  simp only [Act.put, List.setIfInBounds_toArray, List.set_cons_zero, List.set_cons_succ]
  refine wpAnyH_ready (rs := [10]) (by kernel_rfl) (by simp) ?_
  refine AllReadyH.cons rfl (fun K hK => ?_) AllReadyH.nil
  go_simp
  refine (H10.out _).mono ?_; rintro e w3 ⟨rfl, hb3⟩
  have P3 := Lib.hid (hHeld.out.keep hb3)
  have b3 := b2.drew.trans (hb3.mono (Nat.le_of_lt hHeld.out.lt))
  clear hHeld hb3
  refine hK.out _ _ P3 (fun hHeld => ?_)
  clear hK K
  try simp only [Act.put, List.setIfInBounds_toArray, List.set_cons_zero, List.set_cons_succ]
  refine wpAnyH_ready (rs := [12]) (by kernel_rfl) (by simp) ?_
  refine AllReadyH.cons rfl (fun K hK => ?_) AllReadyH.nil
  go_simp
  refine (H11.out _).mono ?_; rintro e w4 ⟨rfl, hb4⟩
  have P4 := Lib.hid (hHeld.out.keep hb4)
  have b4 := b3.trans (hb4.mono (Nat.le_of_lt hHeld.out.lt))
  clear hHeld hb4
  refine hK.out _ _ P4 (fun hHeld => ?_)
  clear hK K
  try simp only [Act.put, List.setIfInBounds_toArray, List.set_cons_zero, List.set_cons_succ]
  refine takeH (i := 13) (d := some 30) (v := ?_) rfl rfl (by kernel_rfl) (by kernel_rfl) (by kernel_rfl) (fun _ _ _ h => h) (Or.inl ⟨by rfl, ?_⟩) hHeld ?_
  rotate_left
  · intro w' hSw; (try dsimp only at hSw); go_simp; try with_reducible rfl
  simp only [Act.put, List.setIfInBounds_toArray, List.set_cons_zero, List.set_cons_succ]
  refine takeH (i := 14) (d := some 31) (v := ?_) rfl rfl (by kernel_rfl) (by kernel_rfl) (by kernel_rfl) (fun _ _ _ h => h) (Or.inl ⟨by rfl, ?_⟩) hHeld ?_
  rotate_left
  · intro w' hSw; (try dsimp only at hSw); go_simp; try with_reducible rfl
  simp only [Act.put, List.setIfInBounds_toArray, List.set_cons_zero, List.set_cons_succ]
  refine takeH (i := 15) (d := some 2) (v := ?_) rfl rfl (by kernel_rfl) (by kernel_rfl) (by kernel_rfl) (fun _ _ _ h => h) (Or.inl ⟨by rfl, ?_⟩) hHeld ?_
  rotate_left
  · intro w' hSw; (try dsimp only at hSw); go_simp; try with_reducible rfl
  simp only [Act.put, List.setIfInBounds_toArray, List.set_cons_zero, List.set_cons_succ]
  refine wpAnyH_done (by kernel_rfl) ?_ _
  go_wp2
  go_ret
  exact ⟨rfl, b4⟩

theorem writes_law (p : Pk) (f : Fits p) (w : World) : Calls Try.prog 3 #[pv p] w fun e w' => e = .returned (.bool true) ∧ Below w.heap.size w w' := writes_walk p w f.src f.dst
end Go.Proofs.Ytlkodoiiigndoaa
