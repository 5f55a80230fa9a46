/-
  Contract of a head's four.
-/
import Derived.Test.YtlkodoiiigndoaaHead
namespace Go.Proofs.Ytlkodoiiigndoaa
open Go.RowKit
set_option linter.unusedVariables false
set_option linter.unusedSimpArgs false

set_option maxHeartbeats 2000000 in
theorem hfour_any (B : Nat → UInt8) (q : Int) (k : Nat) (w : World) (hk : (q = 12 ∧ k = 12) ∨ (q = 16 ∧ k = 16)) :
    Calls Try.prog 33 #[hv B, .int .i64 q] w fun e w' => e = .returned (.int .u32 (w32 B k : Int)) ∧ Below w.heap.size w w' := by
  have b0 : Below w.heap.size w (w.alloc (.cells (hc B) 40)) := (Below.refl _ _).alloc (Nat.le_refl _) _
  have r0 : Hid ((w.alloc (.cells (hc B) 40)).drew.rangeAt w.heap.size 0 (hcl B)) := range_new w (hc B) 40
  have N1 : Hid (∀ (w1 w2 : World), Hid (w1.rangeAt w.heap.size 0 (hcl B)) → Below w1.heap.size w1 w2 → w.heap.size < w1.heap.size → Hid (w2.rangeAt w.heap.size 0 (hcl B))) := fun w1 w2 h hb hg => range_keep h.out hb hg
  have HU := Lib.hid Try.underlying40
  have HI : Hid ((Try.prog.info? 40).map (·.size) = some (hcl B).length) := info40
  have ha := w16_le (B k) (B (k + 1))
  have hb := w16_le (B (k + 2)) (B (k + 3))
  have ho := or_words _ _ ha hb
  have HA : Hid (∀ w', Calls Try.prog 32 #[hv B, .int .i64 q] w' fun e w'' => e = .returned (.int .i64 (w16 (B k) (B (k + 1)) : Int)) ∧ Below w'.heap.size w' w'') := fun w' => htwo_any B q k w' (by rcases hk with ⟨rfl, rfl⟩ | ⟨rfl, rfl⟩ <;> simp)
  have HB : Hid (∀ w', Calls Try.prog 32 #[hv B, .int .i64 (q + 2)] w' fun e w'' => e = .returned (.int .i64 (w16 (B (k + 2)) (B (k + 3)) : Int)) ∧ Below w'.heap.size w' w'') := fun w' => htwo_any B (q + 2) (k + 2) w' (by rcases hk with ⟨rfl, rfl⟩ | ⟨rfl, rfl⟩ <;> simp)
  have HR : Hid (((w32 B k : Nat) : Int) = (w16 (B k) (B (k + 1)) : Int) * 65536 + w16 (B (k + 2)) (B (k + 3))) := by show _ = _; unfold w32; omega
  generalize w32 B k = R at *
  generalize w16 (B k) (B (k + 1)) = X at *
  generalize w16 (B (k + 2)) (B (k + 3)) = Y at *
  have hq : 0 ≤ q ∧ q ≤ 100 := by omega
  have hq2 : IntKind.i64.wrap (q + 2) = q + 2 := by rw [IntKind.wrap_i64]; omega
  clear hk
  go_enter Try.func33, Try.ntmps33
  go_wp2
  refine wp_region_held_drew (S := fun w' => Hid (w'.rangeAt w.heap.size 0 (hcl B))) (by kernel_rfl) r0 (fun hHeld => ?_)
  refine takeH (i := 0) (d := some 5) rfl rfl (by kernel_rfl) (by kernel_rfl) (by kernel_rfl) (fun _ _ _ h => h) (yieldsIf_load_mid (by rfl) _ _ rfl _ _ rfl (hcl B) _ (fun w' hSw => hSw.out) HU.out rfl HI.out) hHeld ?_
  simp only [Act.put, List.setIfInBounds_toArray, List.set_cons_zero, List.set_cons_succ]
  refine takeH (i := 5) (d := some 10) rfl rfl (by kernel_rfl) (by kernel_rfl) (by kernel_rfl) (fun _ _ _ h => h) (yieldsIf_load_mid (by rfl) _ _ rfl _ _ rfl (hcl B) _ (fun w' hSw => hSw.out) HU.out rfl HI.out) hHeld ?_
  simp only [Act.put, List.setIfInBounds_toArray, List.set_cons_zero, List.set_cons_succ]
  refine takeH (i := 1) (d := some 6) (v := ?_) rfl rfl (by kernel_rfl) (by kernel_rfl) (by kernel_rfl) (fun _ _ _ h => h) (Or.inl ⟨by rfl, ?_⟩) hHeld ?_
  rotate_left
  · intro w' hSw; (try dsimp only at hSw); go_simp; try with_reducible rfl
  simp only [Act.put, List.setIfInBounds_toArray, List.set_cons_zero, List.set_cons_succ]
  refine takeH (i := 6) (d := some 11) (v := ?_) rfl rfl (by kernel_rfl) (by kernel_rfl) (by kernel_rfl) (fun _ _ _ h => h) (Or.inl ⟨by rfl, ?_⟩) hHeld ?_
  rotate_left
  · intro w' hSw; (try dsimp only at hSw); go_simp; try with_reducible rfl
  simp only [Act.put, List.setIfInBounds_toArray, List.set_cons_zero, List.set_cons_succ]
  refine takeH (i := 7) (d := some 12) (v := ?_) rfl rfl (by kernel_rfl) (by kernel_rfl) (by kernel_rfl) (fun _ _ _ h => h) (Or.inl ⟨by rfl, ?_⟩) hHeld ?_
  rotate_left
  · intro w' hSw; (try dsimp only at hSw); go_simp; try with_reducible rfl
  simp only [Act.put, List.setIfInBounds_toArray, List.set_cons_zero, List.set_cons_succ]
  refine wpAnyH_ready (rs := [2]) (by kernel_rfl) (by simp) ?_
  refine AllReadyH.cons rfl (fun K hK => ?_) AllReadyH.nil
  go_simp
  refine (HA.out _).mono ?_; rintro e w1 ⟨rfl, hb1⟩
  have r1 := N1.out _ _ hHeld hb1 (by simp)
  have z1 := hb1.size
  clear hHeld
  refine hK.out _ _ r1 (fun hHeld => ?_)
  clear hK K
  try simp only [Act.put, List.setIfInBounds_toArray, List.set_cons_zero, List.set_cons_succ]
  refine takeH (i := 3) (d := some 8) (v := ?_) rfl rfl (by kernel_rfl) (by kernel_rfl) (by kernel_rfl) (fun _ _ _ h => h) (Or.inl ⟨by rfl, ?_⟩) hHeld ?_
  rotate_left
  · intro w' hSw; (try dsimp only at hSw); go_simp; try with_reducible rfl
  simp only [Act.put, List.setIfInBounds_toArray, List.set_cons_zero, List.set_cons_succ]
  refine takeH (i := 4) (d := some 9) (v := ?_) rfl rfl (by kernel_rfl) (by kernel_rfl) (by kernel_rfl) (fun _ _ _ h => h) (Or.inl ⟨by rfl, ?_⟩) hHeld ?_
  rotate_left
  · intro w' hSw; (try dsimp only at hSw); go_simp; try with_reducible rfl
  simp only [Act.put, List.setIfInBounds_toArray, List.set_cons_zero, List.set_cons_succ]
  refine wpAnyH_ready (rs := [8]) (by kernel_rfl) (by simp) ?_
  refine AllReadyH.cons rfl (fun K hK => ?_) AllReadyH.nil
  go_simp
  refine (HB.out _).mono ?_; rintro e w2 ⟨rfl, hb2⟩
  have r2 := N1.out _ _ hHeld hb2 (by simp at z1; omega)
  clear hHeld
  refine hK.out _ _ r2 (fun hHeld => ?_)
  clear hK K
  try simp only [Act.put, List.setIfInBounds_toArray, List.set_cons_zero, List.set_cons_succ]
  refine takeH (i := 9) (d := some 14) (v := ?_) rfl rfl (by kernel_rfl) (by kernel_rfl) (by kernel_rfl) (fun _ _ _ h => h) (Or.inl ⟨by rfl, ?_⟩) hHeld ?_
  rotate_left
  · intro w' hSw; (try dsimp only at hSw); go_simp; try with_reducible rfl
  simp only [Act.put, List.setIfInBounds_toArray, List.set_cons_zero, List.set_cons_succ]
  refine takeH (i := 10) (d := some 15) (v := ?_) rfl rfl (by kernel_rfl) (by kernel_rfl) (by kernel_rfl) (fun _ _ _ h => h) (Or.inl ⟨by rfl, ?_⟩) hHeld ?_
  rotate_left
  · intro w' hSw; (try dsimp only at hSw); go_simp; try with_reducible rfl
  simp only [Act.put, List.setIfInBounds_toArray, List.set_cons_zero, List.set_cons_succ]
  refine takeH (i := 11) (d := some 4) (v := ?_) rfl rfl (by kernel_rfl) (by kernel_rfl) (by kernel_rfl) (fun _ _ _ h => h) (Or.inl ⟨by rfl, ?_⟩) hHeld ?_
  rotate_left
  · intro w' hSw; (try dsimp only at hSw); go_simp; try with_reducible rfl
  simp only [Act.put, List.setIfInBounds_toArray, List.set_cons_zero, List.set_cons_succ]
  refine wpAnyH_done (by kernel_rfl) ?_ _
  go_wp2
  go_ret
  exact ⟨ret_int (by rw [HR.out, IntKind.wrap_u32 (X : Int), IntKind.wrap_u32 (Y : Int), show (X : Int) % 4294967296 = X from by omega, show (Y : Int) % 4294967296 = Y from by omega, IntKind.wrap_u32, show (X : Int) * 65536 % 4294967296 = X * 65536 from by omega, ho]), (b0.drew.trans (hb1.mono (by simp))).trans (hb2.mono (by simp at z1; omega))⟩
end Go.Proofs.Ytlkodoiiigndoaa
