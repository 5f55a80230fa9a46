/-
  The document's Pair by contract; the walk of HashPairs.
-/
import Derived.Test.YtoococeaanndkaaDoorPo
namespace Go.Proofs.YtoococeaanndkaaDoor
open Go.RowKit
set_option linter.unusedVariables false
set_option linter.unusedSimpArgs false

set_option maxHeartbeats 4000000 in
theorem hashpair_any (k0 k1 : Int) (e f : En) (he : EFits e) (hf : EFits f) (w : World) :
    Calls Tryd.prog 21 #[.int .u64 k0, .int .u64 k1, ev e, ev f] w fun x w' => x = .returned (.int .u64 (pairv k0 k1 e f)) ∧ Below w.heap.size w w' := by
  have ae := he.a
  have af := hf.a
  have HA : Hid (∀ W, Calls Tryd.prog 25 #[.int .u64 (IntKind.wrap .u64 (e.a : Int)), .int .i64 4] W fun x w' => x = .returned (.string (aT e)) ∧ Below W.heap.size W w') := fun W => by
    rw [wraps_u64' (e.a : Int) (by omega) (by omega)]; exact big_any 4 e.a W (by omega) (by omega)
  have HB : Hid (∀ W, Calls Tryd.prog 25 #[.int .u64 (IntKind.wrap .u64 (f.a : Int)), .int .i64 4] W fun x w' => x = .returned (.string (aT f)) ∧ Below W.heap.size W w') := fun W => by
    rw [wraps_u64' (f.a : Int) (by omega) (by omega)]; exact big_any 4 f.a W (by omega) (by omega)
  have HE : Hid (∀ W, Calls Tryd.prog 24 #[ev e] W fun x w' => x = .returned (.string (pT e)) ∧ Below W.heap.size W w') := fun W => port_any e he W
  have HF : Hid (∀ W, Calls Tryd.prog 24 #[ev f] W fun x w' => x = .returned (.string (pT f)) ∧ Below W.heap.size W w') := fun W => port_any f hf W
  have HS : Hid (∀ W, Calls Tryd.prog 26 #[.int .u64 k0, .int .u64 k1, .string (aT e ++ pT e ++ aT f ++ pT f)] W fun x w' => x = .returned (.int .u64 (pairv k0 k1 e f)) ∧ Below W.heap.size W w') := fun W => by
    have := siphash_any k0 k1 (aT e ++ pT e ++ aT f ++ pT f) (by simp only [ByteArray.size_append, aT_size, pT_size]; omega) W
    rwa [all_list] at this
  have N0 := Lib.hid (E2.new e f w)
  have L0 := Lib.hid (e2_below e f w)
  have HU := Lib.hid Tryd.underlying25
  have z1 := aT_size e
  have z2 := aT_size f
  have z3 := pT_size e
  have z4 := pT_size f
  unfold ev
  generalize aT e = T at *
  generalize aT f = U at *
  generalize pT e = T' at *
  generalize pT f = U' at *
  go_enter Tryd.func21, Tryd.ntmps21
  go_upto_region 2 with fail
  try simp only [Act.put, List.setIfInBounds_toArray, List.set_cons_zero, List.set_cons_succ]
  generalize ((w.alloc (.cells #[.int .u32 (e.a : Int), .int .i64 e.p] 25)).alloc (.cells #[.int .u32 (f.a : Int), .int .i64 f.p] 25)) = W0 at *
  have N1 : Hid (E2 w.heap.size (w.heap.size + 1) e f W0.drew) := N0.out.keep ((Below.refl _ _).drew)
  have L1 : Hid (Below w.heap.size w W0.drew) := L0.out.trans (((Below.refl _ _).drew).mono L0.out.size)
  clear N0 L0
  refine wp_region_held_drew (S := (E2 w.heap.size (w.heap.size + 1) e f)) (by kernel_rfl) N1.out (fun hHeld => ?_)
  refine takeH (i := 0) (d := some 10) (v := ?_) rfl rfl (by kernel_rfl) (by kernel_rfl) (by kernel_rfl) (fun _ _ _ h => h) (Or.inl ⟨by rfl, ?_⟩) hHeld ?_
  rotate_left
  · intro w' hSw; (try dsimp only at hSw); go_simp; try with_reducible rfl
  simp only [Act.put, List.setIfInBounds_toArray, List.set_cons_zero, List.set_cons_succ]
  refine takeH (i := 1) (d := some 11) (v := ?_) rfl rfl (by kernel_rfl) (by kernel_rfl) (by kernel_rfl) (fun _ _ _ h => h) (Or.inl ⟨by rfl, ?_⟩) hHeld ?_
  rotate_left
  · intro w' hSw; (try dsimp only at hSw); go_simp; try with_reducible rfl
  simp only [Act.put, List.setIfInBounds_toArray, List.set_cons_zero, List.set_cons_succ]
  refine takeH (i := 2) (d := some 12) (v := ?_) rfl rfl (by kernel_rfl) (by kernel_rfl) (by kernel_rfl) (fun _ _ _ h => h) (Or.inl ⟨by rfl, ?_⟩) hHeld ?_
  rotate_left
  · intro w' hSw; (try dsimp only at hSw); go_simp; try with_reducible rfl
  simp only [Act.put, List.setIfInBounds_toArray, List.set_cons_zero, List.set_cons_succ]
  refine takeH (i := 3) (d := some 13) (v := ?_) rfl rfl (by kernel_rfl) (by kernel_rfl) (by kernel_rfl) (fun _ _ _ h => h) (Or.inl ⟨by rfl, ?_⟩) hHeld ?_
  rotate_left
  · intro w' hSw; (try dsimp only at hSw); have y0 := hSw.a.c0; have y1 := hSw.b.c0; go_simp; try with_reducible rfl
  simp only [Act.put, List.setIfInBounds_toArray, List.set_cons_zero, List.set_cons_succ]
  refine takeH (i := 4) (d := some 14) (v := ?_) rfl rfl (by kernel_rfl) (by kernel_rfl) (by kernel_rfl) (fun _ _ _ h => h) (Or.inl ⟨by rfl, ?_⟩) hHeld ?_
  rotate_left
  · intro w' hSw; (try dsimp only at hSw); go_simp; try with_reducible rfl
  simp only [Act.put, List.setIfInBounds_toArray, List.set_cons_zero, List.set_cons_succ]
  refine takeH (i := 6) (d := some 16) (v := ?_) rfl rfl (by kernel_rfl) (by kernel_rfl) (by kernel_rfl) (fun _ _ _ h => h) (Or.inl ⟨by rfl, ?_⟩) hHeld ?_
  rotate_left
  · intro w' hSw; (try dsimp only at hSw); go_simp; try with_reducible rfl
  simp only [Act.put, List.setIfInBounds_toArray, List.set_cons_zero, List.set_cons_succ]
  refine takeH (i := 7) (d := some 17) rfl rfl (by kernel_rfl) (by kernel_rfl) (by kernel_rfl) (fun _ _ _ h => h) (yieldsIf_load_mid (by rfl) _ _ rfl _ _ rfl (ecl e) _ (fun w' hSw => EB.range hSw.a) HU.out rfl infoEnd) hHeld ?_
  simp only [Act.put, List.setIfInBounds_toArray, List.set_cons_zero, List.set_cons_succ]
  refine takeH (i := 10) (d := some 20) (v := ?_) rfl rfl (by kernel_rfl) (by kernel_rfl) (by kernel_rfl) (fun _ _ _ h => h) (Or.inl ⟨by rfl, ?_⟩) hHeld ?_
  rotate_left
  · intro w' hSw; (try dsimp only at hSw); go_simp; try with_reducible rfl
  simp only [Act.put, List.setIfInBounds_toArray, List.set_cons_zero, List.set_cons_succ]
  refine takeH (i := 11) (d := some 21) (v := ?_) rfl rfl (by kernel_rfl) (by kernel_rfl) (by kernel_rfl) (fun _ _ _ h => h) (Or.inl ⟨by rfl, ?_⟩) hHeld ?_
  rotate_left
  · intro w' hSw; (try dsimp only at hSw); have y0 := hSw.a.c0; have y1 := hSw.b.c0; go_simp; try with_reducible rfl
  simp only [Act.put, List.setIfInBounds_toArray, List.set_cons_zero, List.set_cons_succ]
  refine takeH (i := 12) (d := some 22) (v := ?_) rfl rfl (by kernel_rfl) (by kernel_rfl) (by kernel_rfl) (fun _ _ _ h => h) (Or.inl ⟨by rfl, ?_⟩) hHeld ?_
  rotate_left
  · intro w' hSw; (try dsimp only at hSw); go_simp; try with_reducible rfl
  simp only [Act.put, List.setIfInBounds_toArray, List.set_cons_zero, List.set_cons_succ]
  refine takeH (i := 15) (d := some 25) (v := ?_) rfl rfl (by kernel_rfl) (by kernel_rfl) (by kernel_rfl) (fun _ _ _ h => h) (Or.inl ⟨by rfl, ?_⟩) hHeld ?_
  rotate_left
  · intro w' hSw; (try dsimp only at hSw); go_simp; try with_reducible rfl
  simp only [Act.put, List.setIfInBounds_toArray, List.set_cons_zero, List.set_cons_succ]
  refine takeH (i := 16) (d := some 26) rfl rfl (by kernel_rfl) (by kernel_rfl) (by kernel_rfl) (fun _ _ _ h => h) (yieldsIf_load_mid (by rfl) _ _ rfl _ _ rfl (ecl f) _ (fun w' hSw => EB.range hSw.b) HU.out rfl infoEnd) hHeld ?_
  simp only [Act.put, List.setIfInBounds_toArray, List.set_cons_zero, List.set_cons_succ]
  refine wpAnyH_ready (rs := [5]) (by kernel_rfl) (by simp) ?_
  refine AllReadyH.cons rfl (fun K hK => ?_) (AllReadyH.nil)
  go_simp
  refine (HA.out _).mono ?_; rintro x w5 ⟨rfl, hb5⟩
  have N5 := Lib.hid (N1.out.keep hb5)
  have L5 := Lib.hid (L1.out.trans (hb5.mono L1.out.size))
  clear hb5
  clear hHeld
  refine hK.out _ _ N5.out (fun hHeld => ?_)
  clear hK K
  try simp only [Act.put, List.setIfInBounds_toArray, List.set_cons_zero, List.set_cons_succ]
  refine wpAnyH_ready (rs := [8]) (by kernel_rfl) (by simp) ?_
  refine AllReadyH.cons rfl (fun K hK => ?_) (AllReadyH.nil)
  go_simp
  refine (HE.out _).mono ?_; rintro x w8 ⟨rfl, hb8⟩
  have N8 := Lib.hid (N5.out.keep hb8)
  have L8 := Lib.hid (L5.out.trans (hb8.mono L5.out.size))
  clear hb8
  clear hHeld
  refine hK.out _ _ N8.out (fun hHeld => ?_)
  clear hK K
  try simp only [Act.put, List.setIfInBounds_toArray, List.set_cons_zero, List.set_cons_succ]
  refine takeH (i := 9) (d := some 19) (v := ?_) rfl rfl (by kernel_rfl) (by kernel_rfl) (by kernel_rfl) (fun _ _ _ h => h) (Or.inl ⟨by rfl, ?_⟩) hHeld ?_
  rotate_left
  · intro w' hSw; (try dsimp only at hSw); go_simp; try with_reducible rfl
  simp only [Act.put, List.setIfInBounds_toArray, List.set_cons_zero, List.set_cons_succ]
  refine wpAnyH_ready (rs := [13]) (by kernel_rfl) (by simp) ?_
  refine AllReadyH.cons rfl (fun K hK => ?_) (AllReadyH.nil)
  go_simp
  refine (HB.out _).mono ?_; rintro x w13 ⟨rfl, hb13⟩
  have N13 := Lib.hid (N8.out.keep hb13)
  have L13 := Lib.hid (L8.out.trans (hb13.mono L8.out.size))
  clear hb13
  clear hHeld
  refine hK.out _ _ N13.out (fun hHeld => ?_)
  clear hK K
  try simp only [Act.put, List.setIfInBounds_toArray, List.set_cons_zero, List.set_cons_succ]
  refine takeH (i := 14) (d := some 24) (v := ?_) rfl rfl (by kernel_rfl) (by kernel_rfl) (by kernel_rfl) (fun _ _ _ h => h) (Or.inl ⟨by rfl, ?_⟩) hHeld ?_
  rotate_left
  · intro w' hSw; (try dsimp only at hSw); go_simp; try with_reducible rfl
  simp only [Act.put, List.setIfInBounds_toArray, List.set_cons_zero, List.set_cons_succ]
  refine wpAnyH_ready (rs := [17]) (by kernel_rfl) (by simp) ?_
  refine AllReadyH.cons rfl (fun K hK => ?_) (AllReadyH.nil)
  go_simp
  refine (HF.out _).mono ?_; rintro x w17 ⟨rfl, hb17⟩
  have N17 := Lib.hid (N13.out.keep hb17)
  have L17 := Lib.hid (L13.out.trans (hb17.mono L13.out.size))
  clear hb17
  clear hHeld
  refine hK.out _ _ N17.out (fun hHeld => ?_)
  clear hK K
  try simp only [Act.put, List.setIfInBounds_toArray, List.set_cons_zero, List.set_cons_succ]
  refine takeH (i := 18) (d := some 28) (v := ?_) rfl rfl (by kernel_rfl) (by kernel_rfl) (by kernel_rfl) (fun _ _ _ h => h) (Or.inl ⟨by rfl, ?_⟩) hHeld ?_
  rotate_left
  · intro w' hSw; (try dsimp only at hSw); go_simp; try with_reducible rfl
  simp only [Act.put, List.setIfInBounds_toArray, List.set_cons_zero, List.set_cons_succ]
  refine wpAnyH_ready (rs := [19]) (by kernel_rfl) (by simp) ?_
  refine AllReadyH.cons rfl (fun K hK => ?_) (AllReadyH.nil)
  go_simp
  refine (HS.out _).mono ?_; rintro x w19 ⟨rfl, hb19⟩
  have N19 := Lib.hid (N17.out.keep hb19)
  have L19 := Lib.hid (L17.out.trans (hb19.mono L17.out.size))
  clear hb19
  clear hHeld
  refine hK.out _ _ N19.out (fun hHeld => ?_)
  clear hK K
  try simp only [Act.put, List.setIfInBounds_toArray, List.set_cons_zero, List.set_cons_succ]
  refine takeH (i := 20) (d := some 8) (v := ?_) rfl rfl (by kernel_rfl) (by kernel_rfl) (by kernel_rfl) (fun _ _ _ h => h) (Or.inl ⟨by rfl, ?_⟩) hHeld ?_
  rotate_left
  · intro w' hSw; (try dsimp only at hSw); go_simp; try with_reducible rfl
  simp only [Act.put, List.setIfInBounds_toArray, List.set_cons_zero, List.set_cons_succ]
  refine wpAnyH_done (by kernel_rfl) ?_ _
  go_wp2_with fail
  go_ret
  exact ⟨rfl, L19.out⟩
end Go.Proofs.YtoococeaanndkaaDoor
