/-
  The walk of ConnBoth.
-/
import Derived.Test.YtnhcjefbiihfjabRs
import Derived.Test.YtnhcjefbiihfjabTr
import Derived.Deep.CutBlock
namespace Go.Proofs.Ytnhcjefbiihfjab
open Go.RowKit
open Tc (Sg gchk gv gc)
set_option linter.unusedVariables false
set_option linter.unusedSimpArgs false
/-- Both Ends in memory. -/
structure BE (w : World) (W : World) : Prop where
  be : Below w.heap.size w W
  x : EB w.heap.size (1, 7) W
  y : EB (w.heap.size + 1) (2, 8) W
def sF (w : World) (W : World) : Prop :=
  W.cell? ⟨w.heap.size, 0, none⟩ = some (.int .u32 1) ∧ W.cell? ⟨w.heap.size, 1, none⟩ = some (.int .i64 7) ∧ W.cell? ⟨w.heap.size + 1, 0, none⟩ = some (.int .u32 2) ∧ W.cell? ⟨w.heap.size + 1, 1, none⟩ = some (.int .i64 8)
/-- The first connection is there. -/
structure B1 (w : World) (b : Nat) (c : Cn) (P : Pt) (W : World) : Prop where
  be1 : BE w W
  nc : NC w b c P W
structure B2 (w : World) (b : Nat) (c : Cn) (P : Pt) (d : Nat) (e : Cn) (Q : Pt) (W : World) : Prop where
  be1 : BE w W
  two : N2 w b c P d e Q W
/-- Two connections, and two rows of segments. -/
structure BX (w : World) (b : Nat) (c : Cn) (P : Pt) (d : Nat) (e : Cn) (Q : Pt) (v : Value) (l : List Sg) (u : Value) (m : List Sg) (W : World) : Prop where
  two : N2 w b c P d e Q W
  rl : SRow W w.heap.size v l
  rm : SRow W w.heap.size u m
section
variable {w W W' : World} {b d : Nat} {c c' e e' : Cn} {P P' Q Q' : Pt} {v u : Value} {l m : List Sg}
theorem BE.keep (h : BE w W) (k : Below W.heap.size W W') : BE w W' := ⟨below_trans h.be k, h.x.keep k, h.y.keep k⟩
theorem BE.drew (h : BE w W) : BE w W.drew := h.keep (Below.refl _ _).drew
theorem BE.s (h : BE w W) : sF w W := ⟨h.x.c0, h.x.c1, h.y.c0, h.y.c1⟩
theorem B1.drew (h : B1 w b c P W) : B1 w b c P W.drew := ⟨h.be1.drew, h.nc.keep (Below.refl _ _).drew⟩
theorem BX.keep (h : BX w b c P d e Q v l u m W) (k : Below W.heap.size W W') : BX w b c P d e Q v l u m W' := ⟨h.two.keep k, h.rl.on k, h.rm.on k⟩
theorem BX.left (h : BX w b c P d e Q v l u m W) (h' : CT b c' P' W') (k : Up b P P' W W') : BX w b c' P' d e Q v l u m W' := ⟨h.two.left h' k, h.rl.up h.two.ca k, h.rm.up h.two.ca k⟩
theorem BX.right (h : BX w b c P d e Q v l u m W) (h' : CT d e' Q' W') (k : Up d Q Q' W W') : BX w b c P d e' Q' v l u m W' := ⟨h.two.right h' k, h.rl.up h.two.cb k, h.rm.up h.two.cb k⟩
theorem rng_at {W : World} {B : Nat} {v : Value} {L : List Sg} {o : Option Addr} {g len cap i : Nat} {q : Sg} (h : SRow W B v L) (hv : v = .slice o len cap) (ho : o = some ⟨g, 0, none⟩) (hi : L[i]? = some q) : W.rangeAt g (i * 13) (gcl q) := by
  subst hv ho
  exact h.range hi
end
set_option maxRecDepth 100000 in
set_option maxHeartbeats 2000000 in
theorem both_walk (iss irs : Nat) (ma mb : Int) (w : World) (hi : iss < 4294967296) (hj : irs < 4294967296) (hma : -9223372036854775808 ≤ ma ∧ ma ≤ 9223372036854775807) (hmb : -9223372036854775808 ≤ mb ∧ mb ≤ 9223372036854775807) :
    Calls Try.prog 7 #[.int .u32 (iss : Int), .int .u32 (irs : Int), .int .i64 ma, .int .i64 mb] w fun e w' => e = .returned (.bool true) ∧ Below w.heap.size w w' := by
  have HRa : Hid (∀ W, Calls Try.prog 8 #[.int .i64 ma, .int .i64 993] W fun e w' => e = .returned (.int .i64 (ma % 993)) ∧ w' = W) := fun W => rest_any ma 993 W (by decide) (by decide) hma.1 hma.2
  have HRb : Hid (∀ W, Calls Try.prog 8 #[.int .i64 mb, .int .i64 993] W fun e w' => e = .returned (.int .i64 (mb % 993)) ∧ w' = W) := fun W => rest_any mb 993 W (by decide) (by decide) hmb.1 hmb.2
  have h0 : 0 ≤ ma % 993 ∧ ma % 993 < 993 := by omega
  have h1 : 0 ≤ mb % 993 ∧ mb % 993 < 993 := by omega
  generalize ma % 993 = ra at *
  generalize mb % 993 = rb at *
  have hA : 8 ≤ 8 + ra ∧ 8 + ra ≤ 1000 := by omega
  have hB : 8 ≤ 8 + rb ∧ 8 + rb ≤ 1000 := by omega
  have HS : Hid (∀ W, BE w W → sF w W) := fun W h => h.s
  have HWa : Hid (IntKind.i64.wrap (8 + ra) = 8 + ra) := by show _ = _; rw [IntKind.wrap_i64]; omega
  have HWb : Hid (IntKind.i64.wrap (8 + rb) = 8 + rb) := by show _ = _; rw [IntKind.wrap_i64]; omega
  have HDc : Hid (∀ W x, x = 8 + ra → BE w W → Calls Try.prog 9 #[.agg #[.int .u32 1, .int .i64 7], .agg #[.int .u32 2, .int .i64 8], .int .u32 (iss : Int), .int .i64 x] W fun e w' => ∃ b P, e = .returned (.tuple #[ptr b, .int .i64 0]) ∧ B1 w b (Cn.fresh 1 7 2 8 iss (8 + ra)) P w') := fun W x hx hW => by
    subst hx
    exact (dial_ok (l := (1, 7)) (r := (2, 8)) (by decide) (by decide) hA).mono fun e w' ⟨b, P, h1, h2, h3, h4⟩ => ⟨b, P, h1, hW.keep h3, h2, below_trans hW.be h3, fun x hx => Nat.le_trans hW.be.size (h4 x hx)⟩
  have HDd : Hid (∀ {b c P} W x, x = 8 + rb → B1 w b c P W → Calls Try.prog 9 #[.agg #[.int .u32 2, .int .i64 8], .agg #[.int .u32 1, .int .i64 7], .int .u32 (irs : Int), .int .i64 x] W fun e w' => ∃ d Q, e = .returned (.tuple #[ptr d, .int .i64 0]) ∧ B2 w b c P d (Cn.fresh 2 8 1 7 irs (8 + rb)) Q w') := fun {b c P} W x hx hW => by
    subst hx
    exact (dial_ok (l := (2, 8)) (r := (1, 7)) (by decide) (by decide) hB).mono fun e w' ⟨d, Q, h1, h2, h3, h4⟩ => ⟨d, Q, h1, hW.be1.keep h3, N2.new hW.nc h2 h3 h4⟩
  have HOa : Hid (COk 0 (Cn.fresh 1 7 2 8 iss (8 + ra))) := COk.fresh (by decide) (by decide) hi (by decide) (by decide) hA
  have HOb : Hid (COk 0 (Cn.fresh 2 8 1 7 irs (8 + rb))) := COk.fresh (by decide) (by decide) hj (by decide) (by decide) hB
  have HA := Lib.hid hA
  have HB := Lib.hid hB
  have HI := Lib.hid hi
  have HJ := Lib.hid hj
  clear hma hmb h0 h1 hA hB hi hj
  go_enter Try.func7, Try.ntmps7
  go_upto_region 1 with fail
  go_cut [9, 10] from 9 to 22 (fun x y W => x = ptr w.heap.size ∧ y = ptr (w.heap.size + 1) ∧ BE w W)
  case first =>
    go_wp2_with fail
    go_meet
    refine ⟨rfl, by simp, ?_⟩
    exact ⟨w2_b w (1, 7) (2, 8), w2_l w (1, 7) (2, 8), w2_r w (1, 7) (2, 8)⟩
  obtain ⟨rfl, rfl, hB1⟩ := hcut
  have B1 := Lib.hid hB1
  clear hB1
  go_wp2_with fail
  refine wp_region_held_drew (S := (sF w)) (by kernel_rfl) (HS.out _ B1.out.drew) (fun hHeld => ?_)
  refine takeH (i := 0) (d := some 24) (v := ?_) rfl rfl (by kernel_rfl) (by kernel_rfl) (by kernel_rfl) (fun _ _ _ h => h) (Or.inl ⟨by rfl, ?_⟩) hHeld ?_
  rotate_left
  · intro w' hSw; (try dsimp only at hSw); obtain ⟨q1, q2, q3, q4⟩ := hSw; go_simp; try with_reducible rfl
  simp only [Act.put, List.setIfInBounds_toArray, List.set_cons_zero, List.set_cons_succ]
  refine takeH (i := 1) (d := some 25) (v := ?_) rfl rfl (by kernel_rfl) (by kernel_rfl) (by kernel_rfl) (fun _ _ _ h => h) (Or.inl ⟨by rfl, ?_⟩) hHeld ?_
  rotate_left
  · intro w' hSw; (try dsimp only at hSw); obtain ⟨q1, q2, q3, q4⟩ := hSw; go_simp; try with_reducible rfl
  simp only [Act.put, List.setIfInBounds_toArray, List.set_cons_zero, List.set_cons_succ]
  refine takeH (i := 2) (d := some 26) (v := ?_) rfl rfl (by kernel_rfl) (by kernel_rfl) (by kernel_rfl) (fun _ _ _ h => h) (Or.inl ⟨by rfl, ?_⟩) hHeld ?_
  rotate_left
  · intro w' hSw; (try dsimp only at hSw); go_simp; try with_reducible rfl
  simp only [Act.put, List.setIfInBounds_toArray, List.set_cons_zero, List.set_cons_succ]
  refine takeH (i := 3) (d := some 27) (v := ?_) rfl rfl (by kernel_rfl) (by kernel_rfl) (by kernel_rfl) (fun _ _ _ h => h) (Or.inl ⟨by rfl, ?_⟩) hHeld ?_
  rotate_left
  · intro w' hSw; (try dsimp only at hSw); go_simp; try with_reducible rfl
  simp only [Act.put, List.setIfInBounds_toArray, List.set_cons_zero, List.set_cons_succ]
  refine wpAnyH_ready (rs := [4]) (by kernel_rfl) (by simp) ?_
  refine AllReadyH.cons rfl (fun K hK => ?_) (AllReadyH.nil)
  go_simp
  refine (HRa.out _).mono ?_; rintro e wA ⟨rfl, rfl⟩
  clear hHeld
  refine hK.out _ _ (HS.out _ B1.out.drew) (fun hHeld => ?_)
  clear hK K
  try simp only [Act.put, List.setIfInBounds_toArray, List.set_cons_zero, List.set_cons_succ]
  refine takeH (i := 5) (d := some 29) (v := ?_) rfl rfl (by kernel_rfl) (by kernel_rfl) (by kernel_rfl) (fun _ _ _ h => h) (Or.inl ⟨by rfl, ?_⟩) hHeld ?_
  rotate_left
  · intro w' hSw; (try dsimp only at hSw); go_simp; try with_reducible rfl
  simp only [Act.put, List.setIfInBounds_toArray, List.set_cons_zero, List.set_cons_succ]
  refine wpAnyH_ready (rs := [6]) (by kernel_rfl) (by simp) ?_
  refine AllReadyH.cons rfl (fun K hK => ?_) (AllReadyH.nil)
  go_simp
  refine (HDc.out _ _ HWa.out B1.out.drew).mono ?_; rintro e w3 ⟨b, P, rfl, n3⟩
  have NN3 := Lib.hid n3
  clear n3
  clear hHeld
  refine hK.out _ _ (HS.out _ NN3.out.be1) (fun hHeld => ?_)
  clear hK K
  try simp only [Act.put, List.setIfInBounds_toArray, List.set_cons_zero, List.set_cons_succ]
  refine takeH (i := 7) (d := some 23) (v := ?_) rfl rfl (by kernel_rfl) (by kernel_rfl) (by kernel_rfl) (fun _ _ _ h => h) (Or.inl ⟨by rfl, ?_⟩) hHeld ?_
  rotate_left
  · intro w' hSw; (try dsimp only at hSw); go_simp; try with_reducible rfl
  simp only [Act.put, List.setIfInBounds_toArray, List.set_cons_zero, List.set_cons_succ]
  refine takeH (i := 8) (d := some 31) (v := ?_) rfl rfl (by kernel_rfl) (by kernel_rfl) (by kernel_rfl) (fun _ _ _ h => h) (Or.inl ⟨by rfl, ?_⟩) hHeld ?_
  rotate_left
  · intro w' hSw; (try dsimp only at hSw); go_simp; try with_reducible rfl
  simp only [Act.put, List.setIfInBounds_toArray, List.set_cons_zero, List.set_cons_succ]
  refine takeH (i := 9) (d := some 32) (v := ?_) rfl rfl (by kernel_rfl) (by kernel_rfl) (by kernel_rfl) (fun _ _ _ h => h) (Or.inl ⟨by rfl, ?_⟩) hHeld ?_
  rotate_left
  · intro w' hSw; (try dsimp only at hSw); go_simp; try with_reducible rfl
  simp only [Act.put, List.setIfInBounds_toArray, List.set_cons_zero, List.set_cons_succ]
  refine takeH (i := 10) (d := some 11) (v := ?_) rfl rfl (by kernel_rfl) (by kernel_rfl) (by kernel_rfl) (fun _ _ _ h => h) (Or.inl ⟨by rfl, ?_⟩) hHeld ?_
  rotate_left
  · intro w' hSw; (try dsimp only at hSw); go_simp; try with_reducible rfl
  simp only [Act.put, List.setIfInBounds_toArray, List.set_cons_zero, List.set_cons_succ]
  refine takeH (i := 11) (d := some 12) (v := ?_) rfl rfl (by kernel_rfl) (by kernel_rfl) (by kernel_rfl) (fun _ _ _ h => h) (Or.inl ⟨by rfl, ?_⟩) hHeld ?_
  rotate_left
  · intro w' hSw; (try dsimp only at hSw); go_simp; try with_reducible rfl
  simp only [Act.put, List.setIfInBounds_toArray, List.set_cons_zero, List.set_cons_succ]
  refine wpAnyH_done (by kernel_rfl) ?_ _
  go_wp2_with fail
  refine wp_region_held_drew (S := (sF w)) (by kernel_rfl) (HS.out _ NN3.out.drew.be1) (fun hHeld => ?_)
  refine takeH (i := 0) (d := some 34) (v := ?_) rfl rfl (by kernel_rfl) (by kernel_rfl) (by kernel_rfl) (fun _ _ _ h => h) (Or.inl ⟨by rfl, ?_⟩) hHeld ?_
  rotate_left
  · intro w' hSw; (try dsimp only at hSw); obtain ⟨q1, q2, q3, q4⟩ := hSw; go_simp; try with_reducible rfl
  simp only [Act.put, List.setIfInBounds_toArray, List.set_cons_zero, List.set_cons_succ]
  refine takeH (i := 1) (d := some 35) (v := ?_) rfl rfl (by kernel_rfl) (by kernel_rfl) (by kernel_rfl) (fun _ _ _ h => h) (Or.inl ⟨by rfl, ?_⟩) hHeld ?_
  rotate_left
  · intro w' hSw; (try dsimp only at hSw); obtain ⟨q1, q2, q3, q4⟩ := hSw; go_simp; try with_reducible rfl
  simp only [Act.put, List.setIfInBounds_toArray, List.set_cons_zero, List.set_cons_succ]
  refine takeH (i := 2) (d := some 36) (v := ?_) rfl rfl (by kernel_rfl) (by kernel_rfl) (by kernel_rfl) (fun _ _ _ h => h) (Or.inl ⟨by rfl, ?_⟩) hHeld ?_
  rotate_left
  · intro w' hSw; (try dsimp only at hSw); go_simp; try with_reducible rfl
  simp only [Act.put, List.setIfInBounds_toArray, List.set_cons_zero, List.set_cons_succ]
  refine takeH (i := 3) (d := some 37) (v := ?_) rfl rfl (by kernel_rfl) (by kernel_rfl) (by kernel_rfl) (fun _ _ _ h => h) (Or.inl ⟨by rfl, ?_⟩) hHeld ?_
  rotate_left
  · intro w' hSw; (try dsimp only at hSw); go_simp; try with_reducible rfl
  simp only [Act.put, List.setIfInBounds_toArray, List.set_cons_zero, List.set_cons_succ]
  refine wpAnyH_ready (rs := [4]) (by kernel_rfl) (by simp) ?_
  refine AllReadyH.cons rfl (fun K hK => ?_) (AllReadyH.nil)
  go_simp
  refine (HRb.out _).mono ?_; rintro e wB ⟨rfl, rfl⟩
  clear hHeld
  refine hK.out _ _ (HS.out _ NN3.out.drew.be1) (fun hHeld => ?_)
  clear hK K
  try simp only [Act.put, List.setIfInBounds_toArray, List.set_cons_zero, List.set_cons_succ]
  refine takeH (i := 5) (d := some 39) (v := ?_) rfl rfl (by kernel_rfl) (by kernel_rfl) (by kernel_rfl) (fun _ _ _ h => h) (Or.inl ⟨by rfl, ?_⟩) hHeld ?_
  rotate_left
  · intro w' hSw; (try dsimp only at hSw); go_simp; try with_reducible rfl
  simp only [Act.put, List.setIfInBounds_toArray, List.set_cons_zero, List.set_cons_succ]
  refine wpAnyH_ready (rs := [6]) (by kernel_rfl) (by simp) ?_
  refine AllReadyH.cons rfl (fun K hK => ?_) (AllReadyH.nil)
  go_simp
  refine (HDd.out _ _ HWb.out NN3.out.drew).mono ?_; rintro e w5 ⟨d, Q, rfl, n5⟩
  have NN5 := Lib.hid n5
  clear n5
  clear hHeld
  refine hK.out _ _ (HS.out _ NN5.out.be1) (fun hHeld => ?_)
  clear hK K
  try simp only [Act.put, List.setIfInBounds_toArray, List.set_cons_zero, List.set_cons_succ]
  refine takeH (i := 7) (d := some 33) (v := ?_) rfl rfl (by kernel_rfl) (by kernel_rfl) (by kernel_rfl) (fun _ _ _ h => h) (Or.inl ⟨by rfl, ?_⟩) hHeld ?_
  rotate_left
  · intro w' hSw; (try dsimp only at hSw); go_simp; try with_reducible rfl
  simp only [Act.put, List.setIfInBounds_toArray, List.set_cons_zero, List.set_cons_succ]
  refine takeH (i := 8) (d := some 41) (v := ?_) rfl rfl (by kernel_rfl) (by kernel_rfl) (by kernel_rfl) (fun _ _ _ h => h) (Or.inl ⟨by rfl, ?_⟩) hHeld ?_
  rotate_left
  · intro w' hSw; (try dsimp only at hSw); go_simp; try with_reducible rfl
  simp only [Act.put, List.setIfInBounds_toArray, List.set_cons_zero, List.set_cons_succ]
  refine takeH (i := 9) (d := some 42) (v := ?_) rfl rfl (by kernel_rfl) (by kernel_rfl) (by kernel_rfl) (fun _ _ _ h => h) (Or.inl ⟨by rfl, ?_⟩) hHeld ?_
  rotate_left
  · intro w' hSw; (try dsimp only at hSw); go_simp; try with_reducible rfl
  simp only [Act.put, List.setIfInBounds_toArray, List.set_cons_zero, List.set_cons_succ]
  refine takeH (i := 10) (d := some 13) (v := ?_) rfl rfl (by kernel_rfl) (by kernel_rfl) (by kernel_rfl) (fun _ _ _ h => h) (Or.inl ⟨by rfl, ?_⟩) hHeld ?_
  rotate_left
  · intro w' hSw; (try dsimp only at hSw); go_simp; try with_reducible rfl
  simp only [Act.put, List.setIfInBounds_toArray, List.set_cons_zero, List.set_cons_succ]
  refine takeH (i := 11) (d := some 14) (v := ?_) rfl rfl (by kernel_rfl) (by kernel_rfl) (by kernel_rfl) (fun _ _ _ h => h) (Or.inl ⟨by rfl, ?_⟩) hHeld ?_
  rotate_left
  · intro w' hSw; (try dsimp only at hSw); go_simp; try with_reducible rfl
  simp only [Act.put, List.setIfInBounds_toArray, List.set_cons_zero, List.set_cons_succ]
  refine wpAnyH_done (by kernel_rfl) ?_ _
  go_wp2_with fail
  rw [HWa.out, HWb.out]
  have HU0 := Lib.hid (out_any NN5.out.two.ca HOa.out (by unfold Few; omega))
  clear HRa HRb HDc HDd NN3 B1 HS
  refine HU0.out.mono ?_; rintro e w6 ⟨vl, rfl, r6, P1, t6, u6⟩
  have T6 := Lib.hid (NN5.out.two.left t6 u6)
  have R6 := Lib.hid (r6.base NN5.out.two.be.size)
  clear r6 t6 u6 HU0 NN5
  have HU1 := Lib.hid (out_any T6.out.cb HOb.out (by unfold Few; omega))
  go_wp2_with fail
  refine HU1.out.mono ?_; rintro e w7 ⟨vm, rfl, r7, Q1, t7, u7⟩
  have X7 : Hid (BX w b (Cn.fresh 1 7 2 8 iss (8 + ra)).outC P1 d (Cn.fresh 2 8 1 7 irs (8 + rb)).outC Q1 vl (Cn.fresh 1 7 2 8 iss (8 + ra)).outL vm (Cn.fresh 2 8 1 7 irs (8 + rb)).outL w7) := ⟨T6.out.right t7 u7, R6.out.up T6.out.cb u7, r7.base T6.out.be.size⟩
  clear r7 t7 u7 HU1 T6 R6
  rw [fresh_outC HA.out.1, fresh_outC HB.out.1, fresh_outL HA.out.1 HI.out, fresh_outL HB.out.1 HJ.out] at X7
  have HOa := Lib.hid (HOa.out.outC (by unfold Few; omega))
  have HOb := Lib.hid (HOb.out.outC (by unfold Few; omega))
  rw [fresh_outC HA.out.1] at HOa
  rw [fresh_outC HB.out.1] at HOb
  go_wp2_with fail
  go_loopw [15, 16, 61] (fun vl vm i W => ∃ (n : Nat) (P Q : Pt), n ≤ 6 ∧ i = .int .i64 (n : Int) ∧ BX w b (bothC 1 7 2 8 iss irs (8 + ra) (8 + rb) n) P d (bothC 2 8 1 7 irs iss (8 + rb) (8 + ra) n) Q vl (bothL 1 7 2 8 iss irs (8 + ra) n) vm (bothL 2 8 1 7 irs iss (8 + rb) n) W ∧ Hid (COk (2 * n) (bothC 1 7 2 8 iss irs (8 + ra) (8 + rb) n)) ∧ Hid (COk (2 * n) (bothC 2 8 1 7 irs iss (8 + rb) (8 + ra) n))) (fun _ _ i _ => 6 - (intOf i).toNat)
  case atStart => exact ⟨0, P1, Q1, by omega, rfl, X7.out, HOa, HOb⟩
  case round =>
    obtain ⟨n, P, Q, hn, rfl, hX, OKc, OKe⟩ := hrel
    have BX0 := Lib.hid hX
    clear hX X7
    by_cases h6 : n < 6
    · have d6 : decide ((n : Int) < 6) = true := decide_eq_true (by omega)
      have HsL : Hid (∀ (j : Nat) q, (bothL 1 7 2 8 iss irs (8 + ra) n)[j]? = some q → SOk q) := fun j q hq => both_ok (by decide) (by decide) HI.out n q (List.mem_of_getElem? hq)
      have HsM : Hid (∀ (j : Nat) q, (bothL 2 8 1 7 irs iss (8 + rb) n)[j]? = some q → SOk q) := fun j q hq => both_ok (by decide) (by decide) HJ.out n q (List.mem_of_getElem? hq)
      have hlL : (bothL 1 7 2 8 iss irs (8 + ra) n).length ≤ 1 := bothL_len n
      have hlM : (bothL 2 8 1 7 irs iss (8 + rb) n).length ≤ 1 := bothL_len n
      have HStA : Hid (∀ _ : Unit, (ins (bothC 1 7 2 8 iss irs (8 + ra) (8 + rb) n) (bothL 2 8 1 7 irs iss (8 + rb) n)).outC = bothC 1 7 2 8 iss irs (8 + ra) (8 + rb) (n + 1) ∧ (ins (bothC 1 7 2 8 iss irs (8 + ra) (8 + rb) n) (bothL 2 8 1 7 irs iss (8 + rb) n)).outL = bothL 1 7 2 8 iss irs (8 + ra) (n + 1)) := fun _ => both_step HI.out HJ.out HA.out HB.out (by decide) (by decide) n
      have HStB : Hid (∀ _ : Unit, (ins (bothC 2 8 1 7 irs iss (8 + rb) (8 + ra) n) (bothL 1 7 2 8 iss irs (8 + ra) n)).outC = bothC 2 8 1 7 irs iss (8 + rb) (8 + ra) (n + 1) ∧ (ins (bothC 2 8 1 7 irs iss (8 + rb) (8 + ra) n) (bothL 1 7 2 8 iss irs (8 + ra) n)).outL = bothL 2 8 1 7 irs iss (8 + rb) (n + 1)) := fun _ => both_step HJ.out HI.out HB.out HA.out (by decide) (by decide) n
      generalize bothL 1 7 2 8 iss irs (8 + ra) n = L at *
      generalize bothL 2 8 1 7 irs iss (8 + rb) n = M at *
      generalize bothC 1 7 2 8 iss irs (8 + ra) (8 + rb) n = c at *
      generalize bothC 2 8 1 7 irs iss (8 + rb) (8 + ra) n = e at *
      obtain ⟨ol, gl, capl, hvl, hol⟩ := BX0.out.rl.form
      obtain ⟨om, gm, capm, hvm, hom⟩ := BX0.out.rm.form
      have HtL : Hid (∀ (j : Nat) q, L[j]? = some q → ins e (L.take (j + 1)) = (ins e (L.take j)).inC q) := fun j q hq => by
        rw [List.take_add_one, hq]; exact ins_add _ _ _
      have HtM : Hid (∀ (j : Nat) q, M[j]? = some q → ins c (M.take (j + 1)) = (ins c (M.take j)).inC q) := fun j q hq => by
        rw [List.take_add_one, hq]; exact ins_add _ _ _
      have HxL : ∀ j : Nat, j < L.length → ∃ q, L[j]? = some q := fun j hj => ⟨_, List.getElem?_eq_getElem hj⟩
      have HxM : ∀ j : Nat, j < M.length → ∃ q, M[j]? = some q := fun j hj => ⟨_, List.getElem?_eq_getElem hj⟩
      have HfL : Hid (L.take L.length = L) := List.take_length
      have HfM : Hid (M.take M.length = M) := List.take_length
      have HUs := Lib.hid Try.underlying33
      generalize hlen : L.length = len at *
      generalize hmen : M.length = men at *
      clear hlen hmen
      subst hvl hvm
      have hin0 : Hid (ins e (L.take 0) = e) := rfl
      have hin1 : Hid (ins c (M.take 0) = c) := rfl
      go_wp2_with fail
      go_loopw [65] (fun i W => ∃ (j : Nat) (Q2 : Pt), j ≤ len ∧ i = .int .i64 (j : Int) ∧ BX w b c P d (ins e (L.take j)) Q2 (.slice ol len capl) L (.slice om men capm) M W ∧ Hid (COk (2 * n + 2 * j) (ins e (L.take j)))) (fun i _ => len - (intOf i).toNat)
      case atStart => exact ⟨0, Q, Nat.zero_le _, rfl, BX0.out, OKe⟩
      case round =>
        obtain ⟨j, Q2, hj, rfl, hX, OKj⟩ := hrel
        have X2 := Lib.hid hX
        clear hX
        by_cases hlt : j < len
        · obtain ⟨q, hq⟩ := HxL j hlt
          obtain ⟨rfl, _, _⟩ := hol (by omega)
          have RR := Lib.hid (X2.out.rl.range hq)
          have SOKq := Lib.hid (HsL.out j q hq)
          have HTq := Lib.hid (HtL.out j q hq)
          have OKq := Lib.hid (OKj.out.inC SOKq.out)
          have HIn : Hid (∀ W, BX w b c P d (ins e (L.take j)) Q2 (.slice (some ⟨gl, 0, none⟩) len capl) L (.slice om men capm) M W → Calls Try.prog 15 #[ptr d, gv q] W fun e' w' => (∃ v, e' = .returned (.int .i64 v)) ∧ ∃ Q2', BX w b c P d ((ins e (L.take j)).inC q) Q2' (.slice (some ⟨gl, 0, none⟩) len capl) L (.slice om men capm) M w') := fun W h' =>
            (in_any h'.two.cb OKj.out (by unfold Few; omega) SOKq.out).mono fun e' w' ⟨h1, Q', h2, h3⟩ => ⟨⟨_, h1⟩, Q', h'.right h2 h3⟩
          have X3 : Hid (BX w b c P d (ins e (L.take j)) Q2 (.slice (some ⟨gl, 0, none⟩) len capl) L (.slice om men capm) M ((wr.alloc (.cells gzc 33)).setCells wr.heap.size 0 (gcl q))) := X2.out.keep (segAt_be wr _)
          have GB0 := Lib.hid (seg0 wr)
          have YQ : Hid (Tc.GB wr.heap.size q ((wr.alloc (.cells gzc 33)).setCells wr.heap.size 0 (gcl q))) := segAt_gb wr q
          clear HxL hol hq X2 SOKq
          try clear BX0
          go_upto_region 12 with (first | (refine wpList_load_mid rfl 33 _ rfl gl (j * 13) rfl (gcl q) _ RR.out HUs.out rfl infoSeg ?_) | (refine wpList_store_mid rfl 33 _ _ rfl wr.heap.size 0 (gc q) rfl rfl (GB.there GB0.out) infoSeg (gc_one' q) ?_))
          generalize (wr.alloc (.cells gzc 33)).setCells wr.heap.size 0 (gcl q) = W4 at *
          generalize wr.heap.size = yq at *
          clear GB0
          go_wp2_with (refine wpList_load_mid rfl 33 _ rfl yq 0 rfl (gcl q) _ (GB.range YQ.out) HUs.out rfl infoSeg ?_)
          refine (HIn.out _ X3.out).mono ?_; rintro e' w5 ⟨⟨v, rfl⟩, Q2', h5⟩
          have X5 := Lib.hid h5
          clear h5
          go_wp2_with fail
          go_roundw
          case rel => exact ⟨j + 1, Q2', hlt, by simp, by rw [HTq.out]; exact X5.out, by rw [HTq.out]; exact OKq⟩
          case measure => simp [intOf]; omega
        · have ej : len = j := by omega
          subst ej
          rw [HfL.out] at X2 OKj
          have X9 := Lib.hid X2.out
          generalize Q2 = Q9 at *
          have OKd := OKj
          clear X2 OKj BX0
          go_wp2_with fail
          go_loopw [75] (fun i W => ∃ (j : Nat) (P2 : Pt), j ≤ men ∧ i = .int .i64 (j : Int) ∧ BX w b (ins c (M.take j)) P2 d (ins e L) Q9 (.slice ol len capl) L (.slice om men capm) M W ∧ Hid (COk (2 * n + 2 * j) (ins c (M.take j)))) (fun i _ => men - (intOf i).toNat)
          case atStart => exact ⟨0, P, Nat.zero_le _, rfl, X9.out, OKc⟩
          case round =>
            obtain ⟨j, P2, hj, rfl, hX, OKj⟩ := hrel
            have X2 := Lib.hid hX
            clear hX
            by_cases hlt : j < men
            · obtain ⟨q, hq⟩ := HxM j hlt
              obtain ⟨rfl, _, _⟩ := hom (by omega)
              have RR := Lib.hid (X2.out.rm.range hq)
              have SOKq := Lib.hid (HsM.out j q hq)
              have HTq := Lib.hid (HtM.out j q hq)
              have OKq := Lib.hid (OKj.out.inC SOKq.out)
              have HIn : Hid (∀ W, BX w b (ins c (M.take j)) P2 d (ins e L) Q9 (.slice ol len capl) L (.slice (some ⟨gm, 0, none⟩) men capm) M W → Calls Try.prog 15 #[ptr b, gv q] W fun e' w' => (∃ v, e' = .returned (.int .i64 v)) ∧ ∃ P2', BX w b ((ins c (M.take j)).inC q) P2' d (ins e L) Q9 (.slice ol len capl) L (.slice (some ⟨gm, 0, none⟩) men capm) M w') := fun W h' =>
                (in_any h'.two.ca OKj.out (by unfold Few; omega) SOKq.out).mono fun e' w' ⟨h1, Q', h2, h3⟩ => ⟨⟨_, h1⟩, Q', h'.left h2 h3⟩
              have X3 : Hid (BX w b (ins c (M.take j)) P2 d (ins e L) Q9 (.slice ol len capl) L (.slice (some ⟨gm, 0, none⟩) men capm) M ((wr.alloc (.cells gzc 33)).setCells wr.heap.size 0 (gcl q))) := X2.out.keep (segAt_be wr _)
              have GB0 := Lib.hid (seg0 wr)
              have YQ : Hid (Tc.GB wr.heap.size q ((wr.alloc (.cells gzc 33)).setCells wr.heap.size 0 (gcl q))) := segAt_gb wr q
              clear HxM hom hq X2 SOKq
              try clear BX0
              go_upto_region 17 with (first | (refine wpList_load_mid rfl 33 _ rfl gm (j * 13) rfl (gcl q) _ RR.out HUs.out rfl infoSeg ?_) | (refine wpList_store_mid rfl 33 _ _ rfl wr.heap.size 0 (gc q) rfl rfl (GB.there GB0.out) infoSeg (gc_one' q) ?_))
              generalize (wr.alloc (.cells gzc 33)).setCells wr.heap.size 0 (gcl q) = W4 at *
              generalize wr.heap.size = yq at *
              clear GB0
              go_wp2_with (refine wpList_load_mid rfl 33 _ rfl yq 0 rfl (gcl q) _ (GB.range YQ.out) HUs.out rfl infoSeg ?_)
              refine (HIn.out _ X3.out).mono ?_; rintro e' w5 ⟨⟨v, rfl⟩, P2', h5⟩
              have X5 := Lib.hid h5
              clear h5
              go_wp2_with fail
              go_roundw
              case rel => exact ⟨j + 1, P2', hlt, by simp, by rw [HTq.out]; exact X5.out, by rw [HTq.out]; exact OKq⟩
              case measure => simp [intOf]; omega
            · have ej : men = j := by omega
              subst ej
              rw [HfM.out] at X2 OKj
              have X6 := Lib.hid X2.out
              clear X2 X9
              have HOc := Lib.hid (out_any X6.out.two.ca OKj.out (by unfold Few; omega))
              go_wp2_with fail
              refine HOc.out.mono ?_; rintro e' w6 ⟨vl', rfl, r6, P6, t6, u6⟩
              have T6 := Lib.hid (X6.out.two.left t6 u6)
              have R6 := Lib.hid (r6.base X6.out.two.be.size)
              clear r6 t6 u6 HOc X6
              have HOe := Lib.hid (out_any T6.out.cb OKd.out (by unfold Few; omega))
              go_wp2_with fail
              refine HOe.out.mono ?_; rintro e' w7 ⟨vm', rfl, r7, Q7, t7, u7⟩
              have X7 : Hid (BX w b (ins c M).outC P6 d (ins e L).outC Q7 vl' (ins c M).outL vm' (ins e L).outL w7) := ⟨T6.out.right t7 u7, R6.out.up T6.out.cb u7, r7.base T6.out.be.size⟩
              clear r7 t7 u7 HOe T6 R6
              have OK8 := Lib.hid ((OKj.out.outC (by unfold Few; omega)).mono (show 2 * n + 2 * men ≤ 2 * (n + 1) by omega))
              have OK9 := Lib.hid ((OKd.out.outC (by unfold Few; omega)).mono (show 2 * n + 2 * len ≤ 2 * (n + 1) by omega))
              rw [(HStA.out ()).1, (HStA.out ()).2, (HStB.out ()).1, (HStB.out ()).2] at X7
              rw [(HStA.out ()).1] at OK8
              rw [(HStB.out ()).1] at OK9
              go_wp2_with fail
              go_roundw
              case rel => exact ⟨n + 1, P6, Q7, by omega, by simp, X7.out, OK8, OK9⟩
              case measure => simp [intOf]; omega
    · obtain rfl : n = 6 := by omega
      have HSa : Hid (Calls Try.prog 11 #[ptr b] wr fun e w' => e = .returned (.int .i64 3) ∧ w' = wr) := state_any BX0.out.two.ca
      have HSb : Hid (Calls Try.prog 11 #[ptr d] wr fun e w' => e = .returned (.int .i64 3) ∧ w' = wr) := state_any BX0.out.two.cb
      have e1 : bothL 1 7 2 8 iss irs (8 + ra) 6 = [] := rfl
      have e2 : bothL 2 8 1 7 irs iss (8 + rb) 6 = [] := rfl
      obtain ⟨ol, gl, capl, hvl, _⟩ := BX0.out.rl.form
      obtain ⟨om, gm, capm, hvm, _⟩ := BX0.out.rm.form
      rw [e1] at hvl
      rw [e2] at hvm
      have HBe := Lib.hid BX0.out.two.be
      clear BX0 e1 e2
      subst hvl hvm
      go_wp2_with fail
      refine HSa.out.mono ?_; rintro e w8 ⟨rfl, rfl⟩
      go_wp2_with fail
      refine HSb.out.mono ?_; rintro e w9 ⟨rfl, rfl⟩
      go_wp2_with fail
      go_ret
      exact ⟨rfl, HBe.out⟩
end Go.Proofs.Ytnhcjefbiihfjab
