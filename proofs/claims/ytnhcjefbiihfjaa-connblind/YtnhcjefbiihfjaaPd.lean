/-
  Contract of paired: two connections, of which one was dialled, the other one taken.
-/
import Derived.Test.YtnhcjefbiihfjaaPa
import Derived.Deep.CutBlock
namespace Go.Proofs.Ytnhcjefbiihfjaa
open Go.RowKit
open Tc (Sg gchk gv gc)
set_option linter.unusedVariables false
set_option linter.unusedSimpArgs false

/-- The array of both mss, and the pair without connections. -/
structure AR (w : World) (x y : Int) (W : World) : Prop where
  ar : W.heap[w.heap.size]? = some (.cells #[.int .i64 x, .int .i64 y] 56 (0, 0))
  pr : W.heap[w.heap.size + 1]? = some (.cells (pac pr0 (.pointer none) (.pointer none) (.slice none 0 0)) 64 (0, 0))
  be : Below w.heap.size w W
def sP (w : World) (x y : Int) (W : World) : Prop :=
  W.cell? ⟨w.heap.size + 1, 2, none⟩ = some (.int .u32 1) ∧ W.cell? ⟨w.heap.size + 1, 3, none⟩ = some (.int .i64 40000) ∧ W.cell? ⟨w.heap.size + 1, 4, none⟩ = some (.int .u32 2) ∧ W.cell? ⟨w.heap.size + 1, 5, none⟩ = some (.int .i64 80) ∧
  W.cell? ⟨w.heap.size, 0, none⟩ = some (.int .i64 x) ∧ W.cell? ⟨w.heap.size, 1, none⟩ = some (.int .i64 y)
/-- The first connection is there. -/
structure AN (w : World) (x y : Int) (b : Nat) (c : Cn) (P : Pt) (W : World) : Prop where
  a : AR w x y W
  nc : NC w b c P W
/-- Its SYN has gone out. -/
structure AO (w : World) (x y : Int) (b : Nat) (c : Cn) (P : Pt) (v : Value) (l : List Sg) (W : World) : Prop where
  a : AR w x y W
  nc : NC w b c P W
  row : SRow W w.heap.size v l
structure AZ (w : World) (x y : Int) (b : Nat) (c : Cn) (P : Pt) (v : Value) (l : List Sg) (d : Nat) (e : Cn) (Q : Pt) (W : World) : Prop where
  n7 : AO w x y b c P v l W
  two : N2 w b c P d e Q W
section
variable {w W W' : World} {x y : Int} {b d : Nat} {c c' e : Cn} {P P' Q : Pt} {v : Value} {l : List Sg}
theorem AR.keep (h : AR w x y W) (u : Below W.heap.size W W') : AR w x y W' := ⟨(u.block _ (lt_of_heap h.ar)).trans h.ar, (u.block _ (lt_of_heap h.pr)).trans h.pr, below_trans h.be u⟩
theorem AR.drew (h : AR w x y W) : AR w x y W.drew := h.keep (Below.refl _ _).drew
theorem AR.s (h : AR w x y W) : sP w x y W := ⟨Joins.cell_of_block h.pr 2, Joins.cell_of_block h.pr 3, Joins.cell_of_block h.pr 4, Joins.cell_of_block h.pr 5, Joins.cell_of_block h.ar 0, Joins.cell_of_block h.ar 1⟩
theorem AR.set0 (h : AR w x y W) (z : Int) : AR w z y (W.setCell ⟨w.heap.size, 0, none⟩ (.int .i64 z)) := ⟨Joins.block_setCell h.ar _, (Below.heap_setCell _ _ _ _ (by simp)).trans h.pr, h.be.setCell (Nat.le_refl _) _⟩
theorem AR.set1 (h : AR w x y W) (z : Int) : AR w x z (W.setCell ⟨w.heap.size, 1, none⟩ (.int .i64 z)) := ⟨Joins.block_setCell h.ar _, (Below.heap_setCell _ _ _ _ (by simp)).trans h.pr, h.be.setCell (Nat.le_refl _) _⟩
theorem AN.out (h : AN w x y b c P W) (h' : CT b c' P' W') (u : Up b P P' W W') (hr : SRow W' W.heap.size v l) : AO w x y b c' P' v l W' :=
  ⟨⟨(u.kp.block _ (lt_of_heap h.a.ar) (h.nc.ct.no_type h.a.ar (by decide) (by decide) (by decide) (by decide) (by decide) (by decide) (by decide))).trans h.a.ar, (u.kp.block _ (lt_of_heap h.a.pr) (h.nc.ct.no_pair h.a.pr)).trans h.a.pr, (h.nc.to h' u).be⟩, h.nc.to h' u, hr.base h.nc.be.size⟩
theorem AO.keep (h : AO w x y b c P v l W) (u : Below W.heap.size W W') : AO w x y b c P v l W' := ⟨h.a.keep u, h.nc.keep u, h.row.on u⟩
theorem AO.drew (h : AO w x y b c P v l W) : AO w x y b c P v l W.drew := h.keep (Below.refl _ _).drew
/-- Both are laid into the pair. -/
theorem AZ.done (h : AZ w x y b c P v l d e Q W) : PM w ⟨w.heap.size + 1, .slice none 0 0, b, P, d, Q⟩ pr0 c e ((W.setCell ⟨w.heap.size + 1, 0, none⟩ (ptr b)).setCell ⟨w.heap.size + 1, 1, none⟩ (ptr d)) := by
  have hk : Kp [w.heap.size + 1] W ((W.setCell ⟨w.heap.size + 1, 0, none⟩ (ptr b)).setCell ⟨w.heap.size + 1, 1, none⟩ (ptr d)) := ((Kp.refl _ _).setCell (Or.inl (by simp)) _).setCell (Or.inl (by simp)) _
  refine ⟨?_, ORow.nil _ _, ⟨h.two.ca.kp hk fun z hz hm => ?_, h.two.cb.kp hk fun z hz hm => ?_, (h.two.be.setCell (by simp) _).setCell (by simp) _, h.two.la, h.two.lb, h.two.dj⟩, by simp⟩
  · exact Joins.block_setCell (i := 1) (Joins.block_setCell (i := 0) h.n7.a.pr (ptr b)) (ptr d)
  · obtain rfl : z = w.heap.size + 1 := by simpa using hm
    exact h.two.ca.no_pair h.n7.a.pr hz
  · obtain rfl : z = w.heap.size + 1 := by simpa using hm
    exact h.two.cb.no_pair h.n7.a.pr hz
end
set_option maxRecDepth 100000 in
set_option maxHeartbeats 4000000 in
theorem paired_any (iss irs : Nat) (ma mb : Int) (w : World) (hi : iss < 4294967296) (hj : irs < 4294967296) (hma : -9223372036854775808 ≤ ma ∧ ma ≤ 9223372036854775807) (hmb : -9223372036854775808 ≤ mb ∧ mb ≤ 9223372036854775807) :
    Calls Try.prog 16 #[.int .u32 (iss : Int), .int .u32 (irs : Int), .agg #[.int .i64 ma, .int .i64 mb]] w fun e w' => ∃ x b P d Q, e = .returned (.tuple #[ptr x, .bool true]) ∧ PM w ⟨x, .slice none 0 0, b, P, d, Q⟩ pr0 (dialled 1 40000 2 80 iss (8 + ma % 993)) (taken 2 80 1 40000 irs iss (8 + mb % 993) (min (8 + mb % 993) (8 + ma % 993))) w' := by
  have HRa : Hid (∀ W, Calls Try.prog 18 #[.int .i64 ma, .int .i64 993] W fun e w' => e = .returned (.int .i64 (ma % 993)) ∧ w' = W) := fun W => rest_any ma 993 W (by decide) (by decide) hma.1 hma.2
  have HRb : Hid (∀ W, Calls Try.prog 18 #[.int .i64 mb, .int .i64 993] W fun e w' => e = .returned (.int .i64 (mb % 993)) ∧ w' = W) := fun W => rest_any mb 993 W (by decide) (by decide) hmb.1 hmb.2
  have h0 : 0 ≤ ma % 993 ∧ ma % 993 < 993 := by omega
  have h1 : 0 ≤ mb % 993 ∧ mb % 993 < 993 := by omega
  generalize ma % 993 = ra at *
  generalize mb % 993 = rb at *
  have hA : 8 ≤ 8 + ra ∧ 8 + ra ≤ 1000 := by omega
  have hB : 8 ≤ 8 + rb ∧ 8 + rb ≤ 1000 := by omega
  have HA0 : Hid (AR w ma mb ((w.alloc (.cells #[.int .i64 ma, .int .i64 mb] 56)).alloc (.cells (pac pr0 (.pointer none) (.pointer none) (.slice none 0 0)) 64))) := by
    refine ⟨(Below.heap_alloc _ _ _ (by simp)).trans (heap_alloc_new w _), ?_, ((Below.refl _ _).alloc (Nat.le_refl _) _).alloc (by simp) _⟩
    have := heap_alloc_new (w.alloc (.cells #[.int .i64 ma, .int .i64 mb] 56)) (.cells (pac pr0 (.pointer none) (.pointer none) (.slice none 0 0)) 64)
    simpa using this
  have HS : Hid (∀ {W}, AR w (8 + ra) (8 + rb) W → sP w (8 + ra) (8 + rb) W) := fun h => h.s
  have HDi : Hid (∀ W, AR w (8 + ra) (8 + rb) W → Calls Try.prog 5 #[.agg #[.int .u32 1, .int .i64 40000], .agg #[.int .u32 2, .int .i64 80], .int .u32 (iss : Int), .int .i64 (8 + ra)] W fun e w' => ∃ b P, e = .returned (.tuple #[ptr b, .int .i64 0]) ∧ AN w (8 + ra) (8 + rb) b (Cn.fresh 1 40000 2 80 iss (8 + ra)) P w') := fun W hW =>
    (dial_ok (l := (1, 40000)) (r := (2, 80)) (by decide) (by decide) hA).mono fun e w' ⟨b, P, h1, h2, h3, h4⟩ => ⟨b, P, h1, hW.keep h3, h2, below_trans hW.be h3, fun x hx => Nat.le_trans hW.be.size (h4 x hx)⟩
  have HO0 : Hid (COk 0 (Cn.fresh 1 40000 2 80 iss (8 + ra))) := COk.fresh (by decide) (by decide) hi (by decide) (by decide) hA
  have HTE : takeE (2, 80) (synSg 1 40000 2 80 iss (8 + ra)) (8 + rb) = 0 := by
    unfold takeE
    rw [if_neg (by omega), if_neg (by rw [syn_chk hA.1 hA.2 (by decide) (by decide)]; decide), if_neg (by simp [synSg]), if_neg (by simp [synSg])]
  have HTC : takeC (2, 80) (synSg 1 40000 2 80 iss (8 + ra)) irs (8 + rb) = taken 2 80 1 40000 irs iss (8 + rb) (min (8 + rb) (8 + ra)) := by
    have m1 : Cn.mssOf (synSg 1 40000 2 80 iss (8 + ra)) = 8 + ra := by
      show (if 8 + ra = 0 then (536 : Int) else max (8 + ra) 8) = 8 + ra
      rw [if_neg (by omega)]; omega
    unfold takeC Cn.meet
    rw [m1]; rfl
  have HTa : Hid (∀ {b c P v} W, AO w (8 + ra) (8 + rb) b c P v [synSg 1 40000 2 80 iss (8 + ra)] W → Calls Try.prog 35 #[.agg #[.int .u32 2, .int .i64 80], gv (synSg 1 40000 2 80 iss (8 + ra)), .int .u32 (irs : Int), .int .i64 (8 + rb)] W fun e w' => ∃ d Q, e = .returned (.tuple #[ptr d, .int .i64 0]) ∧ AZ w (8 + ra) (8 + rb) b c P v [synSg 1 40000 2 80 iss (8 + ra)] d (taken 2 80 1 40000 irs iss (8 + rb) (min (8 + rb) (8 + ra))) Q w') := fun {b c P v} W hW =>
    (take_any (l := (2, 80)) (g := synSg 1 40000 2 80 iss (8 + ra)) (by decide) hB ⟨by show 1 < 4294967296; decide, by show 2 < 4294967296; decide, hi, by show 0 < 4294967296; decide⟩ (by decide) hj).mono fun e w' ⟨h1, _, h3⟩ => by
      obtain ⟨d, Q, e1, e2, e3⟩ := h3 HTE
      rw [HTC] at e2
      exact ⟨d, Q, e1, hW.keep h1, N2.new hW.nc e2 h1 e3⟩
  have HI := Lib.hid hi
  have HA := Lib.hid hA
  have HUs := Lib.hid Try.underlying35
  clear hma hmb hA hB hi hj HTE HTC
  go_enter Try.func16, Try.ntmps16
  go_wp2_with fail
  go_loopw [19] (fun i W => (i = .int .i64 0 ∧ AR w ma mb W) ∨ (i = .int .i64 1 ∧ AR w (8 + ra) mb W) ∨ (i = .int .i64 2 ∧ AR w (8 + ra) (8 + rb) W)) (fun i _ => 2 - (intOf i).toNat)
  case atStart => exact Or.inl ⟨rfl, HA0.out⟩
  case round =>
    rcases hrel with ⟨rfl, hr⟩ | ⟨rfl, hr⟩ | ⟨rfl, hr⟩
    · have y0 := Joins.cell_of_block hr.ar 0
      have f0 := Joins.unfrozen_of_block hr.ar 0
      have R2 := Lib.hid (hr.set0 (8 + ra))
      clear hr
      go_wp2_with fail
      refine (HRa.out _).mono ?_; rintro e w3 ⟨rfl, rfl⟩
      go_wp2_with fail
      go_roundw
      case rel => exact Or.inr (Or.inl ⟨rfl, R2.out⟩)
      case measure => simp [intOf]
    · have y0 := Joins.cell_of_block hr.ar 1
      have f0 := Joins.unfrozen_of_block hr.ar 1
      have R2 := Lib.hid (hr.set1 (8 + rb))
      clear hr
      go_wp2_with fail
      refine (HRb.out _).mono ?_; rintro e w3 ⟨rfl, rfl⟩
      go_wp2_with fail
      go_roundw
      case rel => exact Or.inr (Or.inr ⟨rfl, R2.out⟩)
      case measure => simp [intOf]
    · have A4 := Lib.hid hr
      clear hr HRa HRb HA0
      go_wp2_with fail
      refine wp_region_held_drew (S := (sP w (8 + ra) (8 + rb))) (by kernel_rfl) (HS.out A4.out.drew) (fun hHeld => ?_)
      refine takeH (i := 0) (d := some 31) (v := ?_) rfl rfl (by kernel_rfl) (by kernel_rfl) (by kernel_rfl) (fun _ _ _ h => h) (Or.inl ⟨by rfl, ?_⟩) hHeld ?_
      rotate_left
      · intro w' hSw; (try dsimp only at hSw); go_simp; try with_reducible rfl
      simp only [Act.put, List.setIfInBounds_toArray, List.set_cons_zero, List.set_cons_succ]
      refine takeH (i := 1) (d := some 32) (v := ?_) rfl rfl (by kernel_rfl) (by kernel_rfl) (by kernel_rfl) (fun _ _ _ h => h) (Or.inl ⟨by rfl, ?_⟩) hHeld ?_
      rotate_left
      · intro w' hSw; (try dsimp only at hSw); go_simp; try with_reducible rfl
      simp only [Act.put, List.setIfInBounds_toArray, List.set_cons_zero, List.set_cons_succ]
      refine takeH (i := 2) (d := some 33) (v := ?_) rfl rfl (by kernel_rfl) (by kernel_rfl) (by kernel_rfl) (fun _ _ _ h => h) (Or.inl ⟨by rfl, ?_⟩) hHeld ?_
      rotate_left
      · intro w' hSw; (try dsimp only at hSw); go_simp; try with_reducible rfl
      simp only [Act.put, List.setIfInBounds_toArray, List.set_cons_zero, List.set_cons_succ]
      refine takeH (i := 3) (d := some 34) (v := ?_) rfl rfl (by kernel_rfl) (by kernel_rfl) (by kernel_rfl) (fun _ _ _ h => h) (Or.inl ⟨by rfl, ?_⟩) hHeld ?_
      rotate_left
      · intro w' hSw; (try dsimp only at hSw); go_simp; try with_reducible rfl
      simp only [Act.put, List.setIfInBounds_toArray, List.set_cons_zero, List.set_cons_succ]
      refine takeH (i := 4) (d := some 35) (v := ?_) rfl rfl (by kernel_rfl) (by kernel_rfl) (by kernel_rfl) (fun _ _ _ h => h) (Or.inl ⟨by rfl, ?_⟩) hHeld ?_
      rotate_left
      · intro w' hSw; (try dsimp only at hSw); obtain ⟨q1, q2, q3, q4, q5, q6⟩ := hSw; go_simp; try with_reducible rfl
      simp only [Act.put, List.setIfInBounds_toArray, List.set_cons_zero, List.set_cons_succ]
      refine takeH (i := 5) (d := some 36) (v := ?_) rfl rfl (by kernel_rfl) (by kernel_rfl) (by kernel_rfl) (fun _ _ _ h => h) (Or.inl ⟨by rfl, ?_⟩) hHeld ?_
      rotate_left
      · intro w' hSw; (try dsimp only at hSw); go_simp; try with_reducible rfl
      simp only [Act.put, List.setIfInBounds_toArray, List.set_cons_zero, List.set_cons_succ]
      refine takeH (i := 6) (d := some 37) (v := ?_) rfl rfl (by kernel_rfl) (by kernel_rfl) (by kernel_rfl) (fun _ _ _ h => h) (Or.inl ⟨by rfl, ?_⟩) hHeld ?_
      rotate_left
      · intro w' hSw; (try dsimp only at hSw); go_simp; try with_reducible rfl
      simp only [Act.put, List.setIfInBounds_toArray, List.set_cons_zero, List.set_cons_succ]
      refine takeH (i := 7) (d := some 38) (v := ?_) rfl rfl (by kernel_rfl) (by kernel_rfl) (by kernel_rfl) (fun _ _ _ h => h) (Or.inl ⟨by rfl, ?_⟩) hHeld ?_
      rotate_left
      · intro w' hSw; (try dsimp only at hSw); go_simp; try with_reducible rfl
      simp only [Act.put, List.setIfInBounds_toArray, List.set_cons_zero, List.set_cons_succ]
      refine takeH (i := 8) (d := some 39) (v := ?_) rfl rfl (by kernel_rfl) (by kernel_rfl) (by kernel_rfl) (fun _ _ _ h => h) (Or.inl ⟨by rfl, ?_⟩) hHeld ?_
      rotate_left
      · intro w' hSw; (try dsimp only at hSw); go_simp; try with_reducible rfl
      simp only [Act.put, List.setIfInBounds_toArray, List.set_cons_zero, List.set_cons_succ]
      refine takeH (i := 9) (d := some 40) (v := ?_) rfl rfl (by kernel_rfl) (by kernel_rfl) (by kernel_rfl) (fun _ _ _ h => h) (Or.inl ⟨by rfl, ?_⟩) hHeld ?_
      rotate_left
      · intro w' hSw; (try dsimp only at hSw); obtain ⟨q1, q2, q3, q4, q5, q6⟩ := hSw; go_simp; try with_reducible rfl
      simp only [Act.put, List.setIfInBounds_toArray, List.set_cons_zero, List.set_cons_succ]
      refine takeH (i := 10) (d := some 41) (v := ?_) rfl rfl (by kernel_rfl) (by kernel_rfl) (by kernel_rfl) (fun _ _ _ h => h) (Or.inl ⟨by rfl, ?_⟩) hHeld ?_
      rotate_left
      · intro w' hSw; (try dsimp only at hSw); go_simp; try with_reducible rfl
      simp only [Act.put, List.setIfInBounds_toArray, List.set_cons_zero, List.set_cons_succ]
      refine takeH (i := 11) (d := some 42) (v := ?_) rfl rfl (by kernel_rfl) (by kernel_rfl) (by kernel_rfl) (fun _ _ _ h => h) (Or.inl ⟨by rfl, ?_⟩) hHeld ?_
      rotate_left
      · intro w' hSw; (try dsimp only at hSw); go_simp; try with_reducible rfl
      simp only [Act.put, List.setIfInBounds_toArray, List.set_cons_zero, List.set_cons_succ]
      refine takeH (i := 12) (d := some 43) (v := ?_) rfl rfl (by kernel_rfl) (by kernel_rfl) (by kernel_rfl) (fun _ _ _ h => h) (Or.inl ⟨by rfl, ?_⟩) hHeld ?_
      rotate_left
      · intro w' hSw; (try dsimp only at hSw); obtain ⟨q1, q2, q3, q4, q5, q6⟩ := hSw; go_simp; try with_reducible rfl
      simp only [Act.put, List.setIfInBounds_toArray, List.set_cons_zero, List.set_cons_succ]
      refine wpAnyH_ready (rs := [13]) (by kernel_rfl) (by simp) ?_
      refine AllReadyH.cons rfl (fun K hK => ?_) (AllReadyH.nil)
      go_simp
      refine (HDi.out _ A4.out.drew).mono ?_; rintro e w5 ⟨b, P, rfl, n5⟩
      have N5 := Lib.hid n5
      clear n5
      clear hHeld
      refine hK.out _ _ (HS.out N5.out.a) (fun hHeld => ?_)
      clear hK K
      try simp only [Act.put, List.setIfInBounds_toArray, List.set_cons_zero, List.set_cons_succ]
      refine takeH (i := 14) (d := some 30) (v := ?_) rfl rfl (by kernel_rfl) (by kernel_rfl) (by kernel_rfl) (fun _ _ _ h => h) (Or.inl ⟨by rfl, ?_⟩) hHeld ?_
      rotate_left
      · intro w' hSw; (try dsimp only at hSw); go_simp; try with_reducible rfl
      simp only [Act.put, List.setIfInBounds_toArray, List.set_cons_zero, List.set_cons_succ]
      refine takeH (i := 15) (d := some 45) (v := ?_) rfl rfl (by kernel_rfl) (by kernel_rfl) (by kernel_rfl) (fun _ _ _ h => h) (Or.inl ⟨by rfl, ?_⟩) hHeld ?_
      rotate_left
      · intro w' hSw; (try dsimp only at hSw); go_simp; try with_reducible rfl
      simp only [Act.put, List.setIfInBounds_toArray, List.set_cons_zero, List.set_cons_succ]
      refine takeH (i := 16) (d := some 46) (v := ?_) rfl rfl (by kernel_rfl) (by kernel_rfl) (by kernel_rfl) (fun _ _ _ h => h) (Or.inl ⟨by rfl, ?_⟩) hHeld ?_
      rotate_left
      · intro w' hSw; (try dsimp only at hSw); go_simp; try with_reducible rfl
      simp only [Act.put, List.setIfInBounds_toArray, List.set_cons_zero, List.set_cons_succ]
      refine takeH (i := 17) (d := some 10) (v := ?_) rfl rfl (by kernel_rfl) (by kernel_rfl) (by kernel_rfl) (fun _ _ _ h => h) (Or.inl ⟨by rfl, ?_⟩) hHeld ?_
      rotate_left
      · intro w' hSw; (try dsimp only at hSw); go_simp; try with_reducible rfl
      simp only [Act.put, List.setIfInBounds_toArray, List.set_cons_zero, List.set_cons_succ]
      refine takeH (i := 18) (d := some 11) (v := ?_) rfl rfl (by kernel_rfl) (by kernel_rfl) (by kernel_rfl) (fun _ _ _ h => h) (Or.inl ⟨by rfl, ?_⟩) hHeld ?_
      rotate_left
      · intro w' hSw; (try dsimp only at hSw); go_simp; try with_reducible rfl
      simp only [Act.put, List.setIfInBounds_toArray, List.set_cons_zero, List.set_cons_succ]
      refine wpAnyH_done (by kernel_rfl) ?_ _
      go_wp2_with fail
      have HU := Lib.hid (out_any N5.out.nc.ct HO0.out (by unfold Few; omega))
      refine HU.out.mono ?_; rintro e w6 ⟨v, rfl, r6, P6, t6, u6⟩
      rw [fresh_outC HA.out.1] at t6
      rw [fresh_outL HA.out.1 HI.out] at r6
      have N7 := Lib.hid (N5.out.out t6 u6 r6)
      clear r6 t6 u6 HU N5 HDi HO0
      obtain ⟨o, g, cap, hv, hg⟩ := N7.out.row.form
      obtain ⟨rfl, _, _⟩ := hg (by simp)
      subst hv
      have y4 : w6.cell? ⟨g, 4, none⟩ = some (.int .u32 (iss : Int)) := by have := N7.out.row.range (i := 0) (q := synSg 1 40000 2 80 iss (8 + ra)) rfl 4 _ rfl; simp at this; exact this
      have y6 : w6.cell? ⟨g, 6, none⟩ = some (.bool true) := by have := N7.out.row.range (i := 0) (q := synSg 1 40000 2 80 iss (8 + ra)) rfl 6 _ rfl; simp at this; exact this
      have y7 : w6.cell? ⟨g, 7, none⟩ = some (.bool false) := by have := N7.out.row.range (i := 0) (q := synSg 1 40000 2 80 iss (8 + ra)) rfl 7 _ rfl; simp at this; exact this
      have HRow : ∀ {W'}, (sP w (8 + ra) (8 + rb) W' ∧ SRow W' w.heap.size (.slice (some ⟨g, 0, none⟩) 1 cap) [synSg 1 40000 2 80 iss (8 + ra)]) → W'.rangeAt g 0 (gcl (synSg 1 40000 2 80 iss (8 + ra))) := fun h => by have := h.2.range (i := 0) (q := synSg 1 40000 2 80 iss (8 + ra)) rfl; simpa using this
      have HS13 : Hid (∀ {W b c P}, AO w (8 + ra) (8 + rb) b c P (.slice (some ⟨g, 0, none⟩) 1 cap) [synSg 1 40000 2 80 iss (8 + ra)] W → (sP w (8 + ra) (8 + rb) W ∧ SRow W w.heap.size (.slice (some ⟨g, 0, none⟩) 1 cap) [synSg 1 40000 2 80 iss (8 + ra)])) := fun h => ⟨h.a.s, h.row⟩
      have HRow := Lib.hid (fun W' => @HRow W')
      go_wp2_with fail
      refine wp_region_held_drew (S := (fun W' => sP w (8 + ra) (8 + rb) W' ∧ SRow W' w.heap.size (.slice (some ⟨g, 0, none⟩) 1 cap) [synSg 1 40000 2 80 iss (8 + ra)])) (by kernel_rfl) (HS13.out N7.out.drew) (fun hHeld => ?_)
      refine takeH (i := 0) (d := some 80) (v := ?_) rfl rfl (by kernel_rfl) (by kernel_rfl) (by kernel_rfl) (fun _ _ _ h => h) (Or.inl ⟨by rfl, ?_⟩) hHeld ?_
      rotate_left
      · intro w' hSw; (try dsimp only at hSw); go_simp; try with_reducible rfl
      simp only [Act.put, List.setIfInBounds_toArray, List.set_cons_zero, List.set_cons_succ]
      refine takeH (i := 1) (d := some 81) (v := ?_) rfl rfl (by kernel_rfl) (by kernel_rfl) (by kernel_rfl) (fun _ _ _ h => h) (Or.inl ⟨by rfl, ?_⟩) hHeld ?_
      rotate_left
      · intro w' hSw; (try dsimp only at hSw); go_simp; try with_reducible rfl
      simp only [Act.put, List.setIfInBounds_toArray, List.set_cons_zero, List.set_cons_succ]
      refine takeH (i := 2) (d := some 82) (v := ?_) rfl rfl (by kernel_rfl) (by kernel_rfl) (by kernel_rfl) (fun _ _ _ h => h) (Or.inl ⟨by rfl, ?_⟩) hHeld ?_
      rotate_left
      · intro w' hSw; (try dsimp only at hSw); go_simp; try with_reducible rfl
      simp only [Act.put, List.setIfInBounds_toArray, List.set_cons_zero, List.set_cons_succ]
      refine takeH (i := 3) (d := some 83) (v := ?_) rfl rfl (by kernel_rfl) (by kernel_rfl) (by kernel_rfl) (fun _ _ _ h => h) (Or.inl ⟨by rfl, ?_⟩) hHeld ?_
      rotate_left
      · intro w' hSw; (try dsimp only at hSw); go_simp; try with_reducible rfl
      simp only [Act.put, List.setIfInBounds_toArray, List.set_cons_zero, List.set_cons_succ]
      refine takeH (i := 4) (d := some 84) (v := ?_) rfl rfl (by kernel_rfl) (by kernel_rfl) (by kernel_rfl) (fun _ _ _ h => h) (Or.inl ⟨by rfl, ?_⟩) hHeld ?_
      rotate_left
      · intro w' hSw; (try dsimp only at hSw); obtain ⟨⟨q1, q2, q3, q4, q5, q6⟩, q7⟩ := hSw; go_simp; try with_reducible rfl
      simp only [Act.put, List.setIfInBounds_toArray, List.set_cons_zero, List.set_cons_succ]
      refine takeH (i := 5) (d := some 85) (v := ?_) rfl rfl (by kernel_rfl) (by kernel_rfl) (by kernel_rfl) (fun _ _ _ h => h) (Or.inl ⟨by rfl, ?_⟩) hHeld ?_
      rotate_left
      · intro w' hSw; (try dsimp only at hSw); go_simp; try with_reducible rfl
      simp only [Act.put, List.setIfInBounds_toArray, List.set_cons_zero, List.set_cons_succ]
      refine takeH (i := 6) (d := some 86) (v := ?_) rfl rfl (by kernel_rfl) (by kernel_rfl) (by kernel_rfl) (fun _ _ _ h => h) (Or.inl ⟨by rfl, ?_⟩) hHeld ?_
      rotate_left
      · intro w' hSw; (try dsimp only at hSw); go_simp; try with_reducible rfl
      simp only [Act.put, List.setIfInBounds_toArray, List.set_cons_zero, List.set_cons_succ]
      refine takeH (i := 7) (d := some 87) rfl rfl (by kernel_rfl) (by kernel_rfl) (by kernel_rfl) (fun _ _ _ h => h) (yieldsIf_load_mid (by rfl) _ _ rfl _ _ rfl (gcl (synSg 1 40000 2 80 iss (8 + ra))) _ (fun w' hSw => HRow.out _ hSw) HUs.out rfl infoSeg) hHeld ?_
      simp only [Act.put, List.setIfInBounds_toArray, List.set_cons_zero, List.set_cons_succ]
      refine takeH (i := 8) (d := some 88) (v := ?_) rfl rfl (by kernel_rfl) (by kernel_rfl) (by kernel_rfl) (fun _ _ _ h => h) (Or.inl ⟨by rfl, ?_⟩) hHeld ?_
      rotate_left
      · intro w' hSw; (try dsimp only at hSw); go_simp; try with_reducible rfl
      simp only [Act.put, List.setIfInBounds_toArray, List.set_cons_zero, List.set_cons_succ]
      refine takeH (i := 9) (d := some 89) (v := ?_) rfl rfl (by kernel_rfl) (by kernel_rfl) (by kernel_rfl) (fun _ _ _ h => h) (Or.inl ⟨by rfl, ?_⟩) hHeld ?_
      rotate_left
      · intro w' hSw; (try dsimp only at hSw); go_simp; try with_reducible rfl
      simp only [Act.put, List.setIfInBounds_toArray, List.set_cons_zero, List.set_cons_succ]
      refine takeH (i := 10) (d := some 90) (v := ?_) rfl rfl (by kernel_rfl) (by kernel_rfl) (by kernel_rfl) (fun _ _ _ h => h) (Or.inl ⟨by rfl, ?_⟩) hHeld ?_
      rotate_left
      · intro w' hSw; (try dsimp only at hSw); obtain ⟨⟨q1, q2, q3, q4, q5, q6⟩, q7⟩ := hSw; go_simp; try with_reducible rfl
      simp only [Act.put, List.setIfInBounds_toArray, List.set_cons_zero, List.set_cons_succ]
      refine wpAnyH_ready (rs := [11]) (by kernel_rfl) (by simp) ?_
      refine AllReadyH.cons rfl (fun K hK => ?_) (AllReadyH.nil)
      go_simp
      refine (HTa.out _ N7.out.drew).mono ?_; rintro e w8 ⟨d, Q, rfl, n8⟩
      have N8 := Lib.hid n8
      clear n8
      clear hHeld
      refine hK.out _ _ (HS13.out N8.out.n7) (fun hHeld => ?_)
      clear hK K
      try simp only [Act.put, List.setIfInBounds_toArray, List.set_cons_zero, List.set_cons_succ]
      refine takeH (i := 12) (d := some 79) (v := ?_) rfl rfl (by kernel_rfl) (by kernel_rfl) (by kernel_rfl) (fun _ _ _ h => h) (Or.inl ⟨by rfl, ?_⟩) hHeld ?_
      rotate_left
      · intro w' hSw; (try dsimp only at hSw); go_simp; try with_reducible rfl
      simp only [Act.put, List.setIfInBounds_toArray, List.set_cons_zero, List.set_cons_succ]
      refine takeH (i := 13) (d := some 92) (v := ?_) rfl rfl (by kernel_rfl) (by kernel_rfl) (by kernel_rfl) (fun _ _ _ h => h) (Or.inl ⟨by rfl, ?_⟩) hHeld ?_
      rotate_left
      · intro w' hSw; (try dsimp only at hSw); go_simp; try with_reducible rfl
      simp only [Act.put, List.setIfInBounds_toArray, List.set_cons_zero, List.set_cons_succ]
      refine takeH (i := 14) (d := some 93) (v := ?_) rfl rfl (by kernel_rfl) (by kernel_rfl) (by kernel_rfl) (fun _ _ _ h => h) (Or.inl ⟨by rfl, ?_⟩) hHeld ?_
      rotate_left
      · intro w' hSw; (try dsimp only at hSw); go_simp; try with_reducible rfl
      simp only [Act.put, List.setIfInBounds_toArray, List.set_cons_zero, List.set_cons_succ]
      refine takeH (i := 15) (d := some 13) (v := ?_) rfl rfl (by kernel_rfl) (by kernel_rfl) (by kernel_rfl) (fun _ _ _ h => h) (Or.inl ⟨by rfl, ?_⟩) hHeld ?_
      rotate_left
      · intro w' hSw; (try dsimp only at hSw); go_simp; try with_reducible rfl
      simp only [Act.put, List.setIfInBounds_toArray, List.set_cons_zero, List.set_cons_succ]
      refine takeH (i := 16) (d := some 11) (v := ?_) rfl rfl (by kernel_rfl) (by kernel_rfl) (by kernel_rfl) (fun _ _ _ h => h) (Or.inl ⟨by rfl, ?_⟩) hHeld ?_
      rotate_left
      · intro w' hSw; (try dsimp only at hSw); go_simp; try with_reducible rfl
      simp only [Act.put, List.setIfInBounds_toArray, List.set_cons_zero, List.set_cons_succ]
      refine wpAnyH_done (by kernel_rfl) ?_ _
      skip
      have z0 := Joins.cell_of_block N8.out.n7.a.pr 0
      have z1 := Joins.cell_of_block N8.out.n7.a.pr 1
      have f0 := Joins.unfrozen_of_block N8.out.n7.a.pr 0
      have f1 := Joins.unfrozen_of_block N8.out.n7.a.pr 1
      have HZ := Lib.hid N8.out.done
      clear N8 N7 HTa HS13 HRow y4 y6 y7
      go_wp2_with fail
      go_ret2
      exact ⟨_, _, _, _, _, rfl, HZ.out⟩
end Go.Proofs.Ytnhcjefbiihfjaa
