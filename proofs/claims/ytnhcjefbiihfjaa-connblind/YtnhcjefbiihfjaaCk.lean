/-
  Contracts of package conn: what comes once SYN has come.
-/
import Derived.Test.YtnhcjefbiihfjaaCj
import Derived.Deep.CutBlock
namespace Go.Proofs.Ytnhcjefbiihfjaa
open Go.RowKit
open Tc (Sg gchk gv gc)
set_option linter.unusedVariables false
set_option linter.unusedSimpArgs false
section
variable {b k bx : Nat} {c : Cn} {P : Pt} {g : Sg} {w : World}
theorem later_a (h : c.lets g = false) : c.inLater g = c.away g := by unfold Cn.inLater; rw [if_pos h]
theorem later_b (h : c.lets g = true) (h2 : g.rst = true ∧ g.sq = c.next) : c.inLater g = c.broken := by unfold Cn.inLater; rw [h, if_neg (by simp), if_pos h2]
theorem later_c (h : c.lets g = true) (h2 : ¬ (g.rst = true ∧ g.sq = c.next)) (h3 : g.rst = true ∨ g.syn = true) : c.inLater g = { c with ack := true } := by unfold Cn.inLater; rw [h, if_neg (by simp), if_neg h2, if_pos h3]
theorem later_d (h : c.lets g = true) (h3 : ¬ (g.rst = true ∨ g.syn = true)) (h4 : g.ack = true) : c.inLater g = c.follow g := by unfold Cn.inLater; rw [h, if_neg (by simp), if_neg (fun h => h3 (Or.inl h.1)), if_neg h3, if_pos h4]
theorem later_e (h : c.lets g = true) (h3 : ¬ (g.rst = true ∨ g.syn = true)) (h4 : g.ack = false) : c.inLater g = c := by unfold Cn.inLater; rw [h, if_neg (by simp), if_neg (fun h => h3 (Or.inl h.1)), if_neg h3, h4]; rfl
set_option maxRecDepth 100000 in
set_option maxHeartbeats 2000000 in
theorem inLater_any (h : CT b c P w) (ok : COk k c) (hk : Few (k + 2)) (hs : SOk g) (hg : gchk g = 0) (hi : c.i ≠ none) :
    Calls Try.prog 31 #[ptr b, gv g] w fun e w' => e = .returned (.tuple #[]) ∧ ∃ P', CT b (c.inLater g) P' w' ∧ Up b P P' w w' := by
  obtain ⟨t, ht⟩ : ∃ t, c.i = some t := by
    rcases hc : c.i with _ | t
    · exact absurd hc hi
    · exact ⟨t, rfl⟩
  have hk0 : Few k := few hk (by omega)
  have hbs := (chk_ok hg).2.2
  have B0 := Lib.hid (Bx.new h g)
  have U0 : Hid (Up b P P w (w.alloc (.cells (gc g) 35))) := Up.below ((Below.refl _ _).alloc (Nat.le_refl _) _)
  have HX : Hid (∀ W, CT b c P W → Calls Try.prog 57 #[ptr b] W fun e w' => e = .returned (.int .u32 ((c.next : Nat) : Int)) ∧ CT b c P w' ∧ Up b P P W w') := fun W h' => by
    refine (next_any h' ht).mono ?_
    rintro e w' ⟨rfl, m, rfl⟩
    exact ⟨rfl, h'.drewN m, Up.below (below_drewN W m)⟩
  have HL : Hid (∀ W, Calls Try.prog 59 #[gv g] W fun e w' => e = .returned (.int .i64 (Tc.lnw g)) ∧ Below W.heap.size W w') := fun W => Tc.lengthw_any g W (by unfold maxLen; omega)
  have HW : Hid (∀ W, CT b c P W → Calls Try.prog 60 #[ptr P.pi] W fun e w' => e = .returned (.int .i64 c.wndI) ∧ CT b c P w' ∧ Up b P P W w') := fun W h' => by
    refine (Iq.window_any (h'.inn t ht) (ok.i t ht).1.lo (by have := (ok.ib hk0 ht).2.1; omega)).mono ?_
    rintro e w' ⟨rfl, m, rfl⟩
    exact ⟨by unfold Cn.wndI; rw [ht], h'.drewN m, Up.below (below_drewN W m)⟩
  have hln : Tc.lnw g ≤ 9223372036854775807 := by unfold Tc.lnw; rw [IntKind.wrap_i64]; omega
  have HA : Hid (∀ W, Calls Try.prog 58 #[.int .u32 (g.sq : Int), .int .i64 (Tc.lnw g), .int .u32 ((c.next : Nat) : Int), .int .i64 c.wndI] W fun e w' => e = .returned (.bool (c.lets g)) ∧ w' = W) := fun W => Sq.acc_any _ _ _ _ W hln
  have HT : Hid (∀ W, CT b c P W → Calls Try.prog 61 #[ptr b, gv g] W fun e w' => e = .returned (.tuple #[]) ∧ CT b (c.away g) P w' ∧ Up b P P W w') := fun W h' => turnAway_any g h' ok
  have HB : Hid (∀ W, CT b c P W → Calls Try.prog 62 #[ptr b] W fun e w' => e = .returned (.tuple #[]) ∧ CT b c.broken P w' ∧ Up b P P W w') := fun W h' => breakOff_any h'
  have HF : Hid (∀ W, CT b c P W → Calls Try.prog 63 #[ptr b, gv g] W fun e w' => e = .returned (.tuple #[]) ∧ ∃ P', CT b (c.follow g) P' w' ∧ Up b P P' W w') := fun W h' => follow_any h' ok hk hs hg hi
  have HUs := Lib.hid Try.underlying35
  have HI : Hid (inV c P = ptr P.pi) := by show _ = _; unfold inV; rw [ht]
  clear h ok hk hs hg hi ht hk0 hbs hln
  go_enter Try.func31, Try.ntmps31
  go_wp2_with fail
  generalize w.alloc (.cells (gc g) 35) = W0 at *
  generalize w.heap.size = bx at *
  refine (HX.out _ B0.out.ct).mono ?_; rintro e w1 ⟨rfl, T1, U1'⟩
  have B1 := Lib.hid (B0.out.up T1 U1')
  have U1 := Lib.hid (U0.out.trans U1')
  have y0 := B1.out.drew.ct.c12
  rw [HI.out] at y0
  clear T1 U1' B0 U0 HX
  go_upto_region 2 with fail
  go_cut [7] from 8 to 19 (fun s W => s = .bool (!c.lets g) ∧ Bx b c P bx g W ∧ Up b P P w W)
  case first =>
    refine wp_region_held_drew (S := (fun W' => W'.cell? ⟨b, 12, none⟩ = some (ptr P.pi) ∧ Tc.GB bx g W')) (by kernel_rfl) ⟨y0, B1.out.drew.gb⟩ (fun hHeld => ?_)
    refine takeH (i := 0) (d := some 8) (v := ?_) rfl rfl (by kernel_rfl) (by kernel_rfl) (by kernel_rfl) (fun _ _ _ h => h) (Or.inl ⟨by rfl, ?_⟩) hHeld ?_
    rotate_left
    · intro w' hSw; (try dsimp only at hSw); go_simp; try with_reducible rfl
    simp only [Act.put, List.setIfInBounds_toArray, List.set_cons_zero, List.set_cons_succ]
    refine takeH (i := 1) (d := some 9) (v := ?_) rfl rfl (by kernel_rfl) (by kernel_rfl) (by kernel_rfl) (fun _ _ _ h => h) (Or.inl ⟨by rfl, ?_⟩) hHeld ?_
    rotate_left
    · intro w' hSw; (try dsimp only at hSw); have q1 := hSw.1; have q2 := hSw.2.c4; clear hSw; go_simp; try with_reducible rfl
    simp only [Act.put, List.setIfInBounds_toArray, List.set_cons_zero, List.set_cons_succ]
    refine takeH (i := 2) (d := some 10) rfl rfl (by kernel_rfl) (by kernel_rfl) (by kernel_rfl) (fun _ _ _ h => h) (yieldsIf_load_mid (by rfl) _ _ rfl _ _ rfl (gcl g) _ (fun w' hSw => GB.range hSw.2) Try.underlying35 rfl infoSeg) hHeld ?_
    simp only [Act.put, List.setIfInBounds_toArray, List.set_cons_zero, List.set_cons_succ]
    refine takeH (i := 4) (d := some 12) (v := ?_) rfl rfl (by kernel_rfl) (by kernel_rfl) (by kernel_rfl) (fun _ _ _ h => h) (Or.inl ⟨by rfl, ?_⟩) hHeld ?_
    rotate_left
    · intro w' hSw; (try dsimp only at hSw); go_simp; try with_reducible rfl
    simp only [Act.put, List.setIfInBounds_toArray, List.set_cons_zero, List.set_cons_succ]
    refine takeH (i := 5) (d := some 13) (v := ?_) rfl rfl (by kernel_rfl) (by kernel_rfl) (by kernel_rfl) (fun _ _ _ h => h) (Or.inl ⟨by rfl, ?_⟩) hHeld ?_
    rotate_left
    · intro w' hSw; (try dsimp only at hSw); go_simp; try with_reducible rfl
    simp only [Act.put, List.setIfInBounds_toArray, List.set_cons_zero, List.set_cons_succ]
    refine takeH (i := 6) (d := some 14) (v := ?_) rfl rfl (by kernel_rfl) (by kernel_rfl) (by kernel_rfl) (fun _ _ _ h => h) (Or.inl ⟨by rfl, ?_⟩) hHeld ?_
    rotate_left
    · intro w' hSw; (try dsimp only at hSw); go_simp; try with_reducible rfl
    simp only [Act.put, List.setIfInBounds_toArray, List.set_cons_zero, List.set_cons_succ]
    refine takeH (i := 7) (d := some 15) (v := ?_) rfl rfl (by kernel_rfl) (by kernel_rfl) (by kernel_rfl) (fun _ _ _ h => h) (Or.inl ⟨by rfl, ?_⟩) hHeld ?_
    rotate_left
    · intro w' hSw; (try dsimp only at hSw); go_simp; try with_reducible rfl
    simp only [Act.put, List.setIfInBounds_toArray, List.set_cons_zero, List.set_cons_succ]
    refine takeH (i := 8) (d := some 16) (v := ?_) rfl rfl (by kernel_rfl) (by kernel_rfl) (by kernel_rfl) (fun _ _ _ h => h) (Or.inl ⟨by rfl, ?_⟩) hHeld ?_
    rotate_left
    · intro w' hSw; (try dsimp only at hSw); have q1 := hSw.1; have q2 := hSw.2.c4; clear hSw; go_simp; try with_reducible rfl
    simp only [Act.put, List.setIfInBounds_toArray, List.set_cons_zero, List.set_cons_succ]
    refine wpAnyH_ready (rs := [3]) (by kernel_rfl) (by simp) ?_
    refine AllReadyH.cons rfl (fun K hK => ?_) (AllReadyH.nil)
    go_simp
    refine (HL.out _).mono ?_; rintro e w5 ⟨rfl, hb⟩
    have Bw5 := Lib.hid (B1.out.drew.keep hb)
    have HUw5 := Lib.hid ((U1.out.then (Below.refl _ _).drew).then hb)
    have y12 := Bw5.out.ct.c12
    rw [HI.out] at y12
    clear hb
    clear hHeld
    refine hK.out _ _ ⟨y12, Bw5.out.gb⟩ (fun hHeld => ?_)
    clear hK K
    try simp only [Act.put, List.setIfInBounds_toArray, List.set_cons_zero, List.set_cons_succ]
    refine wpAnyH_ready (rs := [9]) (by kernel_rfl) (by simp) ?_
    refine AllReadyH.cons rfl (fun K hK => ?_) (AllReadyH.nil)
    go_simp
    refine (HW.out _ Bw5.out.ct).mono ?_; rintro e w6 ⟨rfl, T3, U3⟩
    have Bw6 := Lib.hid (Bw5.out.up T3 U3)
    have HUw6 := Lib.hid (HUw5.out.trans U3)
    have y12 := T3.c12
    rw [HI.out] at y12
    clear T3 U3
    clear hHeld
    refine hK.out _ _ ⟨y12, Bw6.out.gb⟩ (fun hHeld => ?_)
    clear hK K
    try simp only [Act.put, List.setIfInBounds_toArray, List.set_cons_zero, List.set_cons_succ]
    refine wpAnyH_ready (rs := [10]) (by kernel_rfl) (by simp) ?_
    refine AllReadyH.cons rfl (fun K hK => ?_) (AllReadyH.nil)
    go_simp
    refine (HA.out _).mono ?_; rintro e w7 ⟨rfl, rfl⟩
    clear hHeld
    refine hK.out _ _ ⟨y12, Bw6.out.gb⟩ (fun hHeld => ?_)
    clear hK K
    try simp only [Act.put, List.setIfInBounds_toArray, List.set_cons_zero, List.set_cons_succ]
    refine takeH (i := 11) (d := some 19) (v := ?_) rfl rfl (by kernel_rfl) (by kernel_rfl) (by kernel_rfl) (fun _ _ _ h => h) (Or.inl ⟨by rfl, ?_⟩) hHeld ?_
    rotate_left
    · intro w' hSw; (try dsimp only at hSw); go_simp; try with_reducible rfl
    simp only [Act.put, List.setIfInBounds_toArray, List.set_cons_zero, List.set_cons_succ]
    refine takeH (i := 12) (d := some 7) (v := ?_) rfl rfl (by kernel_rfl) (by kernel_rfl) (by kernel_rfl) (fun _ _ _ h => h) (Or.inl ⟨by rfl, ?_⟩) hHeld ?_
    rotate_left
    · intro w' hSw; (try dsimp only at hSw); go_simp; try with_reducible rfl
    simp only [Act.put, List.setIfInBounds_toArray, List.set_cons_zero, List.set_cons_succ]
    refine wpAnyH_done (by kernel_rfl) ?_ _
    go_wp2_with fail
    go_meet
    exact ⟨rfl, Bw6.out, HUw6.out⟩
  obtain ⟨rfl, B2, U2⟩ := hcut
  have HB2 := Lib.hid B2
  have HU2 := Lib.hid U2
  have g9 := B2.gb.c9
  have g4 := B2.gb.c4
  have g6 := B2.gb.c6
  have g7 := B2.gb.c7
  clear B2 U2 B1 U1 y0 HL HW HA HI
  cases hl : c.lets g with
  | false =>
    have HE := Lib.hid (later_a hl)
    clear hl
    go_wp2_with (refine wpList_load_mid rfl 35 _ rfl _ _ rfl (gcl g) _ (GB.range HB2.out.gb) HUs.out rfl infoSeg ?_)
    refine (HT.out _ HB2.out.ct).mono ?_; rintro e w4 ⟨rfl, T4, U4⟩
    have HT4 := Lib.hid T4
    have HU4 := Lib.hid (HU2.out.trans U4)
    clear T4 U4 HB2 HU2 g9 g4 g6 g7
    go_wp2_with fail
    refine bodyPost_end (results_none rfl _ _ _) rfl ?_
    exact ⟨rfl, P, by rw [HE.out]; exact HT4.out, HU4.out⟩
  | true =>
    cases hr : g.rst with
    | true =>
      rw [hr] at g9
      by_cases hq : g.sq = c.next
      · have HE := Lib.hid (later_b hl ⟨hr, hq⟩)
        have dq : ((g.sq : Int) == ((c.next : Nat) : Int)) = true := by rw [hq]; simp
        rw [hq] at g4 dq
        clear hl hr hq
        go_wp2_with fail
        refine (HB.out _ HB2.out.ct).mono ?_; rintro e w4 ⟨rfl, T4, U4⟩
        have HT4 := Lib.hid T4
        have HU4 := Lib.hid (HU2.out.trans U4)
        clear T4 U4 HB2 HU2 g9 g4 g6 g7
        go_wp2_with fail
        refine bodyPost_end (results_none rfl _ _ _) rfl ?_
        exact ⟨rfl, P, by rw [HE.out]; exact HT4.out, HU4.out⟩
      · have HE := Lib.hid (later_c hl (fun h => hq h.2) (Or.inl hr))
        have dq : ((g.sq : Int) == ((c.next : Nat) : Int)) = false := by rw [beq_eq_false_iff_ne]; omega
        have c28 := HB2.out.ct.c28
        have f28 := HB2.out.ct.free 28
        clear hl hr hq
        go_wp2_with fail
        refine bodyPost_end (results_none rfl _ _ _) rfl ?_
        exact ⟨rfl, P, by rw [HE.out]; exact HB2.out.ct.s28 true, HU2.out.set _ _⟩
    | false =>
      rw [hr] at g9
      cases hy : g.syn with
      | true =>
        have HE := Lib.hid (later_c hl (fun h => by rw [hr] at h; cases h.1) (Or.inr hy))
        rw [hy] at g6
        have c28 := HB2.out.ct.c28
        have f28 := HB2.out.ct.free 28
        clear hl hr hy
        go_wp2_with fail
        refine bodyPost_end (results_none rfl _ _ _) rfl ?_
        exact ⟨rfl, P, by rw [HE.out]; exact HB2.out.ct.s28 true, HU2.out.set _ _⟩
      | false =>
        rw [hy] at g6
        have hn : ¬ (g.rst = true ∨ g.syn = true) := by rw [hr, hy]; simp
        cases ha : g.ack with
        | true =>
          have HE := Lib.hid (later_d hl hn ha)
          rw [ha] at g7
          clear hl hr hy hn ha
          go_wp2_with (refine wpList_load_mid rfl 35 _ rfl _ _ rfl (gcl g) _ (GB.range HB2.out.gb) HUs.out rfl infoSeg ?_)
          refine (HF.out _ HB2.out.ct).mono ?_; rintro e w4 ⟨rfl, P4, T4, U4⟩
          have HT4 := Lib.hid T4
          have HU4 := Lib.hid (HU2.out.trans U4)
          clear T4 U4 HB2 HU2 g9 g4 g6 g7
          go_wp2_with fail
          refine bodyPost_end (results_none rfl _ _ _) rfl ?_
          exact ⟨rfl, P4, by rw [HE.out]; exact HT4.out, HU4.out⟩
        | false =>
          have HE := Lib.hid (later_e hl hn ha)
          rw [ha] at g7
          clear hl hr hy hn ha
          go_wp2_with fail
          refine bodyPost_end (results_none rfl _ _ _) rfl ?_
          exact ⟨rfl, P, by rw [HE.out]; exact HB2.out.ct, HU2.out⟩
end
end Go.Proofs.Ytnhcjefbiihfjaa
