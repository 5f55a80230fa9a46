/-
  Contract of In (package conn).
-/
import Derived.Test.YtnhcjefbiihfjaaCl
import Derived.Deep.CutBlock
namespace Go.Proofs.Ytnhcjefbiihfjaa
open Go.RowKit
open Tc (Sg gchk gv gc)
set_option linter.unusedVariables false
set_option linter.unusedSimpArgs false
section
variable {b k bx : Nat} {c : Cn} {P : Pt} {g : Sg} {w : World}
set_option maxRecDepth 100000 in
set_option maxHeartbeats 4000000 in
theorem in_any (h : CT b c P w) (ok : COk k c) (hk : Few (k + 2)) (hs : SOk g) :
    Calls Try.prog 13 #[ptr b, gv g] w fun e w' => e = .returned (.int .i64 (c.inE g)) ∧ ∃ P', CT b (c.inC g) P' w' ∧ Up b P P' w w' := by
  have hk0 : Few k := few hk (by omega)
  have B0 := Lib.hid (Bx.new h g)
  have U0 : Hid (Up b P P w (w.alloc (.cells (gc g) 35))) := Up.below ((Below.refl _ _).alloc (Nat.le_refl _) _)
  have HC : Hid (∀ W, Calls Try.prog 29 #[gv g] W fun e w' => e = .returned (.int .i64 (gchk g)) ∧ Below W.heap.size W w') := fun W => Tc.gchk_any g W
  have HUs := Lib.hid Try.underlying35
  have HEe : Hid (gchk g ≠ 0 → c.inE g = gchk g) := fun e => by unfold Cn.inE; rw [if_pos e]
  have HCn : Hid (c.inE g ≠ 0 → c.inC g = c) := fun e => by unfold Cn.inC; rw [if_pos e]
  have HEa : Hid (gchk g = 0 → c.ours g = false → c.inE g = 6) := fun e e2 => by unfold Cn.inE; rw [if_neg (fun h => h e), if_pos e2]
  have HEb : Hid (gchk g = 0 → c.ours g = true → c.st = 0 → c.inE g = 10) := fun e e2 e3 => by unfold Cn.inE; rw [if_neg (fun h => h e), e2, if_neg (by simp), if_pos e3]
  have HEc : Hid (gchk g = 0 → c.ours g = true → ¬ c.st = 0 → c.inE g = 0) := fun e e2 e3 => by unfold Cn.inE; rw [if_neg (fun h => h e), e2, if_neg (by simp), if_neg e3]
  have HC1 : Hid (c.inE g = 0 → c.st = 1 → c.inC g = (c.inSyn g).look) := fun e e2 => by unfold Cn.inC; rw [if_neg (fun h => h e), if_pos e2]
  have HCl : Hid (c.inE g = 0 → ¬ c.st = 1 → c.inC g = (c.inLater g).look) := fun e e2 => by unfold Cn.inC; rw [if_neg (fun h => h e), if_neg e2]
  by_cases he : gchk g = 0
  · have HE6 := Lib.hid (HEa.out he)
    have HE10 := Lib.hid (HEb.out he)
    have HE0 := Lib.hid (HEc.out he)
    have HIs : Hid (∀ W, CT b c P W → Calls Try.prog 30 #[ptr b, gv g] W fun e w' => e = .returned (.tuple #[]) ∧ ∃ P', CT b (c.inSyn g) P' w' ∧ Up b P P' W w') := fun W h' => inSyn_any h' ok hk0 hs he
    have hnn : c.st ≠ 0 → c.st ≠ 1 → c.i ≠ none := fun a0 a1 => by obtain ⟨t, ht⟩ := ok.has a0 a1; rw [ht]; simp
    have HIl : Hid (¬ c.st = 0 → ¬ c.st = 1 → ∀ W, CT b c P W → Calls Try.prog 31 #[ptr b, gv g] W fun e w' => e = .returned (.tuple #[]) ∧ ∃ P', CT b (c.inLater g) P' w' ∧ Up b P P' W w') := fun a0 a1 W h' => inLater_any h' ok hk hs he (hnn a0 a1)
    have HK1 : Hid (∀ Q W, CT b (c.inSyn g) Q W → Calls Try.prog 24 #[ptr b] W fun e w' => e = .returned (.tuple #[]) ∧ CT b (c.inSyn g).look Q w' ∧ Up b Q Q W w') := fun Q W h' => look_any h' (ok.inSyn hs he) (few hk (by omega))
    have HK2 : Hid (¬ c.st = 0 → ¬ c.st = 1 → ∀ Q W, CT b (c.inLater g) Q W → Calls Try.prog 24 #[ptr b] W fun e w' => e = .returned (.tuple #[]) ∧ CT b (c.inLater g).look Q w' ∧ Up b Q Q W w') := fun a0 a1 Q W h' => look_any h' (ok.inLater hs he (hnn a0 a1)) hk
    clear h ok hk hs hk0 hnn HEe HEa HEb HEc
    go_enter Try.func13, Try.ntmps13
    go_wp2_with (refine wpList_load_mid rfl 35 _ rfl _ _ rfl (gcl g) _ (GB.range B0.out.gb) HUs.out rfl infoSeg ?_)
    refine (HC.out _).mono ?_; rintro e w1 ⟨rfl, hb1⟩
    have B1 := Lib.hid (B0.out.keep hb1)
    have U1 := Lib.hid (U0.out.then hb1)
    clear hb1 B0 U0 HC
    generalize w.heap.size = bx at *
    rw [he]
    clear he
    go_wp2_with fail
    have a0 := B1.out.gb.c0
    have a1 := B1.out.gb.c1
    have a2 := B1.out.gb.c2
    have a3 := B1.out.gb.c3
    have b0 := B1.out.ct.c0
    have b1 := B1.out.ct.c1
    have b2 := B1.out.ct.c2
    have b3 := B1.out.ct.c3
    by_cases he1 : g.sa = c.ra
    · by_cases he2 : g.sp = c.rp
      · by_cases he3 : g.da = c.la
        · by_cases he4 : g.dp = c.lp
          · have e1 : ((g.sa : Int) == (c.ra : Int)) = true := by rw [beq_iff_eq]; omega
            have e2 : (g.sp == c.rp) = true := by rw [beq_iff_eq]; omega
            have e3 : ((g.da : Int) == (c.la : Int)) = true := by rw [beq_iff_eq]; omega
            have e4 : (g.dp == c.lp) = true := by rw [beq_iff_eq]; omega
            go_quiet (fail)
            have B2 := Lib.hid (B1.out.drewN nq)
            have U2 := Lib.hid (U1.out.then (below_drewN w1 nq))
            have y6 := B2.out.ct.c6
            clear a0 a1 a2 a3 b0 b1 b2 b3 B1 U1
            generalize w1.drewN nq = W2 at *
            have ho : c.ours g = true := by unfold Cn.ours; simp only [decide_eq_true_eq]; omega
            by_cases h0 : c.st = 0
            · have HE : Hid (c.inE g = 10) := HE10.out ho h0
              have HC2 : Hid (c.inC g = c) := HCn.out (by rw [HE.out]; decide)
              rw [h0] at y6
              clear h0 ho
              go_wp2_with fail
              go_ret
              exact ⟨ret_int HE.out.symm, P, by rw [HC2.out]; exact B2.out.ct, U2.out⟩
            · have HE : Hid (c.inE g = 0) := HE0.out ho h0
              have d0 : (c.st == 0) = false := by simpa using h0
              by_cases h1 : c.st = 1
              · have HC2 : Hid (c.inC g = (c.inSyn g).look) := HC1.out HE.out h1
                have e1 : (c.st == 1) = true := by simpa using h1
                rw [h1] at y6
                clear h0 ho d0 e1 h1 HIl HK2
                go_wp2_with (refine wpList_load_mid rfl 35 _ rfl _ _ rfl (gcl g) _ (GB.range B2.out.gb) HUs.out rfl infoSeg ?_)
                refine (HIs.out _ B2.out.ct).mono ?_; rintro e w3 ⟨rfl, P3, T3, U3⟩
                have HT3 := Lib.hid T3
                have HU3 := Lib.hid (U2.out.trans U3)
                clear T3 U3 B2 U2 y6 HIs
                go_wp2_with fail
                refine (HK1.out _ _ HT3.out).mono ?_; rintro e w4 ⟨rfl, T4, U4⟩
                have HT4 := Lib.hid T4
                have HU4 := Lib.hid (HU3.out.trans U4)
                clear T4 U4 HT3 HU3 HK1
                go_wp2_with fail
                go_ret
                exact ⟨ret_int HE.out.symm, P3, by rw [HC2.out]; exact HT4.out, HU4.out⟩
              · have HC2 : Hid (c.inC g = (c.inLater g).look) := HCl.out HE.out h1
                have e1 : (c.st == 1) = false := by simpa using h1
                have HIl2 := Lib.hid (HIl.out h0 h1)
                have HK := Lib.hid (HK2.out h0 h1)
                clear ho h0 h1 HIs HK1 HIl HK2
                go_wp2_with (refine wpList_load_mid rfl 35 _ rfl _ _ rfl (gcl g) _ (GB.range B2.out.gb) HUs.out rfl infoSeg ?_)
                refine (HIl2.out _ B2.out.ct).mono ?_; rintro e w3 ⟨rfl, P3, T3, U3⟩
                have HT3 := Lib.hid T3
                have HU3 := Lib.hid (U2.out.trans U3)
                clear T3 U3 B2 U2 y6 HIl2
                go_wp2_with fail
                refine (HK.out _ _ HT3.out).mono ?_; rintro e w4 ⟨rfl, T4, U4⟩
                have HT4 := Lib.hid T4
                have HU4 := Lib.hid (HU3.out.trans U4)
                clear T4 U4 HT3 HU3 HK
                go_wp2_with fail
                go_ret
                exact ⟨ret_int HE.out.symm, P3, by rw [HC2.out]; exact HT4.out, HU4.out⟩
          · have e1 : ((g.sa : Int) == (c.ra : Int)) = true := by rw [beq_iff_eq]; omega
            have e2 : (g.sp == c.rp) = true := by rw [beq_iff_eq]; omega
            have e3 : ((g.da : Int) == (c.la : Int)) = true := by rw [beq_iff_eq]; omega
            have e4 : (g.dp == c.lp) = false := by rw [beq_eq_false_iff_ne]; omega
            go_quiet (fail)
            have B2 := Lib.hid (B1.out.drewN nq)
            have U2 := Lib.hid (U1.out.then (below_drewN w1 nq))
            have y6 := B2.out.ct.c6
            clear a0 a1 a2 a3 b0 b1 b2 b3 B1 U1
            generalize w1.drewN nq = W2 at *
            have HE : Hid (c.inE g = 6) := HE6.out (by unfold Cn.ours; simp only [decide_eq_false_iff_not]; omega)
            have HC2 : Hid (c.inC g = c) := HCn.out (by rw [HE.out]; decide)
            go_wp2_with fail
            go_ret
            exact ⟨ret_int HE.out.symm, P, by rw [HC2.out]; exact B2.out.ct, U2.out⟩
        · have e1 : ((g.sa : Int) == (c.ra : Int)) = true := by rw [beq_iff_eq]; omega
          have e2 : (g.sp == c.rp) = true := by rw [beq_iff_eq]; omega
          have e3 : ((g.da : Int) == (c.la : Int)) = false := by rw [beq_eq_false_iff_ne]; omega
          go_quiet (fail)
          have B2 := Lib.hid (B1.out.drewN nq)
          have U2 := Lib.hid (U1.out.then (below_drewN w1 nq))
          have y6 := B2.out.ct.c6
          clear a0 a1 a2 a3 b0 b1 b2 b3 B1 U1
          generalize w1.drewN nq = W2 at *
          have HE : Hid (c.inE g = 6) := HE6.out (by unfold Cn.ours; simp only [decide_eq_false_iff_not]; omega)
          have HC2 : Hid (c.inC g = c) := HCn.out (by rw [HE.out]; decide)
          go_wp2_with fail
          go_ret
          exact ⟨ret_int HE.out.symm, P, by rw [HC2.out]; exact B2.out.ct, U2.out⟩
      · have e1 : ((g.sa : Int) == (c.ra : Int)) = true := by rw [beq_iff_eq]; omega
        have e2 : (g.sp == c.rp) = false := by rw [beq_eq_false_iff_ne]; omega
        go_quiet (fail)
        have B2 := Lib.hid (B1.out.drewN nq)
        have U2 := Lib.hid (U1.out.then (below_drewN w1 nq))
        have y6 := B2.out.ct.c6
        clear a0 a1 a2 a3 b0 b1 b2 b3 B1 U1
        generalize w1.drewN nq = W2 at *
        have HE : Hid (c.inE g = 6) := HE6.out (by unfold Cn.ours; simp only [decide_eq_false_iff_not]; omega)
        have HC2 : Hid (c.inC g = c) := HCn.out (by rw [HE.out]; decide)
        go_wp2_with fail
        go_ret
        exact ⟨ret_int HE.out.symm, P, by rw [HC2.out]; exact B2.out.ct, U2.out⟩
    · have e1 : ((g.sa : Int) == (c.ra : Int)) = false := by rw [beq_eq_false_iff_ne]; omega
      go_quiet (fail)
      have B2 := Lib.hid (B1.out.drewN nq)
      have U2 := Lib.hid (U1.out.then (below_drewN w1 nq))
      have y6 := B2.out.ct.c6
      clear a0 a1 a2 a3 b0 b1 b2 b3 B1 U1
      generalize w1.drewN nq = W2 at *
      have HE : Hid (c.inE g = 6) := HE6.out (by unfold Cn.ours; simp only [decide_eq_false_iff_not]; omega)
      have HC2 : Hid (c.inC g = c) := HCn.out (by rw [HE.out]; decide)
      go_wp2_with fail
      go_ret
      exact ⟨ret_int HE.out.symm, P, by rw [HC2.out]; exact B2.out.ct, U2.out⟩
  · have HE := Lib.hid (HEe.out he)
    have HC2 : Hid (c.inC g = c) := HCn.out (by rw [HE.out]; exact he)
    have d0 : (gchk g != 0) = true := by rw [bne_iff_ne]; exact he
    clear h ok hk hs hk0 HEe HEa HEb HEc HC1 HCl HCn he
    go_enter Try.func13, Try.ntmps13
    go_wp2_with (refine wpList_load_mid rfl 35 _ rfl _ _ rfl (gcl g) _ (GB.range B0.out.gb) HUs.out rfl infoSeg ?_)
    refine (HC.out _).mono ?_; rintro e w1 ⟨rfl, hb1⟩
    have B1 := Lib.hid (B0.out.keep hb1)
    have U1 := Lib.hid (U0.out.then hb1)
    clear hb1 B0 U0 HC
    go_wp2_with fail
    go_ret
    exact ⟨ret_int HE.out.symm, P, by rw [HC2.out]; exact B1.out.ct, U1.out⟩
end
end Go.Proofs.Ytnhcjefbiihfjaa
