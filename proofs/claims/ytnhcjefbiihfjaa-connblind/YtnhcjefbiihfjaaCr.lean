/-
  Contracts of Tick, Close, Abort, Write (package conn).
-/
import Derived.Test.YtnhcjefbiihfjaaCp
import Derived.Deep.CutBlock
namespace Go.Proofs.Ytnhcjefbiihfjaa
open Go.RowKit
open Tc (Sg gchk gv gc)
set_option linter.unusedVariables false
set_option linter.unusedSimpArgs false
section
variable {b k bx : Nat} {c : Cn} {P : Pt} {g : Sg} {w : World}
theorem tick_e {n : Int} (h : n < 0 ∨ 1099511627776 - c.time < n) : c.tickE n = 1 ∧ c.tickC n = c := by
  have e : c.tickE n = 1 := by unfold Cn.tickE; rw [if_pos h]
  exact ⟨e, by unfold Cn.tickC; rw [e]; rfl⟩
theorem tick_o {n : Int} (h : ¬ (n < 0 ∨ 1099511627776 - c.time < n)) : c.tickE n = 0 ∧ c.tickC n = (Cn.tick1 { c with time := c.time + n }).look := by
  have e : c.tickE n = 0 := by unfold Cn.tickE; rw [if_neg h]
  exact ⟨e, by unfold Cn.tickC; rw [e]; rfl⟩
def K1 (c : Cn) (t : Int) : Cn := { c with time := t }
theorem tick1_a {t : Int} (h : c.st = 9) (h2 : c.wts ≤ t) : Cn.tick1 (K1 c t) = (K1 c t).done 0 := by unfold Cn.tick1; rw [if_pos (show (K1 c t).st = 9 from h), if_pos (show (K1 c t).wts ≤ (K1 c t).time from h2)]
theorem tick1_b {t : Int} (h : c.st = 9) (h2 : ¬ c.wts ≤ t) : Cn.tick1 (K1 c t) = K1 c t := by unfold Cn.tick1; rw [if_pos (show (K1 c t).st = 9 from h), if_neg (show ¬ (K1 c t).wts ≤ (K1 c t).time from h2)]
theorem tick1_c {t : Int} (h : ¬ c.st = 9) (h2 : c.run = true ∧ Rt.val c.tm ≤ t - c.beg) : Cn.tick1 (K1 c t) = (K1 c t).goOff := by unfold Cn.tick1; rw [if_neg (show ¬ (K1 c t).st = 9 from h), if_pos (show (K1 c t).run = true ∧ Rt.val (K1 c t).tm ≤ (K1 c t).time - (K1 c t).beg from h2)]
theorem tick1_d {t : Int} (h : ¬ c.st = 9) (h2 : ¬ (c.run = true ∧ Rt.val c.tm ≤ t - c.beg)) : Cn.tick1 (K1 c t) = K1 c t := by unfold Cn.tick1; rw [if_neg (show ¬ (K1 c t).st = 9 from h), if_neg (show ¬ ((K1 c t).run = true ∧ Rt.val (K1 c t).tm ≤ (K1 c t).time - (K1 c t).beg) from h2)]
set_option maxRecDepth 100000 in
set_option maxHeartbeats 2000000 in
theorem tick_any (h : CT b c P w) (ok : COk k c) (hk : Few k) (n : Int) :
    Calls Try.prog 9 #[ptr b, .int .i64 n] w fun e w' => e = .returned (.int .i64 (c.tickE n)) ∧ CT b (c.tickC n) P w' ∧ Up b P P w w' := by
  have c17 := h.c17
  have f17 := h.free 17
  have t0 := ok.ti.1
  have t1 := ok.ti.2
  have H := Lib.hid h
  by_cases hn : n < 0
  · obtain ⟨e1, e2⟩ := tick_e (c := c) (Or.inl hn)
    have HE : Hid (c.tickE n = 1) := e1
    have HC : Hid (c.tickC n = c) := e2
    clear h ok hk e1 e2
    go_enter Try.func9, Try.ntmps9
    go_wp2_with fail
    go_ret
    exact ⟨ret_int HE.out.symm, by rw [HC.out]; exact H.out, Up.refl _ _ _⟩
  · by_cases hm : 1099511627776 - c.time < n
    · obtain ⟨e1, e2⟩ := tick_e (c := c) (Or.inr hm)
      have HE : Hid (c.tickE n = 1) := e1
      have HC : Hid (c.tickC n = c) := e2
      clear h ok hk e1 e2
      go_enter Try.func9, Try.ntmps9
      go_wp2_with fail
      go_ret
      exact ⟨ret_int HE.out.symm, by rw [HC.out]; exact H.out, Up.refl _ _ _⟩
    · obtain ⟨e1, e2⟩ := tick_o (c := c) (n := n) (by omega)
      have HE : Hid (c.tickE n = 0) := e1
      obtain ⟨t, ht⟩ : ∃ t, t = c.time + n := ⟨_, rfl⟩
      rw [← ht] at e2
      have e3 : c.tickC n = (Cn.tick1 (K1 c t)).look := e2
      have ok1 : COk k (K1 c t) := { ok with ti := by show 0 ≤ t ∧ t ≤ _; omega, bg := by have := ok.bg; show 0 ≤ c.beg ∧ c.beg ≤ t; omega, sn := by have := ok.sn; show 0 ≤ c.snc ∧ c.snc ≤ t; omega }
      have s0 := ok1.bg.1
      have s1 : c.beg ≤ t := ok1.bg.2
      have s0' : 0 ≤ c.beg := s0
      have s2 : t ≤ 1099511627776 := ok1.ti.2
      have TX : Hid (∀ x, x = t → CT b (K1 c t) P (w.setCell ⟨b, 17, none⟩ (.int .i64 x)) ∧ Up b P P w (w.setCell ⟨b, 17, none⟩ (.int .i64 x))) := fun x hx => by subst hx; exact ⟨h.s17 _, (Up.refl _ _ _).set _ _⟩
      have T1 := Lib.hid (TX.out (c.time + n) ht.symm).1
      have U1 := Lib.hid (TX.out (c.time + n) ht.symm).2
      have HD : Hid (∀ W, CT b (K1 c t) P W → Calls Try.prog 21 #[ptr b, .int .i64 0] W fun e w' => e = .returned (.tuple #[]) ∧ CT b ((K1 c t).done 0) P w' ∧ Up b P P W w') := fun W h' => end_any h' 0
      have HG : Hid (∀ W, CT b (K1 c t) P W → Calls Try.prog 23 #[ptr b] W fun e w' => e = .returned (.tuple #[]) ∧ CT b (K1 c t).goOff P w' ∧ Up b P P W w') := fun W h' => goOff_any h' ok1 hk
      have HV : Hid (∀ W, CT b (K1 c t) P W → Calls Try.prog 22 #[ptr P.pt] W fun e w' => e = .returned (.int .i64 (Rt.val c.tm)) ∧ CT b (K1 c t) P w' ∧ Up b P P W w') := fun W h' => (Rt.value_any P.pt c.tm W h'.tim ok.tm).mono fun e w' ⟨h1, h2⟩ => ⟨h1, h'.keep h2, Up.below h2⟩
      have HWr : Hid (IntKind.i64.wrap (t - c.beg) = t - c.beg) := by show _ = _; rw [IntKind.wrap_i64]; omega
      have ok2 : COk k (Cn.tick1 (K1 c t)) := by
        unfold Cn.tick1
        split
        · split
          · exact ok1.done 0
          · exact ok1
        · split
          · exact ok1.goOff
          · exact ok1
      have HL0 : Hid (∀ Q W, CT b (Cn.tick1 (K1 c t)) Q W → Calls Try.prog 24 #[ptr b] W fun e w' => e = .returned (.tuple #[]) ∧ CT b (Cn.tick1 (K1 c t)).look Q w' ∧ Up b Q Q W w') := fun Q W h' => look_any h' ok2 hk
      have HC : Hid (c.tickC n = (Cn.tick1 (K1 c t)).look) := e3
      have d1 : decide (n < 0) = false := decide_eq_false hn
      have d2 : decide (1099511627776 - c.time < n) = false := decide_eq_false hm
      have x6 : (w.setCell ⟨b, 17, none⟩ (.int .i64 (c.time + n))).cell? ⟨b, 6, none⟩ = some (.int .i64 c.st) := T1.out.c6
      have x21 : (w.setCell ⟨b, 17, none⟩ (.int .i64 (c.time + n))).cell? ⟨b, 21, none⟩ = some (.int .i64 c.wts) := T1.out.c21
      have HQa : Hid (∀ _ : Unit, c.st = 9 → c.wts ≤ t → Cn.tick1 (K1 c t) = (K1 c t).done 0) := fun _ => tick1_a
      have HQb : Hid (∀ _ : Unit, c.st = 9 → ¬ c.wts ≤ t → Cn.tick1 (K1 c t) = K1 c t) := fun _ => tick1_b
      have HQc : Hid (∀ _ : Unit, ¬ c.st = 9 → c.run = true ∧ Rt.val c.tm ≤ t - c.beg → Cn.tick1 (K1 c t) = (K1 c t).goOff) := fun _ => tick1_c
      have HQd : Hid (∀ _ : Unit, ¬ c.st = 9 → ¬ (c.run = true ∧ Rt.val c.tm ≤ t - c.beg) → Cn.tick1 (K1 c t) = K1 c t) := fun _ => tick1_d
      have HX : Hid (∀ W, CT b (K1 c t) P W → W.cell? ⟨b, 6, none⟩ = some (.int .i64 c.st) ∧ W.cell? ⟨b, 17, none⟩ = some (.int .i64 t) ∧ W.cell? ⟨b, 21, none⟩ = some (.int .i64 c.wts)) := fun W h' => ⟨h'.c6, h'.c17, h'.c21⟩
      clear h ok hk e1 e2 e3 ok1 ok2 s0 H TX x6 x21
      go_enter Try.func9, Try.ntmps9
      go_upto_region 4 with fail
      generalize w.setCell ⟨b, 17, none⟩ (.int .i64 (c.time + n)) = W1 at *
      obtain ⟨x6, x17, x21⟩ := HX.out _ T1.out
      clear c17 f17 t0 t1 hn hm d1 d2 ht
      have y17 : W1.drew.cell? ⟨b, 17, none⟩ = some (.int .i64 t) := x17
      have y21 : W1.drew.cell? ⟨b, 21, none⟩ = some (.int .i64 c.wts) := x21
      by_cases h9 : c.st = 9
      · rw [h9] at x6
        by_cases hw : c.wts ≤ t
        · have HL : Hid (∀ Q W, CT b ((K1 c t).done 0) Q W → Calls Try.prog 24 #[ptr b] W fun e w' => e = .returned (.tuple #[]) ∧ CT b (Cn.tick1 (K1 c t)).look Q w' ∧ Up b Q Q W w') := fun Q W h' => HL0.out Q W (by rw [HQa.out () h9 hw]; exact h')
          have dw : decide (c.wts ≤ t) = true := decide_eq_true hw
          clear h9 hw HQa HQb HQc HQd HL0 HG HV HWr
          go_wp2_with fail
          go_quiet (fail)
          go_wp2_with fail
          refine (HD.out _ (T1.out.drewN _)).mono ?_; rintro e w2 ⟨rfl, T2, U2⟩
          have HT2 := Lib.hid T2
          have HU2 := Lib.hid ((U1.out.then (below_drewN W1 nq)).trans U2)
          clear T2 U2 HD T1 U1
          go_wp2_with fail
          refine (HL.out _ _ HT2.out).mono ?_; rintro e w9 ⟨rfl, T9, U9⟩
          have HT9 := Lib.hid T9
          have HU9 := Lib.hid (HU2.out.trans U9)
          clear T9 U9 HL
          go_wp2_with fail
          go_ret
          exact ⟨ret_int HE.out.symm, by rw [HC.out]; exact HT9.out, HU9.out⟩
        · have HL : Hid (∀ Q W, CT b (K1 c t) Q W → Calls Try.prog 24 #[ptr b] W fun e w' => e = .returned (.tuple #[]) ∧ CT b (Cn.tick1 (K1 c t)).look Q w' ∧ Up b Q Q W w') := fun Q W h' => HL0.out Q W (by rw [HQb.out () h9 hw]; exact h')
          have dw : decide (c.wts ≤ t) = false := decide_eq_false hw
          clear h9 hw HQa HQb HQc HQd HL0 HG HV HWr HD
          go_wp2_with fail
          go_quiet (fail)
          go_wp2_with fail
          have HT2 := Lib.hid (T1.out.drewN nq)
          have HU2 := Lib.hid (U1.out.then (below_drewN W1 nq))
          refine (HL.out _ _ HT2.out).mono ?_; rintro e w9 ⟨rfl, T9, U9⟩
          have HT9 := Lib.hid T9
          have HU9 := Lib.hid (HU2.out.trans U9)
          clear T9 U9 HL
          go_wp2_with fail
          go_ret
          exact ⟨ret_int HE.out.symm, by rw [HC.out]; exact HT9.out, HU9.out⟩
      · have d9 : (c.st == 9) = false := by simpa using h9
        cases hrun : c.run with
        | true =>
          have hrun' : (K1 c t).run = true := hrun
          by_cases hv : Rt.val c.tm ≤ t - c.beg
          · have HL : Hid (∀ Q W, CT b (K1 c t).goOff Q W → Calls Try.prog 24 #[ptr b] W fun e w' => e = .returned (.tuple #[]) ∧ CT b (Cn.tick1 (K1 c t)).look Q w' ∧ Up b Q Q W w') := fun Q W h' => HL0.out Q W (by rw [HQc.out () h9 ⟨hrun, hv⟩]; exact h')
            have dv : decide (Rt.val c.tm ≤ t - c.beg) = true := decide_eq_true hv
            clear h9 hv HQa HQb HQc HQd HL0 HD
            go_wp2_with fail
            go_cut [41] from 42 to 64 (fun s W => s = .bool true ∧ CT b (K1 c t) P W ∧ Up b P P W1 W)
            case first =>
              refine wp_region_held_drew (S := (fun W' => W'.cell? ⟨b, 18, none⟩ = some (.bool c.run) ∧ W'.cell? ⟨b, 17, none⟩ = some (.int .i64 t) ∧ W'.cell? ⟨b, 19, none⟩ = some (.int .i64 c.beg) ∧ W'.cell? ⟨b, 16, none⟩ = some (ptr P.pt))) (by kernel_rfl) ⟨T1.out.drew.c18, T1.out.drew.c17, T1.out.drew.c19, T1.out.drew.c16⟩ (fun hHeld => ?_)
              refine takeH (i := 0) (d := some 42) (v := ?_) rfl rfl (by kernel_rfl) (by kernel_rfl) (by kernel_rfl) (fun _ _ _ h => h) (Or.inl ⟨by rfl, ?_⟩) hHeld ?_
              rotate_left
              · intro w' hSw; (try dsimp only at hSw); go_simp; try with_reducible rfl
              simp only [Act.put, List.setIfInBounds_toArray, List.set_cons_zero, List.set_cons_succ]
              refine takeH (i := 1) (d := some 43) (v := ?_) rfl rfl (by kernel_rfl) (by kernel_rfl) (by kernel_rfl) (fun _ _ _ h => h) (Or.inl ⟨by rfl, ?_⟩) hHeld ?_
              rotate_left
              · intro w' hSw; (try dsimp only at hSw); go_simp; try with_reducible rfl
              simp only [Act.put, List.setIfInBounds_toArray, List.set_cons_zero, List.set_cons_succ]
              refine takeH (i := 2) (d := some 44) (v := ?_) rfl rfl (by kernel_rfl) (by kernel_rfl) (by kernel_rfl) (fun _ _ _ h => h) (Or.inl ⟨by rfl, ?_⟩) hHeld ?_
              rotate_left
              · intro w' hSw; (try dsimp only at hSw); go_simp; try with_reducible rfl
              simp only [Act.put, List.setIfInBounds_toArray, List.set_cons_zero, List.set_cons_succ]
              refine takeH (i := 3) (d := some 45) (v := ?_) rfl rfl (by kernel_rfl) (by kernel_rfl) (by kernel_rfl) (fun _ _ _ h => h) (Or.inl ⟨by rfl, ?_⟩) hHeld ?_
              rotate_left
              · intro w' hSw; (try dsimp only at hSw); go_simp; try with_reducible rfl
              simp only [Act.put, List.setIfInBounds_toArray, List.set_cons_zero, List.set_cons_succ]
              refine takeH (i := 4) (d := some 46) (v := ?_) rfl rfl (by kernel_rfl) (by kernel_rfl) (by kernel_rfl) (fun _ _ _ h => h) (Or.inl ⟨by rfl, ?_⟩) hHeld ?_
              rotate_left
              · intro w' hSw; (try dsimp only at hSw); have q1 := hSw.1; have q2 := hSw.2.1; have q3 := hSw.2.2.1; have q4 := hSw.2.2.2; rw [hrun] at q1; clear hSw; go_simp; try with_reducible rfl
              simp only [Act.put, List.setIfInBounds_toArray, List.set_cons_zero, List.set_cons_succ]
              refine takeH (i := 5) (d := some 47) (v := ?_) rfl rfl (by kernel_rfl) (by kernel_rfl) (by kernel_rfl) (fun _ _ _ h => h) (Or.inl ⟨by rfl, ?_⟩) hHeld ?_
              rotate_left
              · intro w' hSw; (try dsimp only at hSw); go_simp; try with_reducible rfl
              simp only [Act.put, List.setIfInBounds_toArray, List.set_cons_zero, List.set_cons_succ]
              refine takeH (i := 6) (d := some 48) (v := ?_) rfl rfl (by kernel_rfl) (by kernel_rfl) (by kernel_rfl) (fun _ _ _ h => h) (Or.inl ⟨by rfl, ?_⟩) hHeld ?_
              rotate_left
              · intro w' hSw; (try dsimp only at hSw); go_simp; try with_reducible rfl
              simp only [Act.put, List.setIfInBounds_toArray, List.set_cons_zero, List.set_cons_succ]
              refine takeH (i := 7) (d := some 49) (v := ?_) rfl rfl (by kernel_rfl) (by kernel_rfl) (by kernel_rfl) (fun _ _ _ h => h) (Or.inl ⟨by rfl, ?_⟩) hHeld ?_
              rotate_left
              · intro w' hSw; (try dsimp only at hSw); go_simp; try with_reducible rfl
              simp only [Act.put, List.setIfInBounds_toArray, List.set_cons_zero, List.set_cons_succ]
              refine takeH (i := 8) (d := some 50) (v := ?_) rfl rfl (by kernel_rfl) (by kernel_rfl) (by kernel_rfl) (fun _ _ _ h => h) (Or.inl ⟨by rfl, ?_⟩) hHeld ?_
              rotate_left
              · intro w' hSw; (try dsimp only at hSw); go_simp; try with_reducible rfl
              simp only [Act.put, List.setIfInBounds_toArray, List.set_cons_zero, List.set_cons_succ]
              refine takeH (i := 9) (d := some 51) (v := ?_) rfl rfl (by kernel_rfl) (by kernel_rfl) (by kernel_rfl) (fun _ _ _ h => h) (Or.inl ⟨by rfl, ?_⟩) hHeld ?_
              rotate_left
              · intro w' hSw; (try dsimp only at hSw); have q1 := hSw.1; have q2 := hSw.2.1; have q3 := hSw.2.2.1; have q4 := hSw.2.2.2; rw [hrun] at q1; clear hSw; go_simp; try with_reducible rfl
              simp only [Act.put, List.setIfInBounds_toArray, List.set_cons_zero, List.set_cons_succ]
              refine takeH (i := 10) (d := some 52) (v := ?_) rfl rfl (by kernel_rfl) (by kernel_rfl) (by kernel_rfl) (fun _ _ _ h => h) (Or.inl ⟨by rfl, ?_⟩) hHeld ?_
              rotate_left
              · intro w' hSw; (try dsimp only at hSw); go_simp; try with_reducible rfl
              simp only [Act.put, List.setIfInBounds_toArray, List.set_cons_zero, List.set_cons_succ]
              refine takeH (i := 11) (d := some 53) (v := ?_) rfl rfl (by kernel_rfl) (by kernel_rfl) (by kernel_rfl) (fun _ _ _ h => h) (Or.inl ⟨by rfl, ?_⟩) hHeld ?_
              rotate_left
              · intro w' hSw; (try dsimp only at hSw); go_simp; try with_reducible rfl
              simp only [Act.put, List.setIfInBounds_toArray, List.set_cons_zero, List.set_cons_succ]
              refine takeH (i := 12) (d := some 54) (v := ?_) rfl rfl (by kernel_rfl) (by kernel_rfl) (by kernel_rfl) (fun _ _ _ h => h) (Or.inl ⟨by rfl, ?_⟩) hHeld ?_
              rotate_left
              · intro w' hSw; (try dsimp only at hSw); go_simp; try with_reducible rfl
              simp only [Act.put, List.setIfInBounds_toArray, List.set_cons_zero, List.set_cons_succ]
              refine takeH (i := 13) (d := some 55) (v := ?_) rfl rfl (by kernel_rfl) (by kernel_rfl) (by kernel_rfl) (fun _ _ _ h => h) (Or.inl ⟨by rfl, ?_⟩) hHeld ?_
              rotate_left
              · intro w' hSw; (try dsimp only at hSw); go_simp; try with_reducible rfl
              simp only [Act.put, List.setIfInBounds_toArray, List.set_cons_zero, List.set_cons_succ]
              refine takeH (i := 14) (d := some 56) (v := ?_) rfl rfl (by kernel_rfl) (by kernel_rfl) (by kernel_rfl) (fun _ _ _ h => h) (Or.inl ⟨by rfl, ?_⟩) hHeld ?_
              rotate_left
              · intro w' hSw; (try dsimp only at hSw); have q1 := hSw.1; have q2 := hSw.2.1; have q3 := hSw.2.2.1; have q4 := hSw.2.2.2; rw [hrun] at q1; clear hSw; go_simp; try with_reducible rfl
              simp only [Act.put, List.setIfInBounds_toArray, List.set_cons_zero, List.set_cons_succ]
              refine takeH (i := 15) (d := some 57) (v := ?_) rfl rfl (by kernel_rfl) (by kernel_rfl) (by kernel_rfl) (fun _ _ _ h => h) (Or.inl ⟨by rfl, ?_⟩) hHeld ?_
              rotate_left
              · intro w' hSw; (try dsimp only at hSw); go_simp; try with_reducible rfl
              simp only [Act.put, List.setIfInBounds_toArray, List.set_cons_zero, List.set_cons_succ]
              refine takeH (i := 16) (d := some 58) (v := ?_) rfl rfl (by kernel_rfl) (by kernel_rfl) (by kernel_rfl) (fun _ _ _ h => h) (Or.inl ⟨by rfl, ?_⟩) hHeld ?_
              rotate_left
              · intro w' hSw; (try dsimp only at hSw); go_simp; try with_reducible rfl
              simp only [Act.put, List.setIfInBounds_toArray, List.set_cons_zero, List.set_cons_succ]
              refine takeH (i := 17) (d := some 59) (v := ?_) rfl rfl (by kernel_rfl) (by kernel_rfl) (by kernel_rfl) (fun _ _ _ h => h) (Or.inl ⟨by rfl, ?_⟩) hHeld ?_
              rotate_left
              · intro w' hSw; (try dsimp only at hSw); go_simp; try with_reducible rfl
              simp only [Act.put, List.setIfInBounds_toArray, List.set_cons_zero, List.set_cons_succ]
              refine takeH (i := 18) (d := some 60) (v := ?_) rfl rfl (by kernel_rfl) (by kernel_rfl) (by kernel_rfl) (fun _ _ _ h => h) (Or.inl ⟨by rfl, ?_⟩) hHeld ?_
              rotate_left
              · intro w' hSw; (try dsimp only at hSw); go_simp; try with_reducible rfl
              simp only [Act.put, List.setIfInBounds_toArray, List.set_cons_zero, List.set_cons_succ]
              refine takeH (i := 19) (d := some 61) (v := ?_) rfl rfl (by kernel_rfl) (by kernel_rfl) (by kernel_rfl) (fun _ _ _ h => h) (Or.inl ⟨by rfl, ?_⟩) hHeld ?_
              rotate_left
              · intro w' hSw; (try dsimp only at hSw); have q1 := hSw.1; have q2 := hSw.2.1; have q3 := hSw.2.2.1; have q4 := hSw.2.2.2; rw [hrun] at q1; clear hSw; go_simp; try with_reducible rfl
              simp only [Act.put, List.setIfInBounds_toArray, List.set_cons_zero, List.set_cons_succ]
              refine wpAnyH_ready (rs := [20]) (by kernel_rfl) (by simp) ?_
              refine AllReadyH.cons rfl (fun K hK => ?_) (AllReadyH.nil)
              go_simp
              refine (HV.out _ T1.out.drew).mono ?_; rintro e w2 ⟨rfl, T2, U2⟩
              have HT2 := Lib.hid T2
              have HU2 := Lib.hid ((Up.below (Below.refl _ _).drew).trans U2)
              have z18 := T2.c18
              have z17 := T2.c17
              have z19 := T2.c19
              have z16 := T2.c16
              clear T2 U2
              clear hHeld
              refine hK.out _ _ ⟨z18, z17, z19, z16⟩ (fun hHeld => ?_)
              clear hK K
              try simp only [Act.put, List.setIfInBounds_toArray, List.set_cons_zero, List.set_cons_succ]
              refine takeH (i := 21) (d := some 63) (v := ?_) rfl rfl (by kernel_rfl) (by kernel_rfl) (by kernel_rfl) (fun _ _ _ h => h) (Or.inl ⟨by rfl, ?_⟩) hHeld ?_
              rotate_left
              · intro w' hSw; (try dsimp only at hSw); go_simp; try with_reducible rfl
              simp only [Act.put, List.setIfInBounds_toArray, List.set_cons_zero, List.set_cons_succ]
              refine takeH (i := 22) (d := some 64) (v := ?_) rfl rfl (by kernel_rfl) (by kernel_rfl) (by kernel_rfl) (fun _ _ _ h => h) (Or.inl ⟨by rfl, ?_⟩) hHeld ?_
              rotate_left
              · intro w' hSw; (try dsimp only at hSw); go_simp; try with_reducible rfl
              simp only [Act.put, List.setIfInBounds_toArray, List.set_cons_zero, List.set_cons_succ]
              refine takeH (i := 23) (d := some 41) (v := ?_) rfl rfl (by kernel_rfl) (by kernel_rfl) (by kernel_rfl) (fun _ _ _ h => h) (Or.inl ⟨by rfl, ?_⟩) hHeld ?_
              rotate_left
              · intro w' hSw; (try dsimp only at hSw); go_simp; try with_reducible rfl
              simp only [Act.put, List.setIfInBounds_toArray, List.set_cons_zero, List.set_cons_succ]
              refine wpAnyH_done (by kernel_rfl) ?_ _
              go_wp2_with fail
              go_meet
              exact ⟨by rw [HWr.out, dv], HT2.out, HU2.out⟩
            obtain ⟨rfl, T4, U4⟩ := hcut
            have HT4 := Lib.hid T4
            have HU4 := Lib.hid (U1.out.trans U4)
            clear T4 U4 T1 U1 HV HWr x6 x17 x21 y17 y21
            go_wp2_with fail
            refine (HG.out _ HT4.out).mono ?_; rintro e w5 ⟨rfl, T5, U5⟩
            have HT5 := Lib.hid T5
            have HU5 := Lib.hid (HU4.out.trans U5)
            clear T5 U5 HT4 HU4 HG
            go_wp2_with fail
            refine (HL.out _ _ HT5.out).mono ?_; rintro e w9 ⟨rfl, T9, U9⟩
            have HT9 := Lib.hid T9
            have HU9 := Lib.hid (HU5.out.trans U9)
            clear T9 U9 HL
            go_wp2_with fail
            go_ret
            exact ⟨ret_int HE.out.symm, by rw [HC.out]; exact HT9.out, HU9.out⟩
          · have HL : Hid (∀ Q W, CT b (K1 c t) Q W → Calls Try.prog 24 #[ptr b] W fun e w' => e = .returned (.tuple #[]) ∧ CT b (Cn.tick1 (K1 c t)).look Q w' ∧ Up b Q Q W w') := fun Q W h' => HL0.out Q W (by rw [HQd.out () h9 (fun h => hv h.2)]; exact h')
            have dv : decide (Rt.val c.tm ≤ t - c.beg) = false := decide_eq_false hv
            clear h9 hv HQa HQb HQc HQd HL0 HD HG
            go_wp2_with fail
            go_cut [41] from 42 to 64 (fun s W => s = .bool false ∧ CT b (K1 c t) P W ∧ Up b P P W1 W)
            case first =>
              refine wp_region_held_drew (S := (fun W' => W'.cell? ⟨b, 18, none⟩ = some (.bool c.run) ∧ W'.cell? ⟨b, 17, none⟩ = some (.int .i64 t) ∧ W'.cell? ⟨b, 19, none⟩ = some (.int .i64 c.beg) ∧ W'.cell? ⟨b, 16, none⟩ = some (ptr P.pt))) (by kernel_rfl) ⟨T1.out.drew.c18, T1.out.drew.c17, T1.out.drew.c19, T1.out.drew.c16⟩ (fun hHeld => ?_)
              refine takeH (i := 0) (d := some 42) (v := ?_) rfl rfl (by kernel_rfl) (by kernel_rfl) (by kernel_rfl) (fun _ _ _ h => h) (Or.inl ⟨by rfl, ?_⟩) hHeld ?_
              rotate_left
              · intro w' hSw; (try dsimp only at hSw); go_simp; try with_reducible rfl
              simp only [Act.put, List.setIfInBounds_toArray, List.set_cons_zero, List.set_cons_succ]
              refine takeH (i := 1) (d := some 43) (v := ?_) rfl rfl (by kernel_rfl) (by kernel_rfl) (by kernel_rfl) (fun _ _ _ h => h) (Or.inl ⟨by rfl, ?_⟩) hHeld ?_
              rotate_left
              · intro w' hSw; (try dsimp only at hSw); go_simp; try with_reducible rfl
              simp only [Act.put, List.setIfInBounds_toArray, List.set_cons_zero, List.set_cons_succ]
              refine takeH (i := 2) (d := some 44) (v := ?_) rfl rfl (by kernel_rfl) (by kernel_rfl) (by kernel_rfl) (fun _ _ _ h => h) (Or.inl ⟨by rfl, ?_⟩) hHeld ?_
              rotate_left
              · intro w' hSw; (try dsimp only at hSw); go_simp; try with_reducible rfl
              simp only [Act.put, List.setIfInBounds_toArray, List.set_cons_zero, List.set_cons_succ]
              refine takeH (i := 3) (d := some 45) (v := ?_) rfl rfl (by kernel_rfl) (by kernel_rfl) (by kernel_rfl) (fun _ _ _ h => h) (Or.inl ⟨by rfl, ?_⟩) hHeld ?_
              rotate_left
              · intro w' hSw; (try dsimp only at hSw); go_simp; try with_reducible rfl
              simp only [Act.put, List.setIfInBounds_toArray, List.set_cons_zero, List.set_cons_succ]
              refine takeH (i := 4) (d := some 46) (v := ?_) rfl rfl (by kernel_rfl) (by kernel_rfl) (by kernel_rfl) (fun _ _ _ h => h) (Or.inl ⟨by rfl, ?_⟩) hHeld ?_
              rotate_left
              · intro w' hSw; (try dsimp only at hSw); have q1 := hSw.1; have q2 := hSw.2.1; have q3 := hSw.2.2.1; have q4 := hSw.2.2.2; rw [hrun] at q1; clear hSw; go_simp; try with_reducible rfl
              simp only [Act.put, List.setIfInBounds_toArray, List.set_cons_zero, List.set_cons_succ]
              refine takeH (i := 5) (d := some 47) (v := ?_) rfl rfl (by kernel_rfl) (by kernel_rfl) (by kernel_rfl) (fun _ _ _ h => h) (Or.inl ⟨by rfl, ?_⟩) hHeld ?_
              rotate_left
              · intro w' hSw; (try dsimp only at hSw); go_simp; try with_reducible rfl
              simp only [Act.put, List.setIfInBounds_toArray, List.set_cons_zero, List.set_cons_succ]
              refine takeH (i := 6) (d := some 48) (v := ?_) rfl rfl (by kernel_rfl) (by kernel_rfl) (by kernel_rfl) (fun _ _ _ h => h) (Or.inl ⟨by rfl, ?_⟩) hHeld ?_
              rotate_left
              · intro w' hSw; (try dsimp only at hSw); go_simp; try with_reducible rfl
              simp only [Act.put, List.setIfInBounds_toArray, List.set_cons_zero, List.set_cons_succ]
              refine takeH (i := 7) (d := some 49) (v := ?_) rfl rfl (by kernel_rfl) (by kernel_rfl) (by kernel_rfl) (fun _ _ _ h => h) (Or.inl ⟨by rfl, ?_⟩) hHeld ?_
              rotate_left
              · intro w' hSw; (try dsimp only at hSw); go_simp; try with_reducible rfl
              simp only [Act.put, List.setIfInBounds_toArray, List.set_cons_zero, List.set_cons_succ]
              refine takeH (i := 8) (d := some 50) (v := ?_) rfl rfl (by kernel_rfl) (by kernel_rfl) (by kernel_rfl) (fun _ _ _ h => h) (Or.inl ⟨by rfl, ?_⟩) hHeld ?_
              rotate_left
              · intro w' hSw; (try dsimp only at hSw); go_simp; try with_reducible rfl
              simp only [Act.put, List.setIfInBounds_toArray, List.set_cons_zero, List.set_cons_succ]
              refine takeH (i := 9) (d := some 51) (v := ?_) rfl rfl (by kernel_rfl) (by kernel_rfl) (by kernel_rfl) (fun _ _ _ h => h) (Or.inl ⟨by rfl, ?_⟩) hHeld ?_
              rotate_left
              · intro w' hSw; (try dsimp only at hSw); have q1 := hSw.1; have q2 := hSw.2.1; have q3 := hSw.2.2.1; have q4 := hSw.2.2.2; rw [hrun] at q1; clear hSw; go_simp; try with_reducible rfl
              simp only [Act.put, List.setIfInBounds_toArray, List.set_cons_zero, List.set_cons_succ]
              refine takeH (i := 10) (d := some 52) (v := ?_) rfl rfl (by kernel_rfl) (by kernel_rfl) (by kernel_rfl) (fun _ _ _ h => h) (Or.inl ⟨by rfl, ?_⟩) hHeld ?_
              rotate_left
              · intro w' hSw; (try dsimp only at hSw); go_simp; try with_reducible rfl
              simp only [Act.put, List.setIfInBounds_toArray, List.set_cons_zero, List.set_cons_succ]
              refine takeH (i := 11) (d := some 53) (v := ?_) rfl rfl (by kernel_rfl) (by kernel_rfl) (by kernel_rfl) (fun _ _ _ h => h) (Or.inl ⟨by rfl, ?_⟩) hHeld ?_
              rotate_left
              · intro w' hSw; (try dsimp only at hSw); go_simp; try with_reducible rfl
              simp only [Act.put, List.setIfInBounds_toArray, List.set_cons_zero, List.set_cons_succ]
              refine takeH (i := 12) (d := some 54) (v := ?_) rfl rfl (by kernel_rfl) (by kernel_rfl) (by kernel_rfl) (fun _ _ _ h => h) (Or.inl ⟨by rfl, ?_⟩) hHeld ?_
              rotate_left
              · intro w' hSw; (try dsimp only at hSw); go_simp; try with_reducible rfl
              simp only [Act.put, List.setIfInBounds_toArray, List.set_cons_zero, List.set_cons_succ]
              refine takeH (i := 13) (d := some 55) (v := ?_) rfl rfl (by kernel_rfl) (by kernel_rfl) (by kernel_rfl) (fun _ _ _ h => h) (Or.inl ⟨by rfl, ?_⟩) hHeld ?_
              rotate_left
              · intro w' hSw; (try dsimp only at hSw); go_simp; try with_reducible rfl
              simp only [Act.put, List.setIfInBounds_toArray, List.set_cons_zero, List.set_cons_succ]
              refine takeH (i := 14) (d := some 56) (v := ?_) rfl rfl (by kernel_rfl) (by kernel_rfl) (by kernel_rfl) (fun _ _ _ h => h) (Or.inl ⟨by rfl, ?_⟩) hHeld ?_
              rotate_left
              · intro w' hSw; (try dsimp only at hSw); have q1 := hSw.1; have q2 := hSw.2.1; have q3 := hSw.2.2.1; have q4 := hSw.2.2.2; rw [hrun] at q1; clear hSw; go_simp; try with_reducible rfl
              simp only [Act.put, List.setIfInBounds_toArray, List.set_cons_zero, List.set_cons_succ]
              refine takeH (i := 15) (d := some 57) (v := ?_) rfl rfl (by kernel_rfl) (by kernel_rfl) (by kernel_rfl) (fun _ _ _ h => h) (Or.inl ⟨by rfl, ?_⟩) hHeld ?_
              rotate_left
              · intro w' hSw; (try dsimp only at hSw); go_simp; try with_reducible rfl
              simp only [Act.put, List.setIfInBounds_toArray, List.set_cons_zero, List.set_cons_succ]
              refine takeH (i := 16) (d := some 58) (v := ?_) rfl rfl (by kernel_rfl) (by kernel_rfl) (by kernel_rfl) (fun _ _ _ h => h) (Or.inl ⟨by rfl, ?_⟩) hHeld ?_
              rotate_left
              · intro w' hSw; (try dsimp only at hSw); go_simp; try with_reducible rfl
              simp only [Act.put, List.setIfInBounds_toArray, List.set_cons_zero, List.set_cons_succ]
              refine takeH (i := 17) (d := some 59) (v := ?_) rfl rfl (by kernel_rfl) (by kernel_rfl) (by kernel_rfl) (fun _ _ _ h => h) (Or.inl ⟨by rfl, ?_⟩) hHeld ?_
              rotate_left
              · intro w' hSw; (try dsimp only at hSw); go_simp; try with_reducible rfl
              simp only [Act.put, List.setIfInBounds_toArray, List.set_cons_zero, List.set_cons_succ]
              refine takeH (i := 18) (d := some 60) (v := ?_) rfl rfl (by kernel_rfl) (by kernel_rfl) (by kernel_rfl) (fun _ _ _ h => h) (Or.inl ⟨by rfl, ?_⟩) hHeld ?_
              rotate_left
              · intro w' hSw; (try dsimp only at hSw); go_simp; try with_reducible rfl
              simp only [Act.put, List.setIfInBounds_toArray, List.set_cons_zero, List.set_cons_succ]
              refine takeH (i := 19) (d := some 61) (v := ?_) rfl rfl (by kernel_rfl) (by kernel_rfl) (by kernel_rfl) (fun _ _ _ h => h) (Or.inl ⟨by rfl, ?_⟩) hHeld ?_
              rotate_left
              · intro w' hSw; (try dsimp only at hSw); have q1 := hSw.1; have q2 := hSw.2.1; have q3 := hSw.2.2.1; have q4 := hSw.2.2.2; rw [hrun] at q1; clear hSw; go_simp; try with_reducible rfl
              simp only [Act.put, List.setIfInBounds_toArray, List.set_cons_zero, List.set_cons_succ]
              refine wpAnyH_ready (rs := [20]) (by kernel_rfl) (by simp) ?_
              refine AllReadyH.cons rfl (fun K hK => ?_) (AllReadyH.nil)
              go_simp
              refine (HV.out _ T1.out.drew).mono ?_; rintro e w2 ⟨rfl, T2, U2⟩
              have HT2 := Lib.hid T2
              have HU2 := Lib.hid ((Up.below (Below.refl _ _).drew).trans U2)
              have z18 := T2.c18
              have z17 := T2.c17
              have z19 := T2.c19
              have z16 := T2.c16
              clear T2 U2
              clear hHeld
              refine hK.out _ _ ⟨z18, z17, z19, z16⟩ (fun hHeld => ?_)
              clear hK K
              try simp only [Act.put, List.setIfInBounds_toArray, List.set_cons_zero, List.set_cons_succ]
              refine takeH (i := 21) (d := some 63) (v := ?_) rfl rfl (by kernel_rfl) (by kernel_rfl) (by kernel_rfl) (fun _ _ _ h => h) (Or.inl ⟨by rfl, ?_⟩) hHeld ?_
              rotate_left
              · intro w' hSw; (try dsimp only at hSw); go_simp; try with_reducible rfl
              simp only [Act.put, List.setIfInBounds_toArray, List.set_cons_zero, List.set_cons_succ]
              refine takeH (i := 22) (d := some 64) (v := ?_) rfl rfl (by kernel_rfl) (by kernel_rfl) (by kernel_rfl) (fun _ _ _ h => h) (Or.inl ⟨by rfl, ?_⟩) hHeld ?_
              rotate_left
              · intro w' hSw; (try dsimp only at hSw); go_simp; try with_reducible rfl
              simp only [Act.put, List.setIfInBounds_toArray, List.set_cons_zero, List.set_cons_succ]
              refine takeH (i := 23) (d := some 41) (v := ?_) rfl rfl (by kernel_rfl) (by kernel_rfl) (by kernel_rfl) (fun _ _ _ h => h) (Or.inl ⟨by rfl, ?_⟩) hHeld ?_
              rotate_left
              · intro w' hSw; (try dsimp only at hSw); go_simp; try with_reducible rfl
              simp only [Act.put, List.setIfInBounds_toArray, List.set_cons_zero, List.set_cons_succ]
              refine wpAnyH_done (by kernel_rfl) ?_ _
              go_wp2_with fail
              go_meet
              exact ⟨by rw [HWr.out, dv], HT2.out, HU2.out⟩
            obtain ⟨rfl, T4, U4⟩ := hcut
            have HT4 := Lib.hid T4
            have HU4 := Lib.hid (U1.out.trans U4)
            clear T4 U4 T1 U1 HV HWr x6 x17 x21 y17 y21
            go_wp2_with fail
            refine (HL.out _ _ HT4.out).mono ?_; rintro e w9 ⟨rfl, T9, U9⟩
            have HT9 := Lib.hid T9
            have HU9 := Lib.hid (HU4.out.trans U9)
            clear T9 U9 HL
            go_wp2_with fail
            go_ret
            exact ⟨ret_int HE.out.symm, by rw [HC.out]; exact HT9.out, HU9.out⟩
        | false =>
          have HL : Hid (∀ Q W, CT b (K1 c t) Q W → Calls Try.prog 24 #[ptr b] W fun e w' => e = .returned (.tuple #[]) ∧ CT b (Cn.tick1 (K1 c t)).look Q w' ∧ Up b Q Q W w') := fun Q W h' => HL0.out Q W (by rw [HQd.out () h9 (fun h => by rw [hrun] at h; cases h.1)]; exact h')
          clear h9 HQa HQb HQc HQd HL0 HD HG
          go_wp2_with fail
          go_cut [41] from 42 to 64 (fun s W => s = .bool false ∧ CT b (K1 c t) P W ∧ Up b P P W1 W)
          case first =>
            refine wp_region_held_drew (S := (fun W' => W'.cell? ⟨b, 18, none⟩ = some (.bool c.run) ∧ W'.cell? ⟨b, 17, none⟩ = some (.int .i64 t) ∧ W'.cell? ⟨b, 19, none⟩ = some (.int .i64 c.beg) ∧ W'.cell? ⟨b, 16, none⟩ = some (ptr P.pt))) (by kernel_rfl) ⟨T1.out.drew.c18, T1.out.drew.c17, T1.out.drew.c19, T1.out.drew.c16⟩ (fun hHeld => ?_)
            refine takeH (i := 0) (d := some 42) (v := ?_) rfl rfl (by kernel_rfl) (by kernel_rfl) (by kernel_rfl) (fun _ _ _ h => h) (Or.inl ⟨by rfl, ?_⟩) hHeld ?_
            rotate_left
            · intro w' hSw; (try dsimp only at hSw); go_simp; try with_reducible rfl
            simp only [Act.put, List.setIfInBounds_toArray, List.set_cons_zero, List.set_cons_succ]
            refine takeH (i := 1) (d := some 43) (v := ?_) rfl rfl (by kernel_rfl) (by kernel_rfl) (by kernel_rfl) (fun _ _ _ h => h) (Or.inl ⟨by rfl, ?_⟩) hHeld ?_
            rotate_left
            · intro w' hSw; (try dsimp only at hSw); go_simp; try with_reducible rfl
            simp only [Act.put, List.setIfInBounds_toArray, List.set_cons_zero, List.set_cons_succ]
            refine takeH (i := 2) (d := some 44) (v := ?_) rfl rfl (by kernel_rfl) (by kernel_rfl) (by kernel_rfl) (fun _ _ _ h => h) (Or.inl ⟨by rfl, ?_⟩) hHeld ?_
            rotate_left
            · intro w' hSw; (try dsimp only at hSw); go_simp; try with_reducible rfl
            simp only [Act.put, List.setIfInBounds_toArray, List.set_cons_zero, List.set_cons_succ]
            refine takeH (i := 3) (d := some 45) (v := ?_) rfl rfl (by kernel_rfl) (by kernel_rfl) (by kernel_rfl) (fun _ _ _ h => h) (Or.inl ⟨by rfl, ?_⟩) hHeld ?_
            rotate_left
            · intro w' hSw; (try dsimp only at hSw); go_simp; try with_reducible rfl
            simp only [Act.put, List.setIfInBounds_toArray, List.set_cons_zero, List.set_cons_succ]
            refine takeH (i := 4) (d := some 46) (v := ?_) rfl rfl (by kernel_rfl) (by kernel_rfl) (by kernel_rfl) (fun _ _ _ h => h) (Or.inl ⟨by rfl, ?_⟩) hHeld ?_
            rotate_left
            · intro w' hSw; (try dsimp only at hSw); have q1 := hSw.1; have q2 := hSw.2.1; have q3 := hSw.2.2.1; have q4 := hSw.2.2.2; rw [hrun] at q1; clear hSw; go_simp; try with_reducible rfl
            simp only [Act.put, List.setIfInBounds_toArray, List.set_cons_zero, List.set_cons_succ]
            refine takeH (i := 5) (d := some 47) (v := ?_) rfl rfl (by kernel_rfl) (by kernel_rfl) (by kernel_rfl) (fun _ _ _ h => h) (Or.inl ⟨by rfl, ?_⟩) hHeld ?_
            rotate_left
            · intro w' hSw; (try dsimp only at hSw); go_simp; try with_reducible rfl
            simp only [Act.put, List.setIfInBounds_toArray, List.set_cons_zero, List.set_cons_succ]
            refine takeH (i := 6) (d := some 48) (v := undef) rfl rfl (by kernel_rfl) (by kernel_rfl) (by kernel_rfl) (fun _ _ _ h => h) (Or.inr ⟨by rfl, rfl⟩) hHeld ?_
            simp only [Act.put, List.setIfInBounds_toArray, List.set_cons_zero, List.set_cons_succ]
            refine takeH (i := 7) (d := some 49) (v := undef) rfl rfl (by kernel_rfl) (by kernel_rfl) (by kernel_rfl) (fun _ _ _ h => h) (Or.inr ⟨by rfl, rfl⟩) hHeld ?_
            simp only [Act.put, List.setIfInBounds_toArray, List.set_cons_zero, List.set_cons_succ]
            refine takeH (i := 8) (d := some 50) (v := undef) rfl rfl (by kernel_rfl) (by kernel_rfl) (by kernel_rfl) (fun _ _ _ h => h) (Or.inr ⟨by rfl, rfl⟩) hHeld ?_
            simp only [Act.put, List.setIfInBounds_toArray, List.set_cons_zero, List.set_cons_succ]
            refine takeH (i := 9) (d := some 51) (v := undef) rfl rfl (by kernel_rfl) (by kernel_rfl) (by kernel_rfl) (fun _ _ _ h => h) (Or.inr ⟨by rfl, rfl⟩) hHeld ?_
            simp only [Act.put, List.setIfInBounds_toArray, List.set_cons_zero, List.set_cons_succ]
            refine takeH (i := 10) (d := some 52) (v := undef) rfl rfl (by kernel_rfl) (by kernel_rfl) (by kernel_rfl) (fun _ _ _ h => h) (Or.inr ⟨by rfl, rfl⟩) hHeld ?_
            simp only [Act.put, List.setIfInBounds_toArray, List.set_cons_zero, List.set_cons_succ]
            refine takeH (i := 11) (d := some 53) (v := undef) rfl rfl (by kernel_rfl) (by kernel_rfl) (by kernel_rfl) (fun _ _ _ h => h) (Or.inr ⟨by rfl, rfl⟩) hHeld ?_
            simp only [Act.put, List.setIfInBounds_toArray, List.set_cons_zero, List.set_cons_succ]
            refine takeH (i := 12) (d := some 54) (v := undef) rfl rfl (by kernel_rfl) (by kernel_rfl) (by kernel_rfl) (fun _ _ _ h => h) (Or.inr ⟨by rfl, rfl⟩) hHeld ?_
            simp only [Act.put, List.setIfInBounds_toArray, List.set_cons_zero, List.set_cons_succ]
            refine takeH (i := 13) (d := some 55) (v := undef) rfl rfl (by kernel_rfl) (by kernel_rfl) (by kernel_rfl) (fun _ _ _ h => h) (Or.inr ⟨by rfl, rfl⟩) hHeld ?_
            simp only [Act.put, List.setIfInBounds_toArray, List.set_cons_zero, List.set_cons_succ]
            refine takeH (i := 14) (d := some 56) (v := undef) rfl rfl (by kernel_rfl) (by kernel_rfl) (by kernel_rfl) (fun _ _ _ h => h) (Or.inr ⟨by rfl, rfl⟩) hHeld ?_
            simp only [Act.put, List.setIfInBounds_toArray, List.set_cons_zero, List.set_cons_succ]
            refine takeH (i := 15) (d := some 57) (v := undef) rfl rfl (by kernel_rfl) (by kernel_rfl) (by kernel_rfl) (fun _ _ _ h => h) (Or.inr ⟨by rfl, rfl⟩) hHeld ?_
            simp only [Act.put, List.setIfInBounds_toArray, List.set_cons_zero, List.set_cons_succ]
            refine takeH (i := 16) (d := some 58) (v := undef) rfl rfl (by kernel_rfl) (by kernel_rfl) (by kernel_rfl) (fun _ _ _ h => h) (Or.inr ⟨by rfl, rfl⟩) hHeld ?_
            simp only [Act.put, List.setIfInBounds_toArray, List.set_cons_zero, List.set_cons_succ]
            refine takeH (i := 17) (d := some 59) (v := undef) rfl rfl (by kernel_rfl) (by kernel_rfl) (by kernel_rfl) (fun _ _ _ h => h) (Or.inr ⟨by rfl, rfl⟩) hHeld ?_
            simp only [Act.put, List.setIfInBounds_toArray, List.set_cons_zero, List.set_cons_succ]
            refine takeH (i := 18) (d := some 60) (v := undef) rfl rfl (by kernel_rfl) (by kernel_rfl) (by kernel_rfl) (fun _ _ _ h => h) (Or.inr ⟨by rfl, rfl⟩) hHeld ?_
            simp only [Act.put, List.setIfInBounds_toArray, List.set_cons_zero, List.set_cons_succ]
            refine takeH (i := 19) (d := some 61) (v := undef) rfl rfl (by kernel_rfl) (by kernel_rfl) (by kernel_rfl) (fun _ _ _ h => h) (Or.inr ⟨by rfl, rfl⟩) hHeld ?_
            simp only [Act.put, List.setIfInBounds_toArray, List.set_cons_zero, List.set_cons_succ]
            refine takeH (i := 20) (d := some 62) (v := undef) rfl rfl (by kernel_rfl) (by kernel_rfl) (by kernel_rfl) (fun _ _ _ h => h) (Or.inr ⟨by rfl, rfl⟩) hHeld ?_
            simp only [Act.put, List.setIfInBounds_toArray, List.set_cons_zero, List.set_cons_succ]
            refine takeH (i := 21) (d := some 63) (v := undef) rfl rfl (by kernel_rfl) (by kernel_rfl) (by kernel_rfl) (fun _ _ _ h => h) (Or.inr ⟨by rfl, rfl⟩) hHeld ?_
            simp only [Act.put, List.setIfInBounds_toArray, List.set_cons_zero, List.set_cons_succ]
            refine takeH (i := 22) (d := some 64) (v := ?_) rfl rfl (by kernel_rfl) (by kernel_rfl) (by kernel_rfl) (fun _ _ _ h => h) (Or.inl ⟨by rfl, ?_⟩) hHeld ?_
            rotate_left
            · intro w' hSw; (try dsimp only at hSw); go_simp; try with_reducible rfl
            simp only [Act.put, List.setIfInBounds_toArray, List.set_cons_zero, List.set_cons_succ]
            refine takeH (i := 23) (d := some 41) (v := ?_) rfl rfl (by kernel_rfl) (by kernel_rfl) (by kernel_rfl) (fun _ _ _ h => h) (Or.inl ⟨by rfl, ?_⟩) hHeld ?_
            rotate_left
            · intro w' hSw; (try dsimp only at hSw); go_simp; try with_reducible rfl
            simp only [Act.put, List.setIfInBounds_toArray, List.set_cons_zero, List.set_cons_succ]
            refine wpAnyH_done (by kernel_rfl) ?_ _
            go_wp2_with fail
            go_meet
            exact ⟨rfl, T1.out.drew, Up.below (Below.refl _ _).drew⟩
          obtain ⟨rfl, T4, U4⟩ := hcut
          have HT4 := Lib.hid T4
          have HU4 := Lib.hid (U1.out.trans U4)
          clear T4 U4 T1 U1 HV HWr x6 x17 x21 y17 y21
          go_wp2_with fail
          refine (HL.out _ _ HT4.out).mono ?_; rintro e w9 ⟨rfl, T9, U9⟩
          have HT9 := Lib.hid T9
          have HU9 := Lib.hid (HU4.out.trans U9)
          clear T9 U9 HL
          go_wp2_with fail
          go_ret
          exact ⟨ret_int HE.out.symm, by rw [HC.out]; exact HT9.out, HU9.out⟩
end
end Go.Proofs.Ytnhcjefbiihfjaa
