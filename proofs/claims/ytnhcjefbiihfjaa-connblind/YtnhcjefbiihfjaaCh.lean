/-
  Contracts of package conn: what an acknowledgement says, and the body behind it.
-/
import Derived.Test.YtnhcjefbiihfjaaCg
import Derived.Deep.CutBlock
namespace Go.Proofs.Ytnhcjefbiihfjaa
open Go.RowKit
open Tc (Sg gchk gv gc)
set_option linter.unusedVariables false
set_option linter.unusedSimpArgs false
section
variable {b k bx : Nat} {c : Cn} {P : Pt} {g : Sg} {w : World}
theorem may_1 {n : Nat} {a : Int} (h : c.st = 2 ∧ (a < 1 ∨ c.o.s < a)) : c.mayAck n a = (false, c.ask n) := by unfold Cn.mayAck; rw [if_pos h]
theorem may_2 {n : Nat} {a : Int} (h : ¬ (c.st = 2 ∧ (a < 1 ∨ c.o.s < a))) (h2 : c.o.s < a) : c.mayAck n a = (false, { c with ack := true }) := by unfold Cn.mayAck; rw [if_neg h, if_pos h2]
theorem may_3 {n : Nat} {a : Int} (h : ¬ (c.st = 2 ∧ (a < 1 ∨ c.o.s < a))) (h2 : ¬ c.o.s < a) (h3 : c.st = 2) : c.mayAck n a = (true, { c with st := if c.o.sh then 4 else 3 }) := by unfold Cn.mayAck; rw [if_neg h, if_neg h2, if_pos h3]
theorem may_4 {n : Nat} {a : Int} (h : ¬ (c.st = 2 ∧ (a < 1 ∨ c.o.s < a))) (h2 : ¬ c.o.s < a) (h3 : ¬ c.st = 2) : c.mayAck n a = (true, c) := by unfold Cn.mayAck; rw [if_neg h, if_neg h2, if_neg h3]
set_option maxHeartbeats 1000000 in
theorem may_any (h : CT b c P w) (ok : COk k c) (hk : Few k) (n : Nat) (a : Int) :
    Calls Try.prog 81 #[ptr b, .int .u32 (n : Int), .int .i64 a] w fun e w' => e = .returned (.bool (c.mayAck n a).1) ∧ ∃ P', CT b (c.mayAck n a).2 P' w' ∧ Up b P P' w w' := by
  have HS : Hid (Calls Try.prog 34 #[ptr P.po] w fun e w' => e = .returned (.int .i64 c.o.s) ∧ w' = w) := Oq.q_sent h.out
  have HA : Hid (Calls Try.prog 32 #[ptr b, .int .u32 (n : Int)] w fun e w' => e = .returned (.tuple #[]) ∧ ∃ P', CT b (c.ask n) P' w' ∧ Up b P P' w w') := askRst_any h ok hk n
  have H := Lib.hid h
  have c6 := h.c6
  have c10 := h.c10
  have c11 := h.c11
  have c28 := h.c28
  have f28 := h.free 28
  have f6 := h.free 6
  have TA : Hid (CT b { c with ack := true } P (w.setCell ⟨b, 28, none⟩ (.bool true)) ∧ Up b P P w (w.setCell ⟨b, 28, none⟩ (.bool true))) := ⟨h.s28 true, (Up.refl _ _ _).set _ _⟩
  have TS : Hid (∀ x, CT b { c with st := x } P (w.setCell ⟨b, 6, none⟩ (.int .i64 x)) ∧ Up b P P w (w.setCell ⟨b, 6, none⟩ (.int .i64 x))) := fun x => ⟨h.s6 x, (Up.refl _ _ _).set _ _⟩
  clear h ok hk
  by_cases h2 : c.st = 2
  · rw [h2] at c6
    by_cases h1 : a < 1
    · have HE := Lib.hid (may_1 (c := c) (n := n) (a := a) ⟨h2, Or.inl h1⟩)
      clear TA TS HS h2
      go_enter Try.func81, Try.ntmps81
      go_wp2_with fail
      refine HA.out.mono ?_; rintro e w1 ⟨rfl, P1, T1, U1⟩
      have HT1 := Lib.hid T1
      have HU1 := Lib.hid U1
      clear T1 U1
      go_wp2_with fail
      go_ret
      rw [HE.out]
      exact ⟨rfl, P1, HT1.out, HU1.out⟩
    · by_cases hs : c.o.s < a
      · have HE := Lib.hid (may_1 (c := c) (n := n) (a := a) ⟨h2, Or.inr hs⟩)
        clear TA TS h2
        go_enter Try.func81, Try.ntmps81
        go_wp2_with fail
        refine HS.out.mono ?_; rintro e w1 ⟨rfl, rfl⟩
        go_wp2_with fail
        refine HA.out.mono ?_; rintro e w1 ⟨rfl, P1, T1, U1⟩
        have HT1 := Lib.hid T1
        have HU1 := Lib.hid U1
        clear T1 U1
        go_wp2_with fail
        go_ret
        rw [HE.out]
        exact ⟨rfl, P1, HT1.out, HU1.out⟩
      · have HE := Lib.hid (may_3 (c := c) (n := n) (a := a) (fun h => h.2.elim h1 hs) hs h2)
        cases hsh : c.o.sh with
        | true =>
          rw [hsh] at c11 HE
          clear TA h2 HA hsh
          go_enter Try.func81, Try.ntmps81
          go_wp2_with fail
          refine HS.out.mono ?_; rintro e w1 ⟨rfl, rfl⟩
          go_wp2_with fail
          refine HS.out.mono ?_; rintro e w1 ⟨rfl, rfl⟩
          go_wp2_with fail
          go_ret
          rw [HE.out]
          exact ⟨rfl, P, (TS.out _).1, (TS.out _).2⟩
        | false =>
          rw [hsh] at c11 HE
          clear TA h2 HA hsh
          go_enter Try.func81, Try.ntmps81
          go_wp2_with fail
          refine HS.out.mono ?_; rintro e w1 ⟨rfl, rfl⟩
          go_wp2_with fail
          refine HS.out.mono ?_; rintro e w1 ⟨rfl, rfl⟩
          go_wp2_with fail
          go_ret
          rw [HE.out]
          exact ⟨rfl, P, (TS.out _).1, (TS.out _).2⟩
  · have d2 : (c.st == 2) = false := by simpa using h2
    by_cases hs : c.o.s < a
    · have HE := Lib.hid (may_2 (c := c) (n := n) (a := a) (fun h => h2 h.1) hs)
      clear TS h2 HA
      go_enter Try.func81, Try.ntmps81
      go_wp2_with fail
      refine HS.out.mono ?_; rintro e w1 ⟨rfl, rfl⟩
      go_wp2_with fail
      go_ret
      rw [HE.out]
      exact ⟨rfl, P, TA.out.1, TA.out.2⟩
    · have HE := Lib.hid (may_4 (c := c) (n := n) (a := a) (fun h => h2 h.1) hs h2)
      clear TS h2 HA TA
      go_enter Try.func81, Try.ntmps81
      go_wp2_with fail
      refine HS.out.mono ?_; rintro e w1 ⟨rfl, rfl⟩
      go_wp2_with fail
      go_ret
      rw [HE.out]
      exact ⟨rfl, P, H.out, Up.refl _ _ _⟩
/-- Half way through a body. -/
def TB1 (c : Cn) (g : Sg) (p : Int) : Cn := if c.st = 3 ∨ c.st = 4 ∨ c.st = 5 then (if Cn.overI (c.putI g p) then (c.putI g p).heard else c.putI g p) else c.again9 g
theorem body_TB (c : Cn) (g : Sg) (p : Int) : c.takeBody g p = if 0 < Tc.lnw g then { TB1 c g p with ack := true } else TB1 c g p := rfl
theorem inV_put {t : Iq.St} (hi : c.i = some t) (p : Int) : inV (c.putI g p) P = ptr P.pi := by unfold inV; rw [show (c.putI g p).i = some (Iq.put t p g.body g.fin) from by show c.i.map _ = _; rw [hi]; rfl]
set_option maxRecDepth 100000 in
set_option maxHeartbeats 2000000 in
theorem takeBody_any (h : CT b c P w) (ok : COk k c) (hk : Few k) (hg : gchk g = 0) (p : Int) (p0 : -9223372036854775808 ≤ p) (p1 : p ≤ 9223372036854775807) (hi : c.i ≠ none) :
    Calls Try.prog 84 #[ptr b, gv g, .int .i64 p] w fun e w' => e = .returned (.tuple #[]) ∧ CT b (c.takeBody g p) P w' ∧ Up b P P w w' := by
  obtain ⟨t, ht⟩ : ∃ t, c.i = some t := by
    rcases hc : c.i with _ | t
    · exact absurd hc hi
    · exact ⟨t, rfl⟩
  have hbs := (chk_ok hg).2.2
  have B0 := Lib.hid (Bx.new h g)
  have U0 : Hid (Up b P P w (w.alloc (.cells (gc g) 35))) := Up.below ((Below.refl _ _).alloc (Nat.le_refl _) _)
  have c6 : (w.alloc (.cells (gc g) 35)).cell? ⟨b, 6, none⟩ = some (.int .i64 c.st) := B0.out.ct.c6
  have y0 : (w.alloc (.cells (gc g) 35)).drew.cell? ⟨b, 12, none⟩ = some (ptr P.pi) := by
    have := B0.out.ct.drew.c12
    rwa [show inV c P = ptr P.pi from by unfold inV; rw [ht]] at this
  have HI1 : Hid (inV (c.putI g p) P = ptr P.pi) := inV_put ht p
  have hpi : (c.putI g p).i = some (Iq.put t p g.body g.fin) := by show c.i.map _ = _; rw [ht]; rfl
  have HP : Hid (∀ {bx : Nat} W, Bx b c P bx g W → Calls Try.prog 92 #[ptr P.pi, .int .i64 p, .string g.body, .bool g.fin] W fun e w' => e = .returned (.bool (Iq.moved t p g.body g.fin)) ∧ CT b (c.putI g p) P w' ∧ Up b P P W w') := fun W h' =>
    (Iq.put_any (h'.ct.inn t ht) (ok.i t ht).1 (by have := (ok.ib hk ht).2.1; omega) p p0 p1 g.body (by omega) g.fin).mono fun e w' ⟨h1, h2, h3⟩ => ⟨h1, by
      have := h'.ct.putI ht h2 h3
      have e : c.putI g p = { c with i := some (Iq.put t p g.body g.fin) } := by show ({ c with i := c.i.map _ } : Cn) = _; rw [ht]; rfl
      rw [e]; exact this, up1 h3 (by simp [fp])⟩
  have HO : Hid (∀ W, CT b (c.putI g p) P W → Calls Try.prog 89 #[ptr P.pi] W fun e w' => e = .returned (.bool (c.putI g p).overI) ∧ CT b (c.putI g p) P w' ∧ Up b P P W w') := fun W h' => by
    refine (Iq.over_any (h'.inn _ hpi) (((ok.i t ht).1.put p g.body g.fin).lo)).mono ?_
    rintro e w' ⟨rfl, m, rfl⟩
    exact ⟨by unfold Cn.overI; rw [hpi], h'.drewN m, Up.below (below_drewN W m)⟩
  have HH : Hid (∀ W, CT b (c.putI g p) P W → Calls Try.prog 93 #[ptr b] W fun e w' => e = .returned (.tuple #[]) ∧ CT b (c.putI g p).heard P w' ∧ Up b P P W w') := fun W h' => heard_any h' (ok.putI g p)
  have HC : Hid (∀ W, CT b c P W → Calls Try.prog 79 #[ptr b, gv g] W fun e w' => e = .returned (.tuple #[]) ∧ CT b (c.again9 g) P w' ∧ Up b P P W w') := fun W h' => waitAnew_any g h' ok
  have HL : Hid (∀ W, Calls Try.prog 59 #[gv g] W fun e w' => e = .returned (.int .i64 (Tc.lnw g)) ∧ Below W.heap.size W w') := fun W => Tc.lengthw_any g W (by unfold maxLen; omega)
  have HUs := Lib.hid Try.underlying35
  have HZ1 : Hid (0 < Tc.lnw g → c.takeBody g p = { TB1 c g p with ack := true }) := fun hl => by rw [body_TB, if_pos hl]
  have HZ2 : Hid (¬ 0 < Tc.lnw g → c.takeBody g p = TB1 c g p) := fun hl => by rw [body_TB, if_neg hl]
  have HT0 : Hid (¬ (c.st = 3 ∨ c.st = 4 ∨ c.st = 5) → TB1 c g p = c.again9 g) := fun hd => by unfold TB1; rw [if_neg hd]
  have HTa : Hid ((c.st = 3 ∨ c.st = 4 ∨ c.st = 5) → (c.putI g p).overI = true → TB1 c g p = (c.putI g p).heard) := fun hd ho => by unfold TB1; rw [if_pos hd, if_pos ho]
  have HTb : Hid ((c.st = 3 ∨ c.st = 4 ∨ c.st = 5) → (c.putI g p).overI = false → TB1 c g p = c.putI g p) := fun hd ho => by unfold TB1; rw [if_pos hd, ho]; rfl
  clear h ok hk hg hi ht hpi hbs
  by_cases hd : c.st = 3 ∨ c.st = 4 ∨ c.st = 5
  · have HT1 := Lib.hid (HTa.out hd)
    have HT2 := Lib.hid (HTb.out hd)
    clear HTa HTb HT0 HC
    rcases hd with h3 | h3 | h3
    all_goals
      rw [h3] at c6
      clear h3
      go_enter Try.func84, Try.ntmps84
      go_upto_block 0 with fail
      generalize w.alloc (.cells (gc g) 35) = W0 at *
      generalize w.heap.size = bx at *
      go_cut [] from 10 to 33 (fun W => Bx b (TB1 c g p) P bx g W ∧ Up b P P w W)
      case first =>
        go_wp2_with fail
        go_cut [] from 17 to 26 (fun W => Bx b (c.putI g p) P bx g W ∧ Up b P P w W)
        case first =>
          refine wp_region_held_drew (S := (fun W' => W'.cell? ⟨b, 12, none⟩ = some (ptr P.pi) ∧ Tc.GB bx g W')) (by kernel_rfl) ⟨y0, B0.out.drew.gb⟩ (fun hHeld => ?_)
          refine takeH (i := 0) (d := some 17) (v := ?_) rfl rfl (by kernel_rfl) (by kernel_rfl) (by kernel_rfl) (fun _ _ _ h => h) (Or.inl ⟨by rfl, ?_⟩) hHeld ?_
          rotate_left
          · intro w' hSw; (try dsimp only at hSw); go_simp; try with_reducible rfl
          simp only [Act.put, List.setIfInBounds_toArray, List.set_cons_zero, List.set_cons_succ]
          refine takeH (i := 1) (d := some 18) (v := ?_) rfl rfl (by kernel_rfl) (by kernel_rfl) (by kernel_rfl) (fun _ _ _ h => h) (Or.inl ⟨by rfl, ?_⟩) hHeld ?_
          rotate_left
          · intro w' hSw; (try dsimp only at hSw); go_simp; try with_reducible rfl
          simp only [Act.put, List.setIfInBounds_toArray, List.set_cons_zero, List.set_cons_succ]
          refine takeH (i := 2) (d := some 19) (v := ?_) rfl rfl (by kernel_rfl) (by kernel_rfl) (by kernel_rfl) (fun _ _ _ h => h) (Or.inl ⟨by rfl, ?_⟩) hHeld ?_
          rotate_left
          · intro w' hSw; (try dsimp only at hSw); go_simp; try with_reducible rfl
          simp only [Act.put, List.setIfInBounds_toArray, List.set_cons_zero, List.set_cons_succ]
          refine takeH (i := 3) (d := some 20) (v := ?_) rfl rfl (by kernel_rfl) (by kernel_rfl) (by kernel_rfl) (fun _ _ _ h => h) (Or.inl ⟨by rfl, ?_⟩) hHeld ?_
          rotate_left
          · intro w' hSw; (try dsimp only at hSw); have q1 := hSw.1; have q2 := hSw.2.c12; have q3 := hSw.2.c8; clear hSw; go_simp; try with_reducible rfl
          simp only [Act.put, List.setIfInBounds_toArray, List.set_cons_zero, List.set_cons_succ]
          refine takeH (i := 4) (d := some 21) (v := ?_) rfl rfl (by kernel_rfl) (by kernel_rfl) (by kernel_rfl) (fun _ _ _ h => h) (Or.inl ⟨by rfl, ?_⟩) hHeld ?_
          rotate_left
          · intro w' hSw; (try dsimp only at hSw); go_simp; try with_reducible rfl
          simp only [Act.put, List.setIfInBounds_toArray, List.set_cons_zero, List.set_cons_succ]
          refine takeH (i := 5) (d := some 22) (v := ?_) rfl rfl (by kernel_rfl) (by kernel_rfl) (by kernel_rfl) (fun _ _ _ h => h) (Or.inl ⟨by rfl, ?_⟩) hHeld ?_
          rotate_left
          · intro w' hSw; (try dsimp only at hSw); go_simp; try with_reducible rfl
          simp only [Act.put, List.setIfInBounds_toArray, List.set_cons_zero, List.set_cons_succ]
          refine takeH (i := 6) (d := some 23) (v := ?_) rfl rfl (by kernel_rfl) (by kernel_rfl) (by kernel_rfl) (fun _ _ _ h => h) (Or.inl ⟨by rfl, ?_⟩) hHeld ?_
          rotate_left
          · intro w' hSw; (try dsimp only at hSw); have q1 := hSw.1; have q2 := hSw.2.c12; have q3 := hSw.2.c8; clear hSw; go_simp; try with_reducible rfl
          simp only [Act.put, List.setIfInBounds_toArray, List.set_cons_zero, List.set_cons_succ]
          refine takeH (i := 7) (d := some 24) (v := ?_) rfl rfl (by kernel_rfl) (by kernel_rfl) (by kernel_rfl) (fun _ _ _ h => h) (Or.inl ⟨by rfl, ?_⟩) hHeld ?_
          rotate_left
          · intro w' hSw; (try dsimp only at hSw); go_simp; try with_reducible rfl
          simp only [Act.put, List.setIfInBounds_toArray, List.set_cons_zero, List.set_cons_succ]
          refine takeH (i := 8) (d := some 25) (v := ?_) rfl rfl (by kernel_rfl) (by kernel_rfl) (by kernel_rfl) (fun _ _ _ h => h) (Or.inl ⟨by rfl, ?_⟩) hHeld ?_
          rotate_left
          · intro w' hSw; (try dsimp only at hSw); have q1 := hSw.1; have q2 := hSw.2.c12; have q3 := hSw.2.c8; clear hSw; go_simp; try with_reducible rfl
          simp only [Act.put, List.setIfInBounds_toArray, List.set_cons_zero, List.set_cons_succ]
          refine wpAnyH_ready (rs := [9]) (by kernel_rfl) (by simp) ?_
          refine AllReadyH.cons rfl (fun K hK => ?_) (AllReadyH.nil)
          go_simp
          refine (HP.out _ B0.out.drew).mono ?_; rintro e w2 ⟨rfl, T2, U2⟩
          have B2 := Lib.hid (B0.out.drew.up T2 U2)
          have HU2 := Lib.hid ((U0.out.then (Below.refl _ _).drew).trans U2)
          have y12 := T2.c12
          rw [HI1.out] at y12
          clear T2 U2
          clear hHeld
          refine hK.out _ _ ⟨y12, B2.out.gb⟩ (fun hHeld => ?_)
          clear hK K
          try simp only [Act.put, List.setIfInBounds_toArray, List.set_cons_zero, List.set_cons_succ]
          refine wpAnyH_done (by kernel_rfl) ?_ _
          go_wp2_with fail
          go_meet
          exact ⟨B2.out, HU2.out⟩
        obtain ⟨B2, U2⟩ := hcut
        have HB2 := Lib.hid B2
        have HU2 := Lib.hid U2
        have y12 := B2.ct.c12
        rw [HI1.out] at y12
        clear B2 U2 HP y0
        go_wp2_with fail
        refine (HO.out _ HB2.out.ct).mono ?_; rintro e w3 ⟨rfl, T3, U3⟩
        have HB3 := Lib.hid (HB2.out.up T3 U3)
        have HU3 := Lib.hid (HU2.out.trans U3)
        clear T3 U3 HB2 HU2 HO
        cases hov : (c.putI g p).overI with
        | true =>
          have HE := Lib.hid (HT1.out hov)
          clear hov
          go_wp2_with fail
          refine (HH.out _ HB3.out.ct).mono ?_; rintro e w4 ⟨rfl, T4, U4⟩
          have HB4 := Lib.hid (HB3.out.up T4 U4)
          have HU4 := Lib.hid (HU3.out.trans U4)
          clear T4 U4 HB3 HU3
          go_wp2_with fail
          go_meet
          exact ⟨by rw [HE.out]; exact HB4.out, HU4.out⟩
        | false =>
          have HE := Lib.hid (HT2.out hov)
          clear hov
          go_wp2_with fail
          go_meet
          exact ⟨by rw [HE.out]; exact HB3.out, HU3.out⟩
      obtain ⟨B5, U5⟩ := hcut
      have HB5 := Lib.hid B5
      have HU5 := Lib.hid U5
      clear B5 U5 B0 U0 c6 y0
      go_wp2_with (refine wpList_load_mid rfl 35 _ rfl _ _ rfl (gcl g) _ (GB.range HB5.out.gb) HUs.out rfl infoSeg ?_)
      refine (HL.out _).mono ?_; rintro e w6 ⟨rfl, hb6⟩
      have HB6 := Lib.hid (HB5.out.keep hb6)
      have HU6 := Lib.hid (HU5.out.then hb6)
      have c28 := HB6.out.ct.c28
      have f28 := HB6.out.ct.free 28
      clear hb6 HB5 HU5 HL
      by_cases hl : 0 < Tc.lnw g
      · have HE := Lib.hid (HZ1.out hl)
        have dl : decide (0 < Tc.lnw g) = true := decide_eq_true hl
        go_wp2_with fail
        refine bodyPost_end (results_none rfl _ _ _) rfl ?_
        exact ⟨rfl, by rw [HE.out]; exact HB6.out.ct.s28 true, HU6.out.set _ _⟩
      · have HE := Lib.hid (HZ2.out (by omega))
        have dl : decide (0 < Tc.lnw g) = false := decide_eq_false hl
        go_wp2_with fail
        refine bodyPost_end (results_none rfl _ _ _) rfl ?_
        exact ⟨rfl, by rw [HE.out]; exact HB6.out.ct, HU6.out⟩
  · have HE0 := Lib.hid (HT0.out hd)
    have d3 : (c.st == 3) = false := by rw [beq_eq_false_iff_ne]; omega
    have d4 : (c.st == 4) = false := by rw [beq_eq_false_iff_ne]; omega
    have d5 : (c.st == 5) = false := by rw [beq_eq_false_iff_ne]; omega
    clear HTa HTb HT0 HO HH HP HI1 y0 hd
    go_enter Try.func84, Try.ntmps84
    go_upto_block 0 with fail
    generalize w.alloc (.cells (gc g) 35) = W0 at *
    generalize w.heap.size = bx at *
    go_cut [] from 10 to 33 (fun W => Bx b (TB1 c g p) P bx g W ∧ Up b P P w W)
    case first =>
      go_wp2_with (refine wpList_load_mid rfl 35 _ rfl _ _ rfl (gcl g) _ (GB.range B0.out.gb) HUs.out rfl infoSeg ?_)
      refine (HC.out _ B0.out.ct).mono ?_; rintro e w3 ⟨rfl, T3, U3⟩
      have HB3 := Lib.hid (B0.out.up T3 U3)
      have HU3 := Lib.hid (U0.out.trans U3)
      clear T3 U3
      go_wp2_with fail
      go_meet
      exact ⟨by rw [HE0.out]; exact HB3.out, HU3.out⟩
    obtain ⟨B5, U5⟩ := hcut
    have HB5 := Lib.hid B5
    have HU5 := Lib.hid U5
    clear B5 U5 B0 U0 c6
    go_wp2_with (refine wpList_load_mid rfl 35 _ rfl _ _ rfl (gcl g) _ (GB.range HB5.out.gb) HUs.out rfl infoSeg ?_)
    refine (HL.out _).mono ?_; rintro e w6 ⟨rfl, hb6⟩
    have HB6 := Lib.hid (HB5.out.keep hb6)
    have HU6 := Lib.hid (HU5.out.then hb6)
    have c28 := HB6.out.ct.c28
    have f28 := HB6.out.ct.free 28
    clear hb6 HB5 HU5 HL
    by_cases hl : 0 < Tc.lnw g
    · have HE := Lib.hid (HZ1.out hl)
      have dl : decide (0 < Tc.lnw g) = true := decide_eq_true hl
      go_wp2_with fail
      refine bodyPost_end (results_none rfl _ _ _) rfl ?_
      exact ⟨rfl, by rw [HE.out]; exact HB6.out.ct.s28 true, HU6.out.set _ _⟩
    · have HE := Lib.hid (HZ2.out (by omega))
      have dl : decide (0 < Tc.lnw g) = false := decide_eq_false hl
      go_wp2_with fail
      refine bodyPost_end (results_none rfl _ _ _) rfl ?_
      exact ⟨rfl, by rw [HE.out]; exact HB6.out.ct, HU6.out⟩
end
end Go.Proofs.Ytnhcjefbiihfjaa
