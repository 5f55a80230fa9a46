/-
  Contract of goOff (package conn).
-/
import Derived.Test.YtnhcjefbiihfjaaCm
import Derived.Deep.CutBlock
namespace Go.Proofs.Ytnhcjefbiihfjaa
open Go.RowKit
open Tc (Sg gchk gv gc)
set_option linter.unusedVariables false
set_option linter.unusedSimpArgs false
section
variable {b k bx : Nat} {c : Cn} {P : Pt} {g : Sg} {w : World}
/-- Half way through a clock that went off. -/
def G1 (c : Cn) : Cn := { c with gone := c.gone + 1 }
def G2 (c : Cn) : Cn := { G1 c with tm := Rt.late c.tm }
def G3 (c : Cn) : Cn := { G2 c with beg := c.time }
def G4 (c : Cn) : Cn := { G3 c with cw := Cw.sil c.cw c.flight }
def G5 (c : Cn) : Cn := { G4 c with o := Oq.bk c.o }
theorem off_8 (h : c.gone = 8) : c.goOff = c.done 13 := by unfold Cn.goOff; rw [if_pos h]
theorem off_f (h : ¬ c.gone = 8) (hf : 0 < c.flight) : c.goOff = { G5 c with beh := 0, snc := 0 } := by
  unfold Cn.goOff G5 G4 G3 G2 G1
  rw [if_neg h, if_pos hf]
theorem off_p (h : ¬ c.gone = 8) (hf : ¬ 0 < c.flight) : c.goOff = { G3 c with probe := true } := by
  unfold Cn.goOff G3 G2 G1
  rw [if_neg h, if_neg hf]
set_option maxHeartbeats 2000000 in
theorem goOff_any (h : CT b c P w) (ok : COk k c) (hk : Few k) :
    Calls Try.prog 23 #[ptr b] w fun e w' => e = .returned (.tuple #[]) ∧ CT b c.goOff P w' ∧ Up b P P w w' := by
  have c20 := h.c20
  have f20 := h.free 20
  have g0 := ok.go.1
  have g1 := ok.go.2
  obtain ⟨l0, l1⟩ := ok.fl hk
  have HD : Hid (Calls Try.prog 21 #[ptr b, .int .i64 13] w fun e w' => e = .returned (.tuple #[]) ∧ CT b (c.done 13) P w' ∧ Up b P P w w') := end_any h 13
  have T1 : Hid (CT b (G1 c) P (w.setCell ⟨b, 20, none⟩ (.int .i64 (c.gone + 1)))) := h.s20 _
  have U1 : Hid (Up b P P w (w.setCell ⟨b, 20, none⟩ (.int .i64 (c.gone + 1)))) := (Up.refl _ _ _).set _ _
  have x16 := T1.out.c16
  have HT : Hid (∀ W, CT b (G1 c) P W → Calls Try.prog 41 #[ptr P.pt] W fun e w' => e = .returned (.tuple #[]) ∧ CT b (G2 c) P w' ∧ Up b P P W w') := fun W h' => (Rt.late_any P.pt c.tm W h'.tim ok.tm).mono fun e w' ⟨h1, h2, h3⟩ => ⟨h1, h'.putT h2 h3, up1 h3 (by simp [fp])⟩
  have HX : Hid (∀ W, CT b (G2 c) P W → W.cell? ⟨b, 17, none⟩ = some (.int .i64 c.time) ∧ W.cell? ⟨b, 19, none⟩ = some (.int .i64 c.beg) ∧ W.frozen? ⟨b, 19, none⟩ = false ∧ CT b (G3 c) P (W.setCell ⟨b, 19, none⟩ (.int .i64 c.time))) := fun W h' => ⟨h'.c17, h'.c19, h'.free _, h'.s19 _⟩
  have HF : Hid (∀ W, CT b (G3 c) P W → Calls Try.prog 42 #[ptr b] W fun e w' => e = .returned (.int .i64 c.flight) ∧ CT b (G3 c) P w' ∧ Up b P P W w') := fun W h' => by
    have k3 : c.gone ≤ 7 → COk k (G3 c) := fun h7 => { ok with go := by show 0 ≤ c.gone + 1 ∧ c.gone + 1 ≤ 8; omega, tm := ok.tm.late, bg := ⟨ok.ti.1, Int.le_refl _⟩ }
    have HC : Hid (∀ m, Calls Try.prog 65 #[ptr P.po] (W.drewN m) fun e w' => e = .returned (.int .i64 c.o.c) ∧ w' = W.drewN m) := fun m => Oq.q_cur (h'.drewN m).out
    have HU : Hid (∀ m, Calls Try.prog 66 #[ptr P.po] (W.drewN m) fun e w' => e = .returned (.int .i64 c.o.u) ∧ w' = W.drewN m) := fun m => Oq.q_una (h'.drewN m).out
    have y10 := h'.c10
    obtain ⟨b1, b2, b3, b4, b5⟩ := ok.ob hk
    have HH := Lib.hid h'
    have HF : Hid (c.flight = c.o.c - c.o.u) := rfl
    clear h' k3
    generalize c.flight = F at *
    generalize c.o.c = x at *
    generalize c.o.u = y at *
    go_enter Try.func42, Try.ntmps42
    go_wp2_with fail
    go_quiet (first | (go_at_call 65; exact Calls.quiet_of_same (HC.out _)) | (go_at_call 66; exact Calls.quiet_of_same (HU.out _)))
    go_wp2_with fail
    go_ret
    exact ⟨ret_int HF.out.symm, HH.out.drewN _, Up.below (below_drewN W _)⟩
  have HW : Hid (∀ W, CT b (G3 c) P W → Calls Try.prog 43 #[ptr P.pw, .int .i64 c.flight] W fun e w' => e = .returned (.tuple #[]) ∧ CT b (G4 c) P w' ∧ Up b P P W w') := fun W h' => (Cw.sil_any P.pw c.cw c.flight W h'.win ok.cw (by omega) (by omega)).mono fun e w' ⟨h1, h2, h3⟩ => ⟨h1, h'.putW h2 h3, up1 h3 (by simp [fp])⟩
  have HB : Hid (∀ W, CT b (G4 c) P W → Calls Try.prog 44 #[ptr P.po] W fun e w' => e = .returned (.tuple #[]) ∧ CT b (G5 c) P w' ∧ Up b P P W w') := fun W h' => (Oq.q_back h'.out).mono fun e w' ⟨h1, h2, h3⟩ => ⟨h1, h'.putO h2 (h3.mono (by simp)) rfl, up1 h3 (by simp [fp])⟩
  have HZ : Hid (∀ W, CT b (G5 c) P W → (W.cell? ⟨b, 22, none⟩ = some (.int .i64 c.beh) ∧ W.cell? ⟨b, 23, none⟩ = some (.int .i64 c.snc)) ∧ W.frozen? ⟨b, 22, none⟩ = false ∧ W.frozen? ⟨b, 23, none⟩ = false ∧ CT b { G5 c with beh := 0, snc := 0 } P ((W.setCell ⟨b, 22, none⟩ (.int .i64 0)).setCell ⟨b, 23, none⟩ (.int .i64 0))) := fun W h' => ⟨⟨h'.c22, h'.c23⟩, h'.free _, h'.free _, (h'.s22 0).s23 0⟩
  have HP : Hid (∀ W, CT b (G3 c) P W → W.cell? ⟨b, 27, none⟩ = some (.bool c.probe) ∧ W.frozen? ⟨b, 27, none⟩ = false ∧ CT b { G3 c with probe := true } P (W.setCell ⟨b, 27, none⟩ (.bool true))) := fun W h' => ⟨h'.c27, h'.free _, h'.s27 _⟩
  have HE8 : Hid (c.gone = 8 → c.goOff = c.done 13) := off_8
  have HEf : Hid (∀ x y : Unit, ¬ c.gone = 8 → 0 < c.flight → c.goOff = { G5 c with beh := 0, snc := 0 }) := fun _ _ => off_f
  have HEp : Hid (∀ x y : Unit, ¬ c.gone = 8 → ¬ 0 < c.flight → c.goOff = { G3 c with probe := true }) := fun _ _ => off_p
  have x15 : ∀ W, CT b (G3 c) P W → W.cell? ⟨b, 15, none⟩ = some (ptr P.pw) := fun W h' => h'.c15
  have H15 := Lib.hid x15
  have x10 : ∀ W, CT b (G4 c) P W → W.cell? ⟨b, 10, none⟩ = some (ptr P.po) := fun W h' => h'.c10
  have H10 := Lib.hid x10
  clear h ok hk x15 x10
  by_cases h8 : c.gone = 8
  · have HE : Hid (c.goOff = c.done 13) := HE8.out h8
    rw [h8] at c20
    clear h8 HE8 HEf HEp HT HX HF HW HB HZ HP T1 U1 x16 f20
    go_enter Try.func23, Try.ntmps23
    go_wp2_with fail
    refine HD.out.mono ?_; rintro e w1 ⟨rfl, T2, U2⟩
    have HT2 := Lib.hid T2
    have HU2 := Lib.hid U2
    clear T2 U2 HD
    go_wp2_with fail
    refine bodyPost_ret (results_none rfl _ _ _) rfl ?_
    exact ⟨rfl, by rw [HE.out]; exact HT2.out, HU2.out⟩
  · have d8 : (c.gone == 8) = false := by simpa using h8
    by_cases hf : 0 < c.flight
    · have HE : Hid (c.goOff = { G5 c with beh := 0, snc := 0 }) := HEf.out () () h8 hf
      have df : decide (0 < c.flight) = true := decide_eq_true hf
      clear h8 hf HE8 HEf HEp HP HD
      generalize c.flight = F at *
      go_enter Try.func23, Try.ntmps23
      go_wp2_with fail
      refine (HT.out _ T1.out).mono ?_; rintro e w2 ⟨rfl, T2, U2⟩
      obtain ⟨y17, y19, f19, T3⟩ := HX.out _ T2
      have HT3 := Lib.hid T3
      have HU3 := Lib.hid ((U1.out.trans U2).set 19 (.int .i64 c.time))
      clear T2 U2 T3 T1 U1 HT HX c20 f20 x16
      go_wp2_with fail
      refine (HF.out _ HT3.out).mono ?_; rintro e w4 ⟨rfl, T4, U4⟩
      have HT4 := Lib.hid T4
      have HU4 := Lib.hid (HU3.out.trans U4)
      clear T4 U4 HT3 HU3 y17 y19 f19
      have y15 := H15.out _ HT4.out
      clear HF H15
      go_wp2_with fail
      refine (HW.out _ HT4.out).mono ?_; rintro e w5 ⟨rfl, T5, U5⟩
      have HT5 := Lib.hid T5
      have HU5 := Lib.hid (HU4.out.trans U5)
      have y10 := H10.out _ T5
      clear T5 U5 HT4 HU4 y15 HW
      go_wp2_with fail
      refine (HB.out _ HT5.out).mono ?_; rintro e w6 ⟨rfl, T6, U6⟩
      obtain ⟨⟨y22, y23⟩, f22, f23, T7⟩ := HZ.out _ T6
      have HT7 := Lib.hid T7
      have HU7 := Lib.hid (((HU5.out.trans U6).set 22 (.int .i64 0)).set 23 (.int .i64 0))
      clear T6 U6 T7 HT5 HU5 HB HZ y10
      go_wp2_with fail
      refine bodyPost_end (results_none rfl _ _ _) rfl ?_
      exact ⟨rfl, by rw [HE.out]; exact HT7.out, HU7.out⟩
    · have HE : Hid (c.goOff = { G3 c with probe := true }) := HEp.out () () h8 hf
      have df : decide (0 < c.flight) = false := decide_eq_false hf
      clear h8 hf HE8 HEf HEp HD HW HB HZ
      generalize c.flight = F at *
      go_enter Try.func23, Try.ntmps23
      go_wp2_with fail
      refine (HT.out _ T1.out).mono ?_; rintro e w2 ⟨rfl, T2, U2⟩
      obtain ⟨y17, y19, f19, T3⟩ := HX.out _ T2
      have HT3 := Lib.hid T3
      have HU3 := Lib.hid ((U1.out.trans U2).set 19 (.int .i64 c.time))
      clear T2 U2 T3 T1 U1 HT HX c20 f20 x16
      go_wp2_with fail
      refine (HF.out _ HT3.out).mono ?_; rintro e w4 ⟨rfl, T4, U4⟩
      have HT4 := Lib.hid T4
      have HU4 := Lib.hid (HU3.out.trans U4)
      clear T4 U4 HT3 HU3 y17 y19 f19
      obtain ⟨y27, f27, T5⟩ := HP.out _ HT4.out
      have HT5 := Lib.hid T5
      have HU5 := Lib.hid (HU4.out.set 27 (.bool true))
      clear T5 HT4 HU4 HF H15 H10 HP
      go_wp2_with fail
      refine bodyPost_end (results_none rfl _ _ _) rfl ?_
      exact ⟨rfl, by rw [HE.out]; exact HT5.out, HU5.out⟩
end
end Go.Proofs.Ytnhcjefbiihfjaa
