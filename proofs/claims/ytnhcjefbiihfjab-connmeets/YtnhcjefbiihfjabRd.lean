/-
  Contracts of Read, Ready (package conn).
-/
import Derived.Test.YtnhcjefbiihfjabTk
import Derived.Deep.CutBlock
namespace Go.Proofs.Ytnhcjefbiihfjab
open Go.RowKit
open Tc (Sg gchk gv gc)
set_option linter.unusedVariables false
set_option linter.unusedSimpArgs false
section
variable {b k : Nat} {c : Cn} {P : Pt} {w : World}
theorem ready_q (h : CT b c P w) (ok : COk k c) (hk : Few k) :
    Calls Try.prog 36 #[ptr b] w fun e w' => e = .returned (.int .i64 c.rdyI) ∧ ∃ m, w' = w.drewN m := by
  have c12 := h.c12
  cases hi : c.i with
  | none =>
    have e1 : c.rdyI = 0 := by unfold Cn.rdyI; rw [hi]
    rw [show inV c P = .pointer none by unfold inV; rw [hi]] at c12
    rw [e1]
    clear h ok hk hi e1
    go_enter Try.func36, Try.ntmps36
    go_wp2_with fail
    go_ret
    exact ⟨rfl, 0, rfl⟩
  | some t =>
    have e1 : c.rdyI = (Iq.rdy t : Int) := by unfold Cn.rdyI; rw [hi]
    rw [show inV c P = ptr P.pi by unfold inV; rw [hi]] at c12
    have HR := Lib.hid (Iq.ready_any (h.inn t hi) (ok.i t hi).1.lo (by have := (ok.ib hk hi).2.1; omega))
    rw [e1]
    clear h ok hk hi e1
    generalize Iq.rdy t = R at *
    go_enter Try.func36, Try.ntmps36
    go_wp2_with fail
    refine HR.out.mono ?_; rintro e w1 ⟨rfl, m, rfl⟩
    go_wp2_with fail
    go_ret
    exact ⟨rfl, m, rfl⟩
theorem over_q (h : CT b c P w) (ok : COk k c) (hk : Few k) :
    Calls Try.prog 37 #[ptr b] w fun e w' => e = .returned (.bool c.overI) ∧ ∃ m, w' = w.drewN m := by
  have c12 := h.c12
  cases hi : c.i with
  | none =>
    have e1 : c.overI = false := by unfold Cn.overI; rw [hi]
    rw [show inV c P = .pointer none by unfold inV; rw [hi]] at c12
    rw [e1]
    clear h ok hk hi e1
    go_enter Try.func37, Try.ntmps37
    go_wp2_with fail
    go_ret
    exact ⟨rfl, 0, rfl⟩
  | some t =>
    have e1 : c.overI = Iq.over t := by unfold Cn.overI; rw [hi]
    rw [show inV c P = ptr P.pi by unfold inV; rw [hi]] at c12
    have HR := Lib.hid (Iq.over_any (h.inn t hi) (ok.i t hi).1.lo)
    rw [e1]
    clear h ok hk hi e1
    generalize Iq.over t = R at *
    go_enter Try.func37, Try.ntmps37
    go_wp2_with fail
    refine HR.out.mono ?_; rintro e w1 ⟨rfl, m, rfl⟩
    go_wp2_with fail
    go_ret
    exact ⟨rfl, m, rfl⟩
/-- What Read tells. -/
def readA (c : Cn) (m : Int) : ByteArray × Bool × Int := if 0 < c.rdyI then (c.readS m, false, 0) else if c.overI = true then (⟨#[]⟩, true, 0) else if c.st ≠ 0 then (⟨#[]⟩, false, 14) else if c.why ≠ 0 then (⟨#[]⟩, false, c.why) else (⟨#[]⟩, true, 0)
def readK (c : Cn) (m : Int) : Cn := if 0 < c.rdyI then c.readC m else c
abbrev rav (a : ByteArray × Bool × Int) : Value := .tuple #[.string a.1, .bool a.2.1, .int .i64 a.2.2]
theorem COk.readK (h : COk k c) (m : Int) : COk (k + 1) (readK c m) := by
  unfold Proofs.Ytnhcjefbiihfjab.readK
  split
  · exact h.readC m
  · exact h.mono (Nat.le_succ k)
set_option maxHeartbeats 1000000 in
theorem read_any (h : CT b c P w) (ok : COk k c) (hk : Few k) (m : Int) (m1 : -9223372036854775808 ≤ m) (m2 : m ≤ 9223372036854775807) :
    Calls Try.prog 21 #[ptr b, .int .i64 m] w fun e w' => e = .returned (rav (readA c m)) ∧ CT b (readK c m) P w' ∧ Up b P P w w' := by
  have HRd : Hid (Calls Try.prog 36 #[ptr b] w fun e w' => e = .returned (.int .i64 c.rdyI) ∧ CT b c P w' ∧ Up b P P w w') := (ready_q h ok hk).mono fun e w' ⟨h1, n, h2⟩ => ⟨h1, h2 ▸ h.drewN n, h2 ▸ Up.below (below_drewN w n)⟩
  have HOv : Hid (∀ W, CT b c P W → Calls Try.prog 37 #[ptr b] W fun e w' => e = .returned (.bool c.overI) ∧ CT b c P w' ∧ Up b P P W w') := fun W h' => (over_q h' ok hk).mono fun e w' ⟨h1, n, h2⟩ => ⟨h1, h2 ▸ h'.drewN n, h2 ▸ Up.below (below_drewN W n)⟩
  by_cases hr : 0 < c.rdyI
  · obtain ⟨t, hi⟩ : ∃ t, c.i = some t := by
      cases hi : c.i with
      | none => unfold Cn.rdyI at hr; rw [hi] at hr; exact absurd hr (by decide)
      | some t => exact ⟨t, rfl⟩
    have e1 : readA c m = (Iq.str t.c t.f (Iq.rk t m), false, 0) := by unfold readA Cn.readS; rw [if_pos hr, hi]
    have e2 : readK c m = { c with i := some (Iq.rd t m) } := by unfold readK Cn.readC; rw [if_pos hr, hi]; rfl
    have HQ : Hid (∀ W, CT b c P W → W.cell? ⟨b, 12, none⟩ = some (ptr P.pi) ∧ Calls Try.prog 41 #[ptr P.pi, .int .i64 m] W fun e w' => e = .returned (.string (Iq.str t.c t.f (Iq.rk t m))) ∧ CT b { c with i := some (Iq.rd t m) } P w' ∧ Up b P P W w') := fun W h' => by
      refine ⟨by rw [h'.c12]; unfold inV; rw [hi], (Iq.read_any (h'.inn t hi) (ok.i t hi).1 (by have := (ok.ib hk hi).2.1; omega) m m1 m2 _ rfl).mono fun e w' ⟨h1, h2, h3⟩ => ?_⟩
      exact ⟨h1, h'.putI hi h2 h3, Up.of (h3.mono fun x hx => by simp at hx; simp [fp, hx])⟩
    rw [e1, e2]
    clear h ok hk hi e1 e2 HOv m1 m2
    generalize Iq.str t.c t.f (Iq.rk t m) = S at *
    generalize ({ c with i := some (Iq.rd t m) } : Cn) = c2 at *
    generalize c.rdyI = R at *
    go_enter Try.func21, Try.ntmps21
    go_wp2_with fail
    refine HRd.out.mono ?_; rintro e w1 ⟨rfl, h1, u1⟩
    obtain ⟨x12, hq⟩ := HQ.out _ h1
    have HQ2 := Lib.hid hq
    have U1 := Lib.hid u1
    clear h1 u1 hq
    go_wp2_with fail
    refine HQ2.out.mono ?_; rintro e w2 ⟨rfl, h2, u2⟩
    have H2 := Lib.hid h2
    have U2 := Lib.hid u2
    clear h2 u2 x12
    go_wp2_with fail
    first | go_ret3 | go_ret2
    exact ⟨rfl, H2.out, U1.out.trans U2.out⟩
  · have e2 : readK c m = c := by unfold readK; rw [if_neg hr]
    have H6 : Hid (∀ W, CT b c P W → W.cell? ⟨b, 6, none⟩ = some (.int .i64 c.st) ∧ W.cell? ⟨b, 7, none⟩ = some (.int .i64 c.why)) := fun W h' => ⟨h'.c6, h'.c7⟩
    have HE : Hid (readA c m = if c.overI = true then (⟨#[]⟩, true, 0) else if c.st ≠ 0 then (⟨#[]⟩, false, 14) else if c.why ≠ 0 then (⟨#[]⟩, false, c.why) else (⟨#[]⟩, true, 0)) := by show _ = _; unfold readA; rw [if_neg hr]
    have HD : Hid (∀ W n, CT b c P W → CT b c P (W.drewN n) ∧ Up b P P W (W.drewN n)) := fun W n h' => ⟨h'.drewN n, Up.below (below_drewN W n)⟩
    rw [e2]
    clear h ok hk e2 m1 m2
    generalize c.rdyI = R at *
    go_enter Try.func21, Try.ntmps21
    go_wp2_with fail
    refine HRd.out.mono ?_; rintro e w1 ⟨rfl, h1, u1⟩
    have U1 := Lib.hid u1
    have HO1 := Lib.hid (HOv.out _ h1)
    clear h1 u1 HOv
    go_wp2_with fail
    refine HO1.out.mono ?_; rintro e w2 ⟨rfl, h2, u2⟩
    obtain ⟨x6, x7⟩ := H6.out _ h2
    have H2 := Lib.hid h2
    have U2 := Lib.hid (U1.out.trans u2)
    clear h2 u2 H6
    have HE0 := HE.out
    clear HE
    cases ho : c.overI with
    | true =>
      rw [ho, if_pos rfl] at HE0
      have HE := Lib.hid HE0
      clear HE0 ho
      go_wp2_with fail
      first | go_ret3 | go_ret2
      exact ⟨by rw [HE.out]; rfl, H2.out, U2.out⟩
    | false =>
      rw [ho, if_neg (by decide)] at HE0
      clear ho
      by_cases h0 : c.st = 0
      · rw [if_neg (fun e => e h0)] at HE0
        have d0 : (c.st != 0) = false := by simpa using h0
        by_cases hw : c.why = 0
        · rw [if_neg (fun e => e hw)] at HE0
          have HE := Lib.hid HE0
          have d1 : (c.why != 0) = false := by simpa using hw
          clear HE0 h0 hw
          go_wp2_with fail
          first | go_ret3 | go_ret2
          exact ⟨by rw [HE.out]; rfl, H2.out, U2.out⟩
        · rw [if_pos hw] at HE0
          have HE := Lib.hid HE0
          have d1 : (c.why != 0) = true := by simpa using hw
          clear HE0 h0 hw
          go_wp2_with fail
          go_quiet (fail)
          go_wp2_with fail
          first | go_ret3 | go_ret2
          exact ⟨by rw [HE.out]; rfl, (HD.out _ _ H2.out).1, U2.out.trans (HD.out _ _ H2.out).2⟩
      · rw [if_pos h0] at HE0
        have HE := Lib.hid HE0
        have d0 : (c.st != 0) = true := by simpa using h0
        clear HE0 h0
        go_wp2_with fail
        first | go_ret3 | go_ret2
        exact ⟨by rw [HE.out]; rfl, H2.out, U2.out⟩
set_option maxHeartbeats 8000000 in
/-- What it is ready for. -/
theorem ready_any (h : CT b c P w) (ok : COk k c) (hk : Few k) :
    Calls Try.prog 16 #[ptr b] w fun e w' => e = .returned (.int .i64 c.ready) ∧ ∃ m, w' = w.drewN m := by
  have HRd : Hid (Calls Try.prog 36 #[ptr b] w fun e w' => e = .returned (.int .i64 c.rdyI) ∧ CT b c P w' ∧ ∃ m, w' = w.drewN m) := (ready_q h ok hk).mono fun e w' ⟨h1, n, h2⟩ => ⟨h1, h2 ▸ h.drewN n, n, h2⟩
  have HOv : Hid (∀ W, CT b c P W → (∃ m, W = w.drewN m) → Calls Try.prog 37 #[ptr b] W fun e w' => e = .returned (.bool c.overI) ∧ CT b c P w' ∧ ∃ m, w' = w.drewN m) := fun W h' ⟨m, hm⟩ => (over_q h' ok hk).mono fun e w' ⟨h1, n, h2⟩ => ⟨h1, h2 ▸ h'.drewN n, m + n, by rw [h2, hm]; simp [World.drewN, Nat.add_assoc]⟩
  have HRm : Hid (∀ W, CT b c P W → Calls Try.prog 38 #[ptr P.po] W fun e w' => e = .returned (.int .i64 (Oq.rmI c.o)) ∧ w' = W) := fun W h' => Oq.q_room h'.out ok.o
  have HE : Hid (c.ready = (if 0 < c.rdyI ∨ c.overI = true ∨ c.st = 0 then 1 else 0) + (if (c.st = 3 ∨ c.st = 6) ∧ 0 < Oq.rmI c.o then 2 else 0) + (if c.why = 0 then 0 else 4)) := rfl
  have HX : Hid (∀ W, CT b c P W → W.cell? ⟨b, 6, none⟩ = some (.int .i64 c.st) ∧ W.cell? ⟨b, 7, none⟩ = some (.int .i64 c.why) ∧ W.cell? ⟨b, 10, none⟩ = some (ptr P.po)) := fun W h' => ⟨h'.c6, h'.c7, h'.c10⟩
  have HC : Hid (∀ W, CT b c P W → (∃ m, W = w.drewN m) → W = W) := fun _ _ _ => rfl
  clear h ok hk
  generalize c.ready = A at *
  generalize c.rdyI = R at *
  generalize c.overI = O at *
  generalize Oq.rmI c.o = M at *
  generalize c.st = s at *
  generalize c.why = y at *
  have hs : s = 0 ∨ s = 3 ∨ s = 6 ∨ (s ≠ 0 ∧ s ≠ 3 ∧ s ≠ 6) := by omega
  have hR : 0 < R ∨ ¬ 0 < R := by omega
  have hM : 0 < M ∨ ¬ 0 < M := by omega
  have hy : y = 0 ∨ ¬ y = 0 := by omega
  rcases hs with rfl | rfl | rfl | ⟨s0, s3, s6⟩ <;> rcases hR with hR | hR <;> cases O <;> rcases hM with hM | hM <;> rcases hy with rfl | hy
  all_goals
    try have d0 : (s == 0) = false := by simpa using s0
    try have d3 : (s == 3) = false := by simpa using s3
    try have d6 : (s == 6) = false := by simpa using s6
    try have dy : (y != 0) = true := by simpa using hy
    first
    | (have HV : Hid (A = 0) := by (show _ = _; rw [HE.out]; simp [*]))
    | (have HV : Hid (A = 1) := by (show _ = _; rw [HE.out]; simp [*]))
    | (have HV : Hid (A = 2) := by (show _ = _; rw [HE.out]; simp [*]))
    | (have HV : Hid (A = 3) := by (show _ = _; rw [HE.out]; simp [*]))
    | (have HV : Hid (A = 4) := by (show _ = _; rw [HE.out]; simp [*]))
    | (have HV : Hid (A = 5) := by (show _ = _; rw [HE.out]; simp [*]))
    | (have HV : Hid (A = 6) := by (show _ = _; rw [HE.out]; simp [*]))
    | (have HV : Hid (A = 7) := by (show _ = _; rw [HE.out]; simp [*]))
    clear HE HC
    go_enter Try.func16, Try.ntmps16
    go_wp2_with fail
    refine HRd.out.mono ?_; rintro e w1 ⟨rfl, h1, m1⟩
    obtain ⟨x6, x7, x10⟩ := HX.out _ h1
    have H1 := Lib.hid h1
    have M1 := Lib.hid m1
    clear h1 m1
    go_wp2_with (first | (refine (HOv.out _ H1.out M1.out).mono ?_; rintro e w2 ⟨rfl, h2, m2⟩; obtain ⟨x6, x7, x10⟩ := HX.out _ h2; have H1 := Lib.hid h2; have M1 := Lib.hid m2; clear h2 m2) | (refine (HRm.out _ H1.out).mono ?_; rintro e w2 ⟨rfl, rfl⟩))
    go_ret
    exact ⟨ret_int HV.out.symm, M1.out⟩
end
end Go.Proofs.Ytnhcjefbiihfjab
