/-
  Contracts of package conn: the SYN that comes; what is acknowledged.
-/
import Derived.Test.YtnhcjefbiihfjaaCd
namespace Go.Proofs.Ytnhcjefbiihfjaa
open Go.RowKit
open Tc (Sg gchk gv gc)
set_option linter.unusedVariables false
set_option linter.unusedSimpArgs false

section
variable {b k : Nat} {c : Cn} {P : Pt} {w : World}
theorem turnAway_any (g : Sg) (h : CT b c P w) (ok : COk k c) :
    Calls Try.prog 61 #[ptr b, gv g] w fun e w' => e = .returned (.tuple #[]) ∧ CT b (c.away g) P w' ∧ Up b P P w w' := by
  have H0 := Lib.hid (h.alloc (.cells (gc g) 35))
  have U0 : Hid (Up b P P w (w.alloc (.cells (gc g) 35))) := Up.below ((Below.refl _ _).alloc (Nat.le_refl _) _)
  have G0 := Lib.hid (Tc.GB.new w g)
  have HA : Hid (c.away g = (if g.rst then c else { c with ack := true }).again9 g) := rfl
  have HU := Lib.hid Try.underlying35
  have g9 := G0.out.c9
  cases hr : g.rst with
  | true =>
    have HC : Hid (∀ w', CT b c P w' → Calls Try.prog 79 #[ptr b, gv g] w' fun e w'' => e = .returned (.tuple #[]) ∧ CT b (c.again9 g) P w'' ∧ Up b P P w' w'') := fun w' h' => waitAnew_any g h' ok
    have HA2 : Hid (c.away g = c.again9 g) := by show _ = _; rw [HA.out, hr]; rfl
    rw [hr] at g9
    clear h ok HA hr
    go_enter Try.func61, Try.ntmps61
    go_wp2_with (refine wpList_load_mid rfl 35 _ rfl _ _ rfl (gcl g) _ (GB.range G0.out) HU.out rfl infoSeg ?_)
    refine (HC.out _ H0.out).mono ?_; rintro e w1 ⟨rfl, T1, U1⟩
    have T2 := Lib.hid T1
    have U2 := Lib.hid (U0.out.trans U1)
    clear T1 U1 HC U0 H0 G0 g9
    go_wp2_with fail
    refine bodyPost_end (results_none rfl _ _ _) rfl ?_
    exact ⟨rfl, by rw [HA2.out]; exact T2.out, U2.out⟩
  | false =>
    have HC : Hid (∀ w', CT b { c with ack := true } P w' → Calls Try.prog 79 #[ptr b, gv g] w' fun e w'' => e = .returned (.tuple #[]) ∧ CT b (Cn.again9 { c with ack := true } g) P w'' ∧ Up b P P w' w'') := fun w' h' => waitAnew_any g h' (ok.setAck true)
    have HA2 : Hid (c.away g = Cn.again9 { c with ack := true } g) := by show _ = _; rw [HA.out, hr]; rfl
    rw [hr] at g9
    have c28 := H0.out.c28
    have f28 := H0.out.free 28
    have H1 := Lib.hid (H0.out.s28 true)
    have U1 := Lib.hid (U0.out.set 28 (.bool true))
    have G1 : Hid (Tc.GB w.heap.size g ((w.alloc (.cells (gc g) 35)).setCell ⟨b, 28, none⟩ (.bool true))) := (Below.heap_setCell _ _ _ _ (fun e => by have := h.lt; have e : w.heap.size = b := e; omega)).trans G0.out
    clear h ok HA hr
    go_enter Try.func61, Try.ntmps61
    go_wp2_with (refine wpList_load_mid rfl 35 _ rfl _ _ rfl (gcl g) _ (GB.range G1.out) HU.out rfl infoSeg ?_)
    refine (HC.out _ H1.out).mono ?_; rintro e w1 ⟨rfl, T1, U2⟩
    have T2 := Lib.hid T1
    have U3 := Lib.hid (U1.out.trans U2)
    clear T1 U1 HC U0 H0 G0 g9 U2 H1 G1 c28 f28
    go_wp2_with fail
    refine bodyPost_end (results_none rfl _ _ _) rfl ?_
    exact ⟨rfl, by rw [HA2.out]; exact T2.out, U3.out⟩
theorem ak_sh (o : Oq.St) (a : Int) : (Oq.ak o a).sh = o.sh := by unfold Oq.ak; split <;> rfl
theorem akN_bd {o : Oq.St} (a : Int) (h0 : 0 ≤ o.u) (h1 : o.s ≤ 1125899906842626) : 0 ≤ Oq.akN o a ∧ Oq.akN o a ≤ 1125899906842626 := by unfold Oq.akN; split <;> omega
/-- Half way through what is acknowledged. -/
def A1 (c : Cn) (a : Int) : Cn := { c with o := Oq.ak c.o a }
def A2 (c : Cn) (a : Int) (t : Rt.Tm) (x y : Int) : Cn := { A1 c a with tm := t, beh := x, snc := y }
def A3 (c : Cn) (a : Int) (t : Rt.Tm) (x y : Int) : Cn := { A2 c a t x y with cw := Cw.ack c.cw (Oq.akN c.o a) }
def A4 (c : Cn) (a : Int) (t : Rt.Tm) (x y : Int) : Cn := { A3 c a t x y with gone := 0, beg := c.time, same := 0 }
theorem acked_y {c : Cn} {a : Int} (h : 0 < c.beh ∧ c.beh ≤ a) : Cn.acked c a = A4 c a (Rt.smp c.tm (c.time - c.snc)) 0 0 := by
  unfold Cn.acked A4 A3 A2 A1
  simp only [if_pos h]
theorem acked_n {c : Cn} {a : Int} (h : ¬ (0 < c.beh ∧ c.beh ≤ a)) : Cn.acked c a = A4 c a c.tm c.beh c.snc := by
  unfold Cn.acked A4 A3 A2 A1
  simp only [if_neg h]
/-- What the walk of acknowledged needs. -/
structure AF (b : Nat) (c : Cn) (a : Int) (P : Pt) (w : World) : Prop where
  ack : Calls Try.prog 86 #[ptr P.po, .int .i64 a] w fun e w' => e = .returned (.int .i64 (Oq.akN c.o a)) ∧ ∃ v', CT b (A1 c a) { P with ov := v' } w' ∧ Up b P { P with ov := v' } w w'
  smp : ∀ w' v q, q = c.time - c.snc → CT b (A1 c a) { P with ov := v } w' → Calls Try.prog 87 #[ptr P.pt, .int .i64 q] w' fun e w'' => e = .returned (.int .i64 0) ∧ CT b (A2 c a (Rt.smp c.tm (c.time - c.snc)) c.beh c.snc) { P with ov := v } w'' ∧ Up b { P with ov := v } { P with ov := v } w' w''
  win : ∀ w' v t x y, CT b (A2 c a t x y) { P with ov := v } w' → Calls Try.prog 88 #[ptr P.pw, .int .i64 (Oq.akN c.o a)] w' fun e w'' => e = .returned (.tuple #[]) ∧ CT b (A3 c a t x y) { P with ov := v } w'' ∧ Up b { P with ov := v } { P with ov := v } w' w''
  nil : ∀ w' v, CT b (A1 c a) v w' → CT b (A2 c a c.tm c.beh c.snc) v w'
  zer : ∀ w' v, CT b (A2 c a (Rt.smp c.tm (c.time - c.snc)) c.beh c.snc) v w' → CT b (A2 c a (Rt.smp c.tm (c.time - c.snc)) 0 0) v ((w'.setCell ⟨b, 22, none⟩ (.int .i64 0)).setCell ⟨b, 23, none⟩ (.int .i64 0))
  fin : ∀ w' v t x y, CT b (A3 c a t x y) v w' → CT b (A4 c a t x y) v (((w'.setCell ⟨b, 20, none⟩ (.int .i64 0)).setCell ⟨b, 19, none⟩ (.int .i64 c.time)).setCell ⟨b, 24, none⟩ (.int .i64 0))
theorem AF.mk' (h : CT b c P w) (ok : COk k c) (hk : Few k) (a : Int) (ha : a ≤ 9223372036854775807) : AF b c a P w := by
  obtain ⟨b1, b2, b3, b4, b5⟩ := ok.ob hk
  obtain ⟨n0, n1⟩ := akN_bd (o := c.o) a b1 (by omega)
  have t1 := ok.ti
  have s1 := ok.sn
  refine ⟨?_, fun w' v q hq h' => ?_, fun w' v t x y h' => ?_, fun w' v h' => h', fun w' v h' => (h'.s22 0).s23 0, fun w' v t x y h' => ((h'.s20 0).s19 c.time).s24 0⟩
  · exact (Oq.q_ack a h.out ok.o (by have := ok.oA' hk; omega) ha).mono fun e w' ⟨h1, ⟨v', h2, h3⟩, h4⟩ => ⟨h1, v', h.putO h2 h4 (ak_sh _ _), h.upO h4 h3⟩
  · subst hq
    exact (Rt.sample_ok P.pt c.tm (c.time - c.snc) w' h'.tim ok.tm ⟨by omega, by omega⟩).mono fun e w'' ⟨h1, h2, h3⟩ => ⟨h1, h'.putT h2 h3, up1 h3 (by simp [fp])⟩
  · exact (Cw.ack_any P.pw c.cw (Oq.akN c.o a) w' h'.win ok.cw (by omega) (by omega)).mono fun e w'' ⟨h1, h2, h3⟩ => ⟨h1, h'.putW h2 h3, up1 h3 (by simp [fp])⟩
set_option maxHeartbeats 1000000 in
theorem acked_any (h : CT b c P w) (ok : COk k c) (hk : Few k) (a : Int) (ha : a ≤ 9223372036854775807) :
    Calls Try.prog 75 #[ptr b, .int .i64 a] w fun e w' => e = .returned (.tuple #[]) ∧ ∃ P', CT b (c.acked a) P' w' ∧ Up b P P' w w' := by
  have F := Lib.hid (AF.mk' h ok hk a ha)
  have c10 := h.c10
  have t0 := ok.ti.1
  have t1 := ok.ti.2
  have s0 := ok.sn.1
  have s1 := ok.sn.2
  have HWr : Hid (IntKind.i64.wrap (c.time - c.snc) = c.time - c.snc) := by show _ = _; rw [IntKind.wrap_i64]; omega
  have HX : Hid (∀ v W, CT b (A1 c a) { P with ov := v } W → W.cell? ⟨b, 22, none⟩ = some (.int .i64 c.beh) ∧ W.cell? ⟨b, 23, none⟩ = some (.int .i64 c.snc) ∧ W.cell? ⟨b, 17, none⟩ = some (.int .i64 c.time) ∧ W.cell? ⟨b, 16, none⟩ = some (ptr P.pt)) := fun v W h' => ⟨h'.c22, h'.c23, h'.c17, h'.c16⟩
  have HY : Hid (∀ v t x y W, CT b (A2 c a t x y) { P with ov := v } W → W.cell? ⟨b, 15, none⟩ = some (ptr P.pw)) := fun v t x y W h' => h'.c15
  have HZ : Hid (∀ v t x y W, CT b (A3 c a t x y) { P with ov := v } W → (W.cell? ⟨b, 17, none⟩ = some (.int .i64 c.time) ∧ W.cell? ⟨b, 19, none⟩ = some (.int .i64 c.beg) ∧ W.cell? ⟨b, 20, none⟩ = some (.int .i64 c.gone) ∧ W.cell? ⟨b, 24, none⟩ = some (.int .i64 c.same)) ∧ W.frozen? ⟨b, 19, none⟩ = false ∧ W.frozen? ⟨b, 20, none⟩ = false ∧ W.frozen? ⟨b, 24, none⟩ = false) := fun v t x y W h' => ⟨⟨h'.c17, h'.c19, h'.c20, h'.c24⟩, h'.free _, h'.free _, h'.free _⟩
  have HA1 : Hid (0 < c.beh ∧ c.beh ≤ a → Cn.acked c a = A4 c a (Rt.smp c.tm (c.time - c.snc)) 0 0) := acked_y
  have HA2 : Hid (¬ (0 < c.beh ∧ c.beh ≤ a) → Cn.acked c a = A4 c a c.tm c.beh c.snc) := acked_n
  clear h ok hk ha
  generalize Oq.akN c.o a = N at *
  by_cases h1 : 0 < c.beh
  · have d1 : decide (0 < c.beh) = true := decide_eq_true h1
    by_cases h2 : c.beh ≤ a
    · have d2 : decide (c.beh ≤ a) = true := decide_eq_true h2
      have HE := Lib.hid (HA1.out ⟨h1, h2⟩)
      clear HA1 HA2
      go_enter Try.func75, Try.ntmps75
      go_wp2_with fail
      refine F.out.ack.mono ?_; rintro e w1 ⟨rfl, v1, T1, U1⟩
      have HT1 := Lib.hid T1.drew
      have HU1 := Lib.hid (U1.trans (Up.below (Below.refl _ _).drew))
      obtain ⟨x22, x23, x17, x16⟩ := HX.out _ _ T1
      have y23 : w1.drew.cell? ⟨b, 23, none⟩ = some (.int .i64 c.snc) := x23
      have y17 : w1.drew.cell? ⟨b, 17, none⟩ = some (.int .i64 c.time) := x17
      have y16 : w1.drew.cell? ⟨b, 16, none⟩ = some (ptr P.pt) := x16
      clear T1 U1 c10
      go_wp2_with fail
      go_cut [] from 26 to 40 (fun W => CT b (A2 c a (Rt.smp c.tm (c.time - c.snc)) c.beh c.snc) { P with ov := v1 } W ∧ Up b P { P with ov := v1 } w W)
      case first =>
        go_region_with (go_at_call 87; refine (F.out.smp _ _ _ HWr.out HT1.out).mono ?_; rintro e w2 ⟨rfl, T2, U2⟩; have HT2 := Lib.hid T2; have HU2 := Lib.hid (HU1.out.trans U2); clear T2 U2)
        all_goals
          try go_wp2_with fail
          go_meet
          exact ⟨HT2.out, HU2.out⟩
      obtain ⟨T2, U2⟩ := hcut
      have HT2 := Lib.hid T2
      have HU2 := Lib.hid U2
      have z22 := T2.c22
      have z23 := T2.c23
      have g22 := T2.free 22
      have g23 := T2.free 23
      have z15 := HY.out _ _ _ _ _ (F.out.zer _ _ T2)
      clear T2 U2
      have HT3 := Lib.hid (F.out.zer _ _ HT2.out)
      have HU3 := Lib.hid ((HU2.out.set 22 (.int .i64 0)).set 23 (.int .i64 0))
      clear x22 x23 x17 x16 y23 y17 y16 HT1 HU1 HT2 HU2
      go_wp2_with fail
      refine (F.out.win _ _ _ _ _ HT3.out).mono ?_; rintro e w4 ⟨rfl, T4, U4⟩
      obtain ⟨⟨x17, x19, x20, x24⟩, f19, f20, f24⟩ := HZ.out _ _ _ _ _ T4
      have HT5 := Lib.hid (F.out.fin _ _ _ _ _ T4)
      have HU5 := Lib.hid ((((HU3.out.trans U4).set 20 (.int .i64 0)).set 19 (.int .i64 c.time)).set 24 (.int .i64 0))
      clear T4 U4 z22 z23 g22 g23 z15 HT3 HU3
      go_wp2_with fail
      refine bodyPost_end (results_none rfl _ _ _) rfl ?_
      exact ⟨rfl, _, by rw [HE.out]; exact HT5.out, HU5.out⟩
    · have d2 : decide (c.beh ≤ a) = false := decide_eq_false h2
      have HE := Lib.hid (HA2.out (fun h => h2 h.2))
      clear HA1 HA2
      go_enter Try.func75, Try.ntmps75
      go_wp2_with fail
      refine F.out.ack.mono ?_; rintro e w1 ⟨rfl, v1, T1, U1⟩
      have HT1 := Lib.hid (F.out.nil _ _ T1)
      have HU1 := Lib.hid U1
      obtain ⟨x22, x23, x17, x16⟩ := HX.out _ _ T1
      have z15 := HY.out _ _ _ _ _ HT1.out
      clear T1 U1 c10
      go_wp2_with fail
      refine (F.out.win _ _ _ _ _ HT1.out).mono ?_; rintro e w4 ⟨rfl, T4, U4⟩
      have HT4 := Lib.hid T4
      have HU4 := Lib.hid (HU1.out.trans U4)
      clear x22 x23 x17 x16
      obtain ⟨⟨x17, x19, x20, x24⟩, f19, f20, f24⟩ := HZ.out _ _ _ _ _ T4
      have HT5 := Lib.hid (F.out.fin _ _ _ _ _ T4)
      have HU5 := Lib.hid (((HU4.out.set 20 (.int .i64 0)).set 19 (.int .i64 c.time)).set 24 (.int .i64 0))
      clear T4 U4 HT1 HU1 z15
      go_wp2_with fail
      refine bodyPost_end (results_none rfl _ _ _) rfl ?_
      exact ⟨rfl, _, by rw [HE.out]; exact HT5.out, HU5.out⟩
  · have d1 : decide (0 < c.beh) = false := decide_eq_false h1
    have HE := Lib.hid (HA2.out (fun h => h1 h.1))
    clear HA1 HA2
    go_enter Try.func75, Try.ntmps75
    go_wp2_with fail
    refine F.out.ack.mono ?_; rintro e w1 ⟨rfl, v1, T1, U1⟩
    have HT1 := Lib.hid (F.out.nil _ _ T1)
    have HU1 := Lib.hid U1
    obtain ⟨x22, x23, x17, x16⟩ := HX.out _ _ T1
    have z15 := HY.out _ _ _ _ _ HT1.out
    clear T1 U1 c10
    go_wp2_with fail
    refine (F.out.win _ _ _ _ _ HT1.out).mono ?_; rintro e w4 ⟨rfl, T4, U4⟩
    have HT4 := Lib.hid T4
    have HU4 := Lib.hid (HU1.out.trans U4)
    clear x22 x23 x17 x16
    obtain ⟨⟨x17, x19, x20, x24⟩, f19, f20, f24⟩ := HZ.out _ _ _ _ _ T4
    have HT5 := Lib.hid (F.out.fin _ _ _ _ _ T4)
    have HU5 := Lib.hid (((HU4.out.set 20 (.int .i64 0)).set 19 (.int .i64 c.time)).set 24 (.int .i64 0))
    clear T4 U4 HT1 HU1 z15
    go_wp2_with fail
    refine bodyPost_end (results_none rfl _ _ _) rfl ?_
    exact ⟨rfl, _, by rw [HE.out]; exact HT5.out, HU5.out⟩
end
end Go.Proofs.Ytnhcjefbiihfjaa
