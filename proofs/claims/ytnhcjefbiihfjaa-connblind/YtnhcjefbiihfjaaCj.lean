/-
  Contracts of package conn: what is followed.
-/
import Derived.Test.YtnhcjefbiihfjaaCi
import Derived.Deep.CutBlock
namespace Go.Proofs.Ytnhcjefbiihfjaa
open Go.RowKit
open Tc (Sg gchk gv gc)
set_option linter.unusedVariables false
set_option linter.unusedSimpArgs false
section
variable {b k bx : Nat} {c : Cn} {P : Pt} {g : Sg} {w : World}
theorem follow_no (h : (c.mayAck g.ak (c.ackAt g)).1 = false) : c.follow g = (c.mayAck g.ak (c.ackAt g)).2 := by unfold Cn.follow; dsimp only; rw [h]; rfl
theorem follow_0 (h : (c.mayAck g.ak (c.ackAt g)).1 = true) (h0 : (((c.mayAck g.ak (c.ackAt g)).2.takeAck g (c.ackAt g) (c.plcAt g)).ripen).st = 0) : c.follow g = ((c.mayAck g.ak (c.ackAt g)).2.takeAck g (c.ackAt g) (c.plcAt g)).ripen := by unfold Cn.follow; dsimp only; rw [if_pos h, if_pos h0]
theorem follow_1 (h : (c.mayAck g.ak (c.ackAt g)).1 = true) (h0 : ¬ (((c.mayAck g.ak (c.ackAt g)).2.takeAck g (c.ackAt g) (c.plcAt g)).ripen).st = 0) : c.follow g = (((c.mayAck g.ak (c.ackAt g)).2.takeAck g (c.ackAt g) (c.plcAt g)).ripen).takeBody g (c.plcAt g) := by unfold Cn.follow; dsimp only; rw [if_pos h, if_neg h0]
set_option maxRecDepth 100000 in
set_option maxHeartbeats 2000000 in
theorem follow_any (h : CT b c P w) (ok : COk k c) (hk : Few (k + 2)) (hs : SOk g) (hg : gchk g = 0) (hi : c.i ≠ none) :
    Calls Try.prog 63 #[ptr b, gv g] w fun e w' => e = .returned (.tuple #[]) ∧ ∃ P', CT b (c.follow g) P' w' ∧ Up b P P' w w' := by
  obtain ⟨t, ht⟩ : ∃ t, c.i = some t := by
    rcases hc : c.i with _ | t
    · exact absurd hc hi
    · exact ⟨t, rfl⟩
  have hk0 : Few k := few hk (by omega)
  have hk1 : Few (k + 1) := few hk (by omega)
  obtain ⟨o1, o2, o3, o4, o5⟩ := ok.ob hk0
  have B0 := Lib.hid (Bx.new h g)
  have U0 : Hid (Up b P P w (w.alloc (.cells (gc g) 35))) := Up.below ((Below.refl _ _).alloc (Nat.le_refl _) _)
  obtain ⟨a, hA⟩ : ∃ a, a = c.ackAt g := ⟨_, rfl⟩
  obtain ⟨p, hp⟩ : ∃ p, p = c.plcAt g := ⟨_, rfl⟩
  have ha : -2147483648 ≤ a ∧ a ≤ 1152921506754330623 := by rw [hA]; exact near_bd _ _
  have hpb : -2147483648 ≤ p ∧ p ≤ 1152921506754330623 := by rw [hp]; exact near_bd _ _
  have HU : Hid (∀ bx W m, Bx b c P bx g W → Calls Try.prog 66 #[ptr P.po] (W.drewN m) fun e w' => e = .returned (.int .i64 c.o.u) ∧ w' = W.drewN m) := fun bx W m h' => Oq.q_una (h'.drewN m).ct.out
  have HX : Hid (∀ bx W m, Bx b c P bx g W → Calls Try.prog 76 #[ptr P.pi] (W.drewN m) fun e w' => e = .returned (.int .i64 c.nxtI) ∧ w' = W.drewN m) := fun bx W m h' => by
    have := Iq.next_any ((h'.drewN m).ct.inn t ht)
    rwa [show c.nxtI = (Iq.nxt t : Int) from by unfold Cn.nxtI; rw [ht]]
  have hnx : 0 ≤ c.nxtI ∧ c.nxtI ≤ 9223372036854775807 := by
    have := (ok.ib hk0 ht).2.1; have := (ok.ib hk0 ht).2.2.2.1; have := (ok.ib hk0 ht).2.2.2.2.2.2
    rw [show c.nxtI = (Iq.nxt t : Int) from by unfold Cn.nxtI; rw [ht]]
    omega
  have HN1 : Hid (∀ W, Calls Try.prog 80 #[.int .u32 (((g.ak : Int) - (c.iss : Int)) % 4294967296), .int .i64 c.o.u] W fun e w' => e = .returned (.int .i64 a) ∧ w' = W) := fun W => by rw [hA]; exact Sq.near_any _ _ W (by omega)
  have HN2 : Hid (∀ W, Calls Try.prog 80 #[.int .u32 (((g.sq : Int) - (c.irs : Int)) % 4294967296), .int .i64 c.nxtI] W fun e w' => e = .returned (.int .i64 p) ∧ w' = W) := fun W => by rw [hp]; exact Sq.near_any _ _ W hnx.2
  have HN1' : Hid (∀ W, Calls Try.prog 80 #[.int .u32 (IntKind.u32.wrap ((g.ak : Int) - (c.iss : Int))), .int .i64 c.o.u] W fun e w' => e = .returned (.int .i64 a) ∧ w' = W) := fun W => by
    rw [show IntKind.u32.wrap ((g.ak : Int) - (c.iss : Int)) = ((g.ak : Int) - (c.iss : Int)) % 4294967296 from IntKind.wrap_u32 _]; exact HN1.out W
  have HN2' : Hid (∀ W, Calls Try.prog 80 #[.int .u32 (IntKind.u32.wrap ((g.sq : Int) - (c.irs : Int))), .int .i64 c.nxtI] W fun e w' => e = .returned (.int .i64 p) ∧ w' = W) := fun W => by
    rw [show IntKind.u32.wrap ((g.sq : Int) - (c.irs : Int)) = ((g.sq : Int) - (c.irs : Int)) % 4294967296 from IntKind.wrap_u32 _]; exact HN2.out W
  obtain ⟨c1, hc1⟩ : ∃ c1, c1 = (c.mayAck g.ak a).2 := ⟨_, rfl⟩
  obtain ⟨q, hq⟩ : ∃ q, q = (c.mayAck g.ak a).1 := ⟨_, rfl⟩
  obtain ⟨c2, hc2⟩ : ∃ c2, c2 = c1.takeAck g a p := ⟨_, rfl⟩
  obtain ⟨c3, hc3⟩ : ∃ c3, c3 = c2.ripen := ⟨_, rfl⟩
  have i1 : c1.i ≠ none := by rw [hc1, mayAck_i]; exact hi
  have i2 : c2.i ≠ none := by rw [hc2, takeAck_i]; exact i1
  have i3 : c3.i ≠ none := by rw [hc3, ripen_i]; exact i2
  have k1 : COk (k + 1) c1 := by rw [hc1]; exact ok.mayAck hs.ak a hi
  have k2 : COk (k + 2) c2 := by rw [hc2]; exact k1.takeAck hg a p hpb
  have k3 : COk (k + 2) c3 := by rw [hc3]; exact k2.ripen i2
  have HM : Hid (∀ W, CT b c P W → Calls Try.prog 81 #[ptr b, .int .u32 (g.ak : Int), .int .i64 a] W fun e w' => e = .returned (.bool q) ∧ ∃ P', CT b c1 P' w' ∧ Up b P P' W w') := fun W h' => by rw [hq, hc1]; exact may_any h' ok hk0 g.ak a
  have HT : Hid (∀ Q W, CT b c1 Q W → Calls Try.prog 82 #[ptr b, gv g, .int .i64 a, .int .i64 p] W fun e w' => e = .returned (.tuple #[]) ∧ ∃ P', CT b c2 P' w' ∧ Up b Q P' W w') := fun Q W h' => by rw [hc2]; exact takeAck_any h' k1 hk hg a p (by omega)
  have HR : Hid (∀ Q W, CT b c2 Q W → Calls Try.prog 83 #[ptr b] W fun e w' => e = .returned (.tuple #[]) ∧ CT b c3 Q w' ∧ Up b Q Q W w') := fun Q W h' => by rw [hc3]; exact ripen_any h' k2 hk
  have HB : Hid (∀ Q W, CT b c3 Q W → Calls Try.prog 84 #[ptr b, gv g, .int .i64 p] W fun e w' => e = .returned (.tuple #[]) ∧ CT b (c3.takeBody g p) Q w' ∧ Up b Q Q W w') := fun Q W h' => takeBody_any h' k3 hk hg p (by omega) (by omega) i3
  have HFn : Hid (q = false → c.follow g = c1) := fun e => by rw [hc1, hA]; exact follow_no (by rw [← hA, ← hq]; exact e)
  have HF0 : Hid (q = true → c3.st = 0 → c.follow g = c3) := fun e e0 => by
    have h3 : c3 = ((c.mayAck g.ak (c.ackAt g)).2.takeAck g (c.ackAt g) (c.plcAt g)).ripen := by rw [hc3, hc2, hc1, hA, hp]
    rw [h3]; exact follow_0 (by rw [← hA, ← hq]; exact e) (by rw [← h3]; exact e0)
  have HF1 : Hid (q = true → ¬ c3.st = 0 → c.follow g = c3.takeBody g p) := fun e e0 => by
    have h3 : c3 = ((c.mayAck g.ak (c.ackAt g)).2.takeAck g (c.ackAt g) (c.plcAt g)).ripen := by rw [hc3, hc2, hc1, hA, hp]
    rw [h3, hp]; exact follow_1 (by rw [← hA, ← hq]; exact e) (by rw [← h3]; exact e0)
  have HUs := Lib.hid Try.underlying35
  have HI : Hid (inV c P = ptr P.pi) := by show _ = _; unfold inV; rw [ht]
  have g5 := B0.out.gb.c5
  have x4 := B0.out.ct.c4
  have x10 := B0.out.ct.c10
  clear h ok hk hs hg hi ht hk0 hk1 o1 o2 o3 o4 o5 hA hp ha hpb hnx hc1 hq hc2 hc3 i1 i2 i3 k1 k2 k3 HN1 HN2
  go_enter Try.func63, Try.ntmps63
  go_wp2_with fail
  generalize w.alloc (.cells (gc g) 35) = W0 at *
  generalize w.heap.size = bx at *
  go_quiet (first | (go_at_call 66; exact Calls.quiet_of_same (HU.out _ _ _ B0.out)) | (go_at_call 80; exact Calls.quiet_of_same (HN1'.out _)))
  have B1 := Lib.hid (B0.out.drewN nq)
  have U1 := Lib.hid (U0.out.then (below_drewN W0 nq))
  have g4 := B1.out.gb.c4
  have y5 := B1.out.ct.c5
  have y12 := B1.out.ct.c12
  have g5' := B1.out.gb.c5
  rw [HI.out] at y12
  clear g5 x4 x10 B0 U0 HN1' HU
  generalize W0.drewN nq = W1 at *
  go_wp2_with fail
  go_quiet (first | (go_at_call 76; exact Calls.quiet_of_same (HX.out _ _ _ B1.out)) | (go_at_call 80; exact Calls.quiet_of_same (HN2'.out _)))
  have B2 := Lib.hid (B1.out.drewN nq)
  have U2 := Lib.hid (U1.out.then (below_drewN W1 nq))
  have g5 := B2.out.gb.c5
  clear g4 y5 y12 g5' B1 U1 HN2' HX HI
  generalize W1.drewN nq = W2 at *
  go_wp2_with fail
  refine (HM.out _ B2.out.ct).mono ?_; rintro e w3 ⟨rfl, P3, T3, U3⟩
  have B3 := Lib.hid (B2.out.up T3 U3)
  have HU3 := Lib.hid (U2.out.trans U3)
  clear T3 U3 B2 U2 g5 HM
  cases q with
  | false =>
    have HE := Lib.hid (HFn.out rfl)
    clear HFn HF0 HF1 HT HR HB
    go_wp2_with fail
    refine bodyPost_ret (results_none rfl _ _ _) rfl ?_
    exact ⟨rfl, P3, by rw [HE.out]; exact B3.out.ct, HU3.out⟩
  | true =>
    have HFa : Hid (∀ e : Bool, e = true → c3.st = 0 → c.follow g = c3) := fun e _ e0 => HF0.out rfl e0
    have HFb : Hid (∀ e : Bool, e = true → ¬ c3.st = 0 → c.follow g = c3.takeBody g p) := fun e _ e0 => HF1.out rfl e0
    clear HFn HF0 HF1
    go_wp2_with (refine wpList_load_mid rfl 35 _ rfl _ _ rfl (gcl g) _ (GB.range B3.out.gb) HUs.out rfl infoSeg ?_)
    refine (HT.out _ _ B3.out.ct).mono ?_; rintro e w4 ⟨rfl, P4, T4, U4⟩
    have B4 := Lib.hid (B3.out.up T4 U4)
    have HU4 := Lib.hid (HU3.out.trans U4)
    clear T4 U4 B3 HU3 HT
    go_wp2_with fail
    refine (HR.out _ _ B4.out.ct).mono ?_; rintro e w5 ⟨rfl, T5, U5⟩
    have B5 := Lib.hid (B4.out.up T5 U5)
    have HU5 := Lib.hid (HU4.out.trans U5)
    have c6 := T5.c6
    clear T5 U5 B4 HU4 HR
    have HF0 : Hid (c3.st = 0 → c.follow g = c3) := fun e => HFa.out true rfl e
    have HF1 : Hid (¬ c3.st = 0 → c.follow g = c3.takeBody g p) := fun e => HFb.out true rfl e
    clear HFa HFb
    by_cases h0 : c3.st = 0
    · have HE : Hid (c.follow g = c3) := HF0.out h0
      have d0 : (c3.st != 0) = false := by rw [h0]; rfl
      rw [h0] at c6
      clear HF0 HF1 h0 d0
      go_wp2_with fail
      refine bodyPost_end (results_none rfl _ _ _) rfl ?_
      exact ⟨rfl, P4, by rw [HE.out]; exact B5.out.ct, HU5.out⟩
    · have HE := Lib.hid (HF1.out h0)
      have d0 : (c3.st != 0) = true := by rw [bne_iff_ne]; exact h0
      clear HF0 HF1
      go_wp2_with (refine wpList_load_mid rfl 35 _ rfl _ _ rfl (gcl g) _ (GB.range B5.out.gb) HUs.out rfl infoSeg ?_)
      refine (HB.out _ _ B5.out.ct).mono ?_; rintro e w6 ⟨rfl, T6, U6⟩
      have HT6 := Lib.hid T6
      have HU6 := Lib.hid (HU5.out.trans U6)
      clear T6 U6 B5 HU5 HB c6
      go_wp2_with fail
      refine bodyPost_end (results_none rfl _ _ _) rfl ?_
      exact ⟨rfl, P4, by rw [HE.out]; exact HT6.out, HU6.out⟩
end
end Go.Proofs.Ytnhcjefbiihfjaa
