/-
  Contracts of package conn: what comes while a SYN is waited for.
-/
import Derived.Test.YtnhcjefbiihfjaaCk
import Derived.Deep.CutBlock
namespace Go.Proofs.Ytnhcjefbiihfjaa
open Go.RowKit
open Tc (Sg gchk gv gc)
set_option linter.unusedVariables false
set_option linter.unusedSimpArgs false
section
variable {b k bx : Nat} {c : Cn} {P : Pt} {g : Sg} {w : World}
theorem inSyn_a (h : g.ack = true ∧ (g.ak ≠ Cn.nm c.iss 1 ∨ c.o.s = 0)) : c.inSyn g = if g.rst then c else c.ask g.ak := by unfold Cn.inSyn; rw [if_pos h]
theorem inSyn_b (h : ¬ (g.ack = true ∧ (g.ak ≠ Cn.nm c.iss 1 ∨ c.o.s = 0))) : c.inSyn g = if g.rst then (if g.ack then c.done 11 else c) else if g.syn then (c.meet g).answerSyn g.ack else c := by unfold Cn.inSyn; rw [if_neg h]
set_option maxRecDepth 100000 in
set_option maxHeartbeats 2000000 in
theorem inSyn_any (h : CT b c P w) (ok : COk k c) (hk : Few k) (hs : SOk g) (hg : gchk g = 0) :
    Calls Try.prog 30 #[ptr b, gv g] w fun e w' => e = .returned (.tuple #[]) ∧ ∃ P', CT b (c.inSyn g) P' w' ∧ Up b P P' w w' := by
  have B0 := Lib.hid (Bx.new h g)
  have U0 : Hid (Up b P P w (w.alloc (.cells (gc g) 35))) := Up.below ((Below.refl _ _).alloc (Nat.le_refl _) _)
  have HN : Hid (∀ bx W m, Bx b c P bx g W → Calls Try.prog 33 #[ptr b, .int .i64 1] (W.drewN m) fun e w' => e = .returned (.int .u32 ((Cn.nm c.iss 1 : Nat) : Int)) ∧ w' = W.drewN m) := fun bx W m h' => number_any (h'.drewN m).ct 1
  have HS : Hid (∀ bx W m, Bx b c P bx g W → Calls Try.prog 34 #[ptr P.po] (W.drewN m) fun e w' => e = .returned (.int .i64 c.o.s) ∧ w' = W.drewN m) := fun bx W m h' => Oq.q_sent (h'.drewN m).ct.out
  have HK : Hid (∀ W, CT b c P W → Calls Try.prog 32 #[ptr b, .int .u32 (g.ak : Int)] W fun e w' => e = .returned (.tuple #[]) ∧ ∃ P', CT b (c.ask g.ak) P' w' ∧ Up b P P' W w') := fun W h' => askRst_any h' ok hk g.ak
  have HD : Hid (∀ W, CT b c P W → Calls Try.prog 21 #[ptr b, .int .i64 11] W fun e w' => e = .returned (.tuple #[]) ∧ CT b (c.done 11) P w' ∧ Up b P P W w') := fun W h' => end_any h' 11
  have HM : Hid (∀ W, CT b c P W → Calls Try.prog 55 #[ptr b, gv g] W fun e w' => e = .returned (.tuple #[]) ∧ ∃ P', CT b (c.meet g) P' w' ∧ Up b P P' W w') := fun W h' => meet_any g h' ok hg
  have HY : Hid (∀ (x : Bool) Q W, CT b (c.meet g) Q W → Calls Try.prog 56 #[ptr b, .bool x] W fun e w' => e = .returned (.tuple #[]) ∧ ∃ P', CT b ((c.meet g).answerSyn x) P' w' ∧ Up b Q P' W w') := fun x Q W h' => answerSyn_any h' (ok.meet hs.sq (chk_ok hg).1 (chk_ok hg).2.1.1) hk x
  have HUs := Lib.hid Try.underlying35
  have HQa : Hid (g.ack = true ∧ (g.ak ≠ Cn.nm c.iss 1 ∨ c.o.s = 0) → c.inSyn g = if g.rst then c else c.ask g.ak) := inSyn_a
  have HQb : Hid (¬ (g.ack = true ∧ (g.ak ≠ Cn.nm c.iss 1 ∨ c.o.s = 0)) → c.inSyn g = if g.rst then (if g.ack then c.done 11 else c) else if g.syn then (c.meet g).answerSyn g.ack else c) := inSyn_b
  have g5 := B0.out.gb.c5
  have g7 := B0.out.gb.c7
  have x10 := B0.out.ct.c10
  clear h ok hk hs hg
  cases ha : g.ack with
  | true =>
    rw [ha] at g7
    by_cases hn : g.ak = Cn.nm c.iss 1
    · have dn : ((g.ak : Int) != ((Cn.nm c.iss 1 : Nat) : Int)) = false := by rw [hn]; simp
      by_cases h0 : c.o.s = 0
      · have HA : Hid (c.inSyn g = if g.rst then c else c.ask g.ak) := HQa.out ⟨ha, Or.inr h0⟩
        have d0 : (c.o.s == 0) = true := by simpa using h0
        rw [← hn] at dn HN
        clear HQa HQb hn h0
        go_enter Try.func30, Try.ntmps30
        go_wp2_with fail
        generalize w.alloc (.cells (gc g) 35) = W0 at *
        generalize w.heap.size = bx at *
        go_quiet (first | (go_at_call 33; exact Calls.quiet_of_same (HN.out _ _ _ B0.out)) | (go_at_call 34; exact Calls.quiet_of_same (HS.out _ _ _ B0.out)))
        have B1 := Lib.hid (B0.out.drewN nq)
        have U1 := Lib.hid (U0.out.then (below_drewN W0 nq))
        have h5 := B1.out.gb.c5
        have h6 := B1.out.gb.c6
        have h7 := B1.out.gb.c7
        have h9 := B1.out.gb.c9
        rw [ha] at h7
        clear B0 U0 g5 g7 x10 HN HS
        generalize W0.drewN nq = W1 at *
        cases hr : g.rst with
        | true =>
          have HE : Hid (c.inSyn g = c) := by show _ = _; rw [HA.out, hr]; rfl
          rw [hr] at h9
          clear HA hr HK HD HM HY
          go_wp2_with fail
          refine bodyPost_end (results_none rfl _ _ _) rfl ?_
          exact ⟨rfl, P, by rw [HE.out]; exact B1.out.ct, U1.out⟩
        | false =>
          have HE : Hid (c.inSyn g = c.ask g.ak) := by show _ = _; rw [HA.out, hr]; rfl
          rw [hr] at h9
          clear HA hr HD HM HY
          go_wp2_with fail
          refine (HK.out _ B1.out.ct).mono ?_; rintro e w2 ⟨rfl, P2, T2, U2⟩
          have HT2 := Lib.hid T2
          have HU2 := Lib.hid (U1.out.trans U2)
          clear T2 U2 B1 U1 h5 h6 h7 h9
          go_wp2_with fail
          refine bodyPost_end (results_none rfl _ _ _) rfl ?_
          exact ⟨rfl, P2, by rw [HE.out]; exact HT2.out, HU2.out⟩
      · have HA : Hid (c.inSyn g = if g.rst then (if g.ack then c.done 11 else c) else if g.syn then (c.meet g).answerSyn g.ack else c) := HQb.out (fun h => h.2.elim (fun h => h hn) h0)
        have d0 : (c.o.s == 0) = false := by simpa using h0
        rw [← hn] at dn HN
        clear HQa HQb hn h0
        go_enter Try.func30, Try.ntmps30
        go_wp2_with fail
        generalize w.alloc (.cells (gc g) 35) = W0 at *
        generalize w.heap.size = bx at *
        go_quiet (first | (go_at_call 33; exact Calls.quiet_of_same (HN.out _ _ _ B0.out)) | (go_at_call 34; exact Calls.quiet_of_same (HS.out _ _ _ B0.out)))
        have B1 := Lib.hid (B0.out.drewN nq)
        have U1 := Lib.hid (U0.out.then (below_drewN W0 nq))
        have h5 := B1.out.gb.c5
        have h6 := B1.out.gb.c6
        have h7 := B1.out.gb.c7
        have h9 := B1.out.gb.c9
        rw [ha] at h7
        clear B0 U0 g5 g7 x10 HN HS
        generalize W0.drewN nq = W1 at *
        cases hr : g.rst with
        | true =>
          have HE : Hid (c.inSyn g = c.done 11) := by show _ = _; rw [HA.out, hr, ha]; rfl
          rw [hr] at h9
          clear HA hr HK HM HY ha
          go_wp2_with fail
          refine (HD.out _ B1.out.ct).mono ?_; rintro e w2 ⟨rfl, T2, U2⟩
          have HT2 := Lib.hid T2
          have HU2 := Lib.hid (U1.out.trans U2)
          clear T2 U2 B1 U1 h5 h6 h7 h9
          go_wp2_with fail
          refine bodyPost_end (results_none rfl _ _ _) rfl ?_
          exact ⟨rfl, P, by rw [HE.out]; exact HT2.out, HU2.out⟩
        | false =>
          rw [hr] at h9
          cases hy : g.syn with
          | true =>
            have HE : Hid (c.inSyn g = (c.meet g).answerSyn true) := by show _ = _; rw [HA.out, hr, hy, ha]; rfl
            rw [hy] at h6
            clear HA hr hy HK HD
            go_wp2_with (refine wpList_load_mid rfl 35 _ rfl _ _ rfl (gcl g) _ (GB.range B1.out.gb) HUs.out rfl infoSeg ?_)
            refine (HM.out _ B1.out.ct).mono ?_; rintro e w2 ⟨rfl, P2, T2, U2⟩
            have B2 := Lib.hid (B1.out.up T2 U2)
            have HU2 := Lib.hid (U1.out.trans U2)
            have h7 := B2.out.gb.c7
            rw [ha] at h7
            clear T2 U2 B1 U1 h5 h6 h9 HM ha
            go_wp2_with fail
            refine (HY.out _ _ _ B2.out.ct).mono ?_; rintro e w3 ⟨rfl, P3, T3, U3⟩
            have HT3 := Lib.hid T3
            have HU3 := Lib.hid (HU2.out.trans U3)
            clear T3 U3 B2 HU2 h7 HY
            go_wp2_with fail
            refine bodyPost_end (results_none rfl _ _ _) rfl ?_
            exact ⟨rfl, P3, by rw [HE.out]; exact HT3.out, HU3.out⟩
          | false =>
            have HE : Hid (c.inSyn g = c) := by show _ = _; rw [HA.out, hr, hy]; rfl
            rw [hy] at h6
            clear HA hr hy HK HD HM HY ha
            go_wp2_with fail
            refine bodyPost_end (results_none rfl _ _ _) rfl ?_
            exact ⟨rfl, P, by rw [HE.out]; exact B1.out.ct, U1.out⟩
    · have HA : Hid (c.inSyn g = if g.rst then c else c.ask g.ak) := HQa.out ⟨ha, Or.inl hn⟩
      have dn : ((g.ak : Int) != ((Cn.nm c.iss 1 : Nat) : Int)) = true := by rw [bne_iff_ne]; omega
      clear HQa HQb hn
      go_enter Try.func30, Try.ntmps30
      go_wp2_with fail
      generalize w.alloc (.cells (gc g) 35) = W0 at *
      generalize w.heap.size = bx at *
      go_quiet (first | (go_at_call 33; exact Calls.quiet_of_same (HN.out _ _ _ B0.out)) | (go_at_call 34; exact Calls.quiet_of_same (HS.out _ _ _ B0.out)))
      have B1 := Lib.hid (B0.out.drewN nq)
      have U1 := Lib.hid (U0.out.then (below_drewN W0 nq))
      have h5 := B1.out.gb.c5
      have h6 := B1.out.gb.c6
      have h7 := B1.out.gb.c7
      have h9 := B1.out.gb.c9
      rw [ha] at h7
      clear B0 U0 g5 g7 x10 HN HS
      generalize W0.drewN nq = W1 at *
      cases hr : g.rst with
      | true =>
        have HE : Hid (c.inSyn g = c) := by show _ = _; rw [HA.out, hr]; rfl
        rw [hr] at h9
        clear HA hr HK HD HM HY
        go_wp2_with fail
        refine bodyPost_end (results_none rfl _ _ _) rfl ?_
        exact ⟨rfl, P, by rw [HE.out]; exact B1.out.ct, U1.out⟩
      | false =>
        have HE : Hid (c.inSyn g = c.ask g.ak) := by show _ = _; rw [HA.out, hr]; rfl
        rw [hr] at h9
        clear HA hr HD HM HY
        go_wp2_with fail
        refine (HK.out _ B1.out.ct).mono ?_; rintro e w2 ⟨rfl, P2, T2, U2⟩
        have HT2 := Lib.hid T2
        have HU2 := Lib.hid (U1.out.trans U2)
        clear T2 U2 B1 U1 h5 h6 h7 h9
        go_wp2_with fail
        refine bodyPost_end (results_none rfl _ _ _) rfl ?_
        exact ⟨rfl, P2, by rw [HE.out]; exact HT2.out, HU2.out⟩
  | false =>
    rw [ha] at g7
    have HA : Hid (c.inSyn g = if g.rst then (if g.ack then c.done 11 else c) else if g.syn then (c.meet g).answerSyn g.ack else c) := HQb.out (fun h => by rw [ha] at h; cases h.1)
    clear HQa HQb
    go_enter Try.func30, Try.ntmps30
    go_wp2_with fail
    generalize w.alloc (.cells (gc g) 35) = W0 at *
    generalize w.heap.size = bx at *
    go_quiet (first | (go_at_call 33; exact Calls.quiet_of_same (HN.out _ _ _ B0.out)) | (go_at_call 34; exact Calls.quiet_of_same (HS.out _ _ _ B0.out)))
    have B1 := Lib.hid (B0.out.drewN nq)
    have U1 := Lib.hid (U0.out.then (below_drewN W0 nq))
    have h5 := B1.out.gb.c5
    have h6 := B1.out.gb.c6
    have h7 := B1.out.gb.c7
    have h9 := B1.out.gb.c9
    rw [ha] at h7
    clear B0 U0 g5 g7 x10 HN HS
    generalize W0.drewN nq = W1 at *
    cases hr : g.rst with
    | true =>
      have HE : Hid (c.inSyn g = c) := by show _ = _; rw [HA.out, hr, ha]; rfl
      rw [hr] at h9
      clear HA hr HK HM HY ha HD
      go_wp2_with fail
      refine bodyPost_end (results_none rfl _ _ _) rfl ?_
      exact ⟨rfl, P, by rw [HE.out]; exact B1.out.ct, U1.out⟩
    | false =>
      rw [hr] at h9
      cases hy : g.syn with
      | true =>
        have HE : Hid (c.inSyn g = (c.meet g).answerSyn false) := by show _ = _; rw [HA.out, hr, hy, ha]; rfl
        rw [hy] at h6
        clear HA hr hy HK HD
        go_wp2_with (refine wpList_load_mid rfl 35 _ rfl _ _ rfl (gcl g) _ (GB.range B1.out.gb) HUs.out rfl infoSeg ?_)
        refine (HM.out _ B1.out.ct).mono ?_; rintro e w2 ⟨rfl, P2, T2, U2⟩
        have B2 := Lib.hid (B1.out.up T2 U2)
        have HU2 := Lib.hid (U1.out.trans U2)
        have h7 := B2.out.gb.c7
        rw [ha] at h7
        clear T2 U2 B1 U1 h5 h6 h9 HM ha
        go_wp2_with fail
        refine (HY.out _ _ _ B2.out.ct).mono ?_; rintro e w3 ⟨rfl, P3, T3, U3⟩
        have HT3 := Lib.hid T3
        have HU3 := Lib.hid (HU2.out.trans U3)
        clear T3 U3 B2 HU2 h7 HY
        go_wp2_with fail
        refine bodyPost_end (results_none rfl _ _ _) rfl ?_
        exact ⟨rfl, P3, by rw [HE.out]; exact HT3.out, HU3.out⟩
      | false =>
        have HE : Hid (c.inSyn g = c) := by show _ = _; rw [HA.out, hr, hy]; rfl
        rw [hy] at h6
        clear HA hr hy HK HD HM HY ha
        go_wp2_with fail
        refine bodyPost_end (results_none rfl _ _ _) rfl ?_
        exact ⟨rfl, P, by rw [HE.out]; exact B1.out.ct, U1.out⟩
end
end Go.Proofs.Ytnhcjefbiihfjaa
