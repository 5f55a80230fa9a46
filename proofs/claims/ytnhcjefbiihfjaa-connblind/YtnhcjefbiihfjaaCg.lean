/-
  Contracts of package conn: the same once more; FIN acknowledged; what an acknowledgement says.
-/
import Derived.Test.YtnhcjefbiihfjaaCf
namespace Go.Proofs.Ytnhcjefbiihfjaa
open Go.RowKit
open Tc (Sg gchk gv gc)
set_option linter.unusedVariables false
set_option linter.unusedSimpArgs false

/-- Half way through the same once more. -/
def O1 (c : Cn) : Cn := { c with same := c.same + 1 }
def O2 (c : Cn) : Cn := { O1 c with cw := Cw.lost c.cw c.flight }
theorem once_3 {c : Cn} (h : c.same + 1 = 3) : c.onceMore = { O2 c with again := true, beh := 0, snc := 0 } := by unfold Cn.onceMore O2 O1; rw [if_pos h]
theorem once_n {c : Cn} (h : ¬ c.same + 1 = 3) : c.onceMore = O1 c := by unfold Cn.onceMore O1; rw [if_neg h]
section
variable {b k : Nat} {c : Cn} {P : Pt} {w : World}
theorem few {k m : Nat} (h : Few m) (hk : k ≤ m) : Few k := Nat.le_trans hk h
set_option maxRecDepth 100000 in
set_option maxHeartbeats 1000000 in
theorem once_any (h : CT b c P w) (ok : COk k c) (hk : Few (k + 1)) :
    Calls Try.prog 91 #[ptr b] w fun e w' => e = .returned (.tuple #[]) ∧ CT b c.onceMore P w' ∧ Up b P P w w' := by
  have c24 := h.c24
  have f24 := h.free 24
  have s0 := ok.sa.1
  have s1 := ok.sa.2
  have hk' : k + 1 ≤ 549755813888 := hk
  obtain ⟨g0, g1⟩ := ok.fl (few hk (Nat.le_succ k))
  have TX : Hid (∀ x, x = c.same + 1 → CT b (O1 c) P (w.setCell ⟨b, 24, none⟩ (.int .i64 x)) ∧ Up b P P w (w.setCell ⟨b, 24, none⟩ (.int .i64 x))) := fun x hx => by subst hx; exact ⟨h.s24 _, (Up.refl _ _ _).set _ _⟩
  have s2 : c.same ≤ 549755813888 := by omega
  have ok1 : COk (k + 1) (O1 c) := { ok.mono (Nat.le_succ k) with sa := by show 0 ≤ c.same + 1 ∧ c.same + 1 ≤ ((k + 1 : Nat) : Int); omega }
  have HF : Hid (∀ W, CT b (O1 c) P W → Calls Try.prog 42 #[ptr b] W fun e w' => e = .returned (.int .i64 c.flight) ∧ CT b (O1 c) P w' ∧ Up b P P W w') := fun W h' => by
    refine (flight_any h' ok1 hk).mono ?_
    rintro e w' ⟨rfl, m, rfl⟩
    exact ⟨rfl, h'.drewN m, Up.below (below_drewN W m)⟩
  have HL : Hid (∀ W, CT b (O1 c) P W → Calls Try.prog 98 #[ptr P.pw, .int .i64 c.flight] W fun e w' => e = .returned (.tuple #[]) ∧ CT b (O2 c) P w' ∧ Up b P P W w') := fun W h' =>
    (Cw.lost_any P.pw c.cw c.flight W h'.win ok.cw (by omega) (by omega)).mono fun e w' ⟨h1, h2, h3⟩ => ⟨h1, h'.putW h2 h3, up1 h3 (by simp [fp])⟩
  have H3 : Hid (c.same + 1 = 3 → c.onceMore = { O2 c with again := true, beh := 0, snc := 0 }) := once_3
  have HN : Hid (¬ c.same + 1 = 3 → c.onceMore = O1 c) := once_n
  have HE : Hid (∀ W, CT b (O2 c) P W → (W.cell? ⟨b, 26, none⟩ = some (.bool c.again) ∧ W.cell? ⟨b, 22, none⟩ = some (.int .i64 c.beh) ∧ W.cell? ⟨b, 23, none⟩ = some (.int .i64 c.snc)) ∧ (W.frozen? ⟨b, 26, none⟩ = false ∧ W.frozen? ⟨b, 22, none⟩ = false ∧ W.frozen? ⟨b, 23, none⟩ = false) ∧ CT b { O2 c with again := true, beh := 0, snc := 0 } P (((W.setCell ⟨b, 26, none⟩ (.bool true)).setCell ⟨b, 22, none⟩ (.int .i64 0)).setCell ⟨b, 23, none⟩ (.int .i64 0))) := fun W h' => ⟨⟨h'.c26, h'.c22, h'.c23⟩, ⟨h'.free _, h'.free _, h'.free _⟩, ((h'.s26 true).s22 0).s23 0⟩
  clear h ok hk ok1 hk'
  generalize c.flight = F at *
  by_cases h3 : c.same + 1 = 3
  · have HE3 := Lib.hid (H3.out h3)
    have e2 : c.same = 2 := by omega
    have T1 := Lib.hid (TX.out 3 (by omega)).1
    have U1 := Lib.hid (TX.out 3 (by omega)).2
    rw [e2] at c24
    clear H3 HN h3 e2 s0 s1 s2 TX
    go_enter Try.func91, Try.ntmps91
    go_wp2_with fail
    generalize w.setCell ⟨b, 24, none⟩ (.int .i64 3) = W1 at *
    have U1d := Lib.hid (U1.out.then (Below.refl _ _).drew)
    go_cut [] from 14 to 20 (fun W => CT b (O2 c) P W ∧ Up b P P w W)
    case first =>
      refine wp_region_held_drew (S := (fun W' => W'.cell? ⟨b, 15, none⟩ = some (ptr P.pw))) (by kernel_rfl) T1.out.drew.c15 (fun hHeld => ?_)
      refine takeH (i := 0) (d := some 14) (v := ?_) rfl rfl (by kernel_rfl) (by kernel_rfl) (by kernel_rfl) (fun _ _ _ h => h) (Or.inl ⟨by rfl, ?_⟩) hHeld ?_
      rotate_left
      · intro w' hSw; (try dsimp only at hSw); go_simp; try with_reducible rfl
      simp only [Act.put, List.setIfInBounds_toArray, List.set_cons_zero, List.set_cons_succ]
      refine takeH (i := 1) (d := some 15) (v := ?_) rfl rfl (by kernel_rfl) (by kernel_rfl) (by kernel_rfl) (fun _ _ _ h => h) (Or.inl ⟨by rfl, ?_⟩) hHeld ?_
      rotate_left
      · intro w' hSw; (try dsimp only at hSw); go_simp; try with_reducible rfl
      simp only [Act.put, List.setIfInBounds_toArray, List.set_cons_zero, List.set_cons_succ]
      refine takeH (i := 2) (d := some 16) (v := ?_) rfl rfl (by kernel_rfl) (by kernel_rfl) (by kernel_rfl) (fun _ _ _ h => h) (Or.inl ⟨by rfl, ?_⟩) hHeld ?_
      rotate_left
      · intro w' hSw; (try dsimp only at hSw); go_simp; try with_reducible rfl
      simp only [Act.put, List.setIfInBounds_toArray, List.set_cons_zero, List.set_cons_succ]
      refine takeH (i := 3) (d := some 17) (v := ?_) rfl rfl (by kernel_rfl) (by kernel_rfl) (by kernel_rfl) (fun _ _ _ h => h) (Or.inl ⟨by rfl, ?_⟩) hHeld ?_
      rotate_left
      · intro w' hSw; (try dsimp only at hSw); have q := hSw; clear hSw; go_simp; try with_reducible rfl
      simp only [Act.put, List.setIfInBounds_toArray, List.set_cons_zero, List.set_cons_succ]
      refine takeH (i := 4) (d := some 18) (v := ?_) rfl rfl (by kernel_rfl) (by kernel_rfl) (by kernel_rfl) (fun _ _ _ h => h) (Or.inl ⟨by rfl, ?_⟩) hHeld ?_
      rotate_left
      · intro w' hSw; (try dsimp only at hSw); go_simp; try with_reducible rfl
      simp only [Act.put, List.setIfInBounds_toArray, List.set_cons_zero, List.set_cons_succ]
      refine wpAnyH_ready (rs := [5]) (by kernel_rfl) (by simp) ?_
      refine AllReadyH.cons rfl (fun K hK => ?_) (AllReadyH.nil)
      go_simp
      refine (HF.out _ T1.out.drew).mono ?_; rintro e w2 ⟨rfl, T2, U2⟩
      have HT2 := Lib.hid T2
      have HU2 := Lib.hid (U1d.out.trans U2)
      have x15 := T2.c15
      clear T2 U2
      clear hHeld
      refine hK.out _ _ x15 (fun hHeld => ?_)
      clear hK K
      try simp only [Act.put, List.setIfInBounds_toArray, List.set_cons_zero, List.set_cons_succ]
      refine wpAnyH_ready (rs := [6]) (by kernel_rfl) (by simp) ?_
      refine AllReadyH.cons rfl (fun K hK => ?_) (AllReadyH.nil)
      go_simp
      refine (HL.out _ HT2.out).mono ?_; rintro e w3 ⟨rfl, T3, U3⟩
      have HT3 := Lib.hid T3
      have HU3 := Lib.hid (HU2.out.trans U3)
      have x15 := T3.c15
      clear T3 U3
      clear hHeld
      refine hK.out _ _ x15 (fun hHeld => ?_)
      clear hK K
      try simp only [Act.put, List.setIfInBounds_toArray, List.set_cons_zero, List.set_cons_succ]
      refine wpAnyH_done (by kernel_rfl) ?_ _
      go_wp2_with fail
      go_meet
      exact ⟨HT3.out, HU3.out⟩
    obtain ⟨T4, U4⟩ := hcut
    obtain ⟨⟨x26, x22, x23⟩, ⟨f26, f22, f23⟩, T5⟩ := HE.out _ T4
    have HT5 := Lib.hid T5
    have HU5 := Lib.hid (((U4.set 26 (.bool true)).set 22 (.int .i64 0)).set 23 (.int .i64 0))
    clear T4 U4 T5 HE HF HL T1 U1 U1d
    go_wp2_with fail
    refine bodyPost_end (results_none rfl _ _ _) rfl ?_
    exact ⟨rfl, by rw [HE3.out]; exact HT5.out, HU5.out⟩
  · have HE3 := Lib.hid (HN.out h3)
    have d3 : (c.same + 1 != 3) = true := by rw [bne_iff_ne]; exact h3
    have T1 := Lib.hid (TX.out _ rfl).1
    have U1 := Lib.hid (TX.out _ rfl).2
    clear H3 HN HE HF HL TX s1
    go_enter Try.func91, Try.ntmps91
    go_wp2_with fail
    refine bodyPost_ret (results_none rfl _ _ _) rfl ?_
    exact ⟨rfl, by rw [HE3.out]; exact T1.out, U1.out⟩
theorem ripen_no (h : ¬ (c.o.sh = true ∧ c.o.u = Oq.enI c.o)) : c.ripen = c := by unfold Cn.ripen; rw [if_neg h]
theorem ripen_yes (h : c.o.sh = true ∧ c.o.u = Oq.enI c.o) : c.ripen = if c.st = 4 then { c with st := 5 } else if c.st = 7 then c.wait else if c.st = 8 then c.done 0 else c := by unfold Cn.ripen; rw [if_pos h]
set_option maxHeartbeats 1000000 in
theorem ripen_any (h : CT b c P w) (ok : COk k c) (hk : Few k) :
    Calls Try.prog 83 #[ptr b] w fun e w' => e = .returned (.tuple #[]) ∧ CT b c.ripen P w' ∧ Up b P P w w' := by
  have HU : Hid (∀ m, Calls Try.prog 66 #[ptr P.po] (w.drewN m) fun e w' => e = .returned (.int .i64 c.o.u) ∧ w' = w.drewN m) := fun m => Oq.q_una (h.drewN m).out
  have HE : Hid (∀ m, Calls Try.prog 68 #[ptr P.po] (w.drewN m) fun e w' => e = .returned (.int .i64 (Oq.enI c.o)) ∧ w' = w.drewN m) := fun m => Oq.q_end (h.drewN m).out (by have := ok.oA' hk; omega)
  have HW : Hid (∀ W, CT b c P W → Calls Try.prog 90 #[ptr b] W fun e w' => e = .returned (.tuple #[]) ∧ CT b c.wait P w' ∧ Up b P P W w') := fun W h' => wait_any h' ok
  have HD : Hid (∀ W, CT b c P W → Calls Try.prog 21 #[ptr b, .int .i64 0] W fun e w' => e = .returned (.tuple #[]) ∧ CT b (c.done 0) P w' ∧ Up b P P W w') := fun W h' => end_any h' 0
  have HN : Hid (¬ (c.o.sh = true ∧ c.o.u = Oq.enI c.o) → c.ripen = c) := ripen_no
  have HY : Hid (c.o.sh = true ∧ c.o.u = Oq.enI c.o → c.ripen = if c.st = 4 then { c with st := 5 } else if c.st = 7 then c.wait else if c.st = 8 then c.done 0 else c) := ripen_yes
  have H : Hid (∀ m, CT b c P (w.drewN m) ∧ Up b P P w (w.drewN m)) := fun m => ⟨h.drewN m, Up.below (below_drewN w m)⟩
  have c6 := h.c6
  have c10 := h.c10
  have c11 := h.c11
  have f6 := h.free 6
  have H5 : Hid (∀ m, CT b { c with st := 5 } P ((w.drewN m).setCell ⟨b, 6, none⟩ (.int .i64 5)) ∧ Up b P P w ((w.drewN m).setCell ⟨b, 6, none⟩ (.int .i64 5))) := fun m => ⟨(h.drewN m).s6 5, (Up.below (below_drewN w m)).set _ _⟩
  clear h ok hk
  cases hs : c.o.sh with
  | false =>
    have HR := Lib.hid (HN.out (fun h => by rw [hs] at h; cases h.1))
    rw [hs] at c11
    clear HN HY hs H5 HW HD
    go_enter Try.func83, Try.ntmps83
    go_wp2_with fail
    go_quiet (first | (go_at_call 66; exact Calls.quiet_of_same (HU.out _)) | (go_at_call 68; exact Calls.quiet_of_same (HE.out _)))
    go_wp2_with fail
    refine bodyPost_ret (results_none rfl _ _ _) rfl ?_
    exact ⟨rfl, by rw [HR.out]; exact (H.out _).1, (H.out _).2⟩
  | true =>
    rw [hs] at c11
    by_cases hu : c.o.u = Oq.enI c.o
    · have HR := Lib.hid (HY.out ⟨hs, hu⟩)
      have du : (c.o.u != Oq.enI c.o) = false := by rw [hu]; simp
      rw [hu] at HU du
      clear HN HY hs hu
      generalize Oq.enI c.o = x at *
      by_cases h4 : c.st = 4
      · have HR2 : Hid (c.ripen = { c with st := 5 }) := by show _ = _; rw [HR.out, if_pos h4]
        rw [h4] at c6
        clear HR h4 HW HD
        go_enter Try.func83, Try.ntmps83
        go_wp2_with fail
        go_quiet (first | (go_at_call 66; exact Calls.quiet_of_same (HU.out _)) | (go_at_call 68; exact Calls.quiet_of_same (HE.out _)))
        go_wp2_with fail
        refine bodyPost_end (results_none rfl _ _ _) rfl ?_
        exact ⟨rfl, by rw [HR2.out]; exact (H5.out _).1, (H5.out _).2⟩
      · have d4 : (c.st == 4) = false := by simpa using h4
        by_cases h7 : c.st = 7
        · have HR2 : Hid (c.ripen = c.wait) := by show _ = _; rw [HR.out, if_neg h4, if_pos h7]
          rw [h7] at c6
          clear HR h4 h7 d4 H5 HD
          go_enter Try.func83, Try.ntmps83
          go_wp2_with fail
          go_quiet (first | (go_at_call 66; exact Calls.quiet_of_same (HU.out _)) | (go_at_call 68; exact Calls.quiet_of_same (HE.out _)))
          go_wp2_with fail
          refine (HW.out _ (H.out _).1).mono ?_; rintro e w1 ⟨rfl, T1, U1⟩
          have HT1 := Lib.hid T1
          have HU1 := Lib.hid ((H.out _).2.trans U1)
          clear T1 U1 c6 c10 c11 f6 HU HE
          go_wp2_with fail
          refine bodyPost_end (results_none rfl _ _ _) rfl ?_
          exact ⟨rfl, by rw [HR2.out]; exact HT1.out, HU1.out⟩
        · have d7 : (c.st == 7) = false := by simpa using h7
          by_cases h8 : c.st = 8
          · have HR2 : Hid (c.ripen = c.done 0) := by show _ = _; rw [HR.out, if_neg h4, if_neg h7, if_pos h8]
            rw [h8] at c6
            clear HR h4 h7 d4 d7 h8 H5 HW
            go_enter Try.func83, Try.ntmps83
            go_wp2_with fail
            go_quiet (first | (go_at_call 66; exact Calls.quiet_of_same (HU.out _)) | (go_at_call 68; exact Calls.quiet_of_same (HE.out _)))
            go_wp2_with fail
            refine (HD.out _ (H.out _).1).mono ?_; rintro e w1 ⟨rfl, T1, U1⟩
            have HT1 := Lib.hid T1
            have HU1 := Lib.hid ((H.out _).2.trans U1)
            clear T1 U1 c6 c10 c11 f6 HU HE
            go_wp2_with fail
            refine bodyPost_end (results_none rfl _ _ _) rfl ?_
            exact ⟨rfl, by rw [HR2.out]; exact HT1.out, HU1.out⟩
          · have HR2 : Hid (c.ripen = c) := by show _ = _; rw [HR.out, if_neg h4, if_neg h7, if_neg h8]
            have d8 : (c.st == 8) = false := by simpa using h8
            clear HR h4 h7 h8 H5 HW HD
            go_enter Try.func83, Try.ntmps83
            go_wp2_with fail
            go_quiet (first | (go_at_call 66; exact Calls.quiet_of_same (HU.out _)) | (go_at_call 68; exact Calls.quiet_of_same (HE.out _)))
            go_wp2_with fail
            refine bodyPost_end (results_none rfl _ _ _) rfl ?_
            exact ⟨rfl, by rw [HR2.out]; exact (H.out _).1, (H.out _).2⟩
    · have HR := Lib.hid (HN.out (fun h => hu h.2))
      have du : (c.o.u != Oq.enI c.o) = true := by rw [bne_iff_ne]; exact hu
      clear HN HY hs H5 HW HD hu
      generalize Oq.enI c.o = x at *
      go_enter Try.func83, Try.ntmps83
      go_wp2_with fail
      go_quiet (first | (go_at_call 66; exact Calls.quiet_of_same (HU.out _)) | (go_at_call 68; exact Calls.quiet_of_same (HE.out _)))
      go_wp2_with fail
      refine bodyPost_ret (results_none rfl _ _ _) rfl ?_
      exact ⟨rfl, by rw [HR.out]; exact (H.out _).1, (H.out _).2⟩
end
end Go.Proofs.Ytnhcjefbiihfjaa
