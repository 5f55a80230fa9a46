/-
  Contracts of package conn: the other side's SYN; the same once more; FIN acknowledged.
-/
import Derived.Test.YtnhcjefbiihfjaaCe
namespace Go.Proofs.Ytnhcjefbiihfjaa
open Go.RowKit
open Tc (Sg gchk gv gc)
set_option linter.unusedVariables false
set_option linter.unusedSimpArgs false

/-- A connection, and a segment beside it. -/
structure Bx (b : Nat) (c : Cn) (P : Pt) (bx : Nat) (g : Sg) (W : World) : Prop where
  ct : CT b c P W
  gb : Tc.GB bx g W
  nf : bx ∉ fp b P
section
variable {b k bx : Nat} {c c' : Cn} {P P' : Pt} {g : Sg} {w W W' : World}
theorem Bx.new (h : CT b c P w) (g : Sg) : Bx b c P w.heap.size g (w.alloc (.cells (gc g) 35)) := ⟨h.alloc _, Tc.GB.new w g, fun hm => by have := h.fp_lt _ hm; omega⟩
theorem Bx.up (h : Bx b c P bx g W) (h' : CT b c' P' W') (u : Up b P P' W W') : Bx b c' P' bx g W' :=
  ⟨h', (u.kp.block bx h.gb.lt h.nf).trans h.gb, fun hm => by
    rcases u.fr bx hm with e | e
    · exact h.nf e
    · have := h.gb.lt; omega⟩
theorem Bx.keep (h : Bx b c P bx g W) (hb : Below W.heap.size W W') : Bx b c P bx g W' := h.up (h.ct.keep hb) (Up.below hb)
theorem Bx.drew (h : Bx b c P bx g W) : Bx b c P bx g W.drew := h.keep (Below.refl _ _).drew
theorem Bx.drewN (h : Bx b c P bx g W) (n : Nat) : Bx b c P bx g (W.drewN n) := h.keep (below_drewN W n)
theorem Bx.set (h : Bx b c P bx g W) {i : Nat} {v : Value} (h' : CT b c' P (W.setCell ⟨b, i, none⟩ v)) : Bx b c' P bx g (W.setCell ⟨b, i, none⟩ v) := h.up h' ((Up.refl _ _ _).set _ _)

/-- Half way through a SYN. -/
def M1 (c : Cn) (g : Sg) : Cn := { c with irs := g.sq }
def M2 (c : Cn) (g : Sg) : Cn := { M1 c g with i := some Iq.st0 }
def M3 (c : Cn) (g : Sg) : Cn := { M2 c g with wnd := g.win }
def M4 (c : Cn) (g : Sg) : Cn := { M3 c g with mss := min c.told (Cn.mssOf g) }
theorem meet_M (c : Cn) (g : Sg) : c.meet g = { M4 c g with cw := Cw.wn0 (min c.told (Cn.mssOf g)) } := rfl
set_option maxRecDepth 100000 in
set_option maxHeartbeats 1000000 in
theorem meet_any (g : Sg) (h : CT b c P w) (ok : COk k c) (hg : gchk g = 0) :
    Calls Try.prog 55 #[ptr b, gv g] w fun e w' => e = .returned (.tuple #[]) ∧ ∃ P', CT b (c.meet g) P' w' ∧ Up b P P' w w' := by
  have B0 := Lib.hid (Bx.new h g)
  have g4 := B0.out.gb.c4
  have c5 := B0.out.ct.c5
  have f5 := B0.out.ct.free 5
  have U0 : Hid (Up b P P w (w.alloc (.cells (gc g) 35))) := Up.below ((Below.refl _ _).alloc (Nat.le_refl _) _)
  have B1 : Hid (Bx b (M1 c g) P w.heap.size g ((w.alloc (.cells (gc g) 35)).setCell ⟨b, 5, none⟩ (.int .u32 (g.sq : Int)))) := B0.out.set (B0.out.ct.s5 g.sq)
  have U1 := Lib.hid (U0.out.set 5 (.int .u32 (g.sq : Int)))
  have hm : 8 ≤ min c.told (Cn.mssOf g) ∧ min c.told (Cn.mssOf g) ≤ 1000 := by
    have := mssOf_lo (chk_ok hg).2.1.1
    have := ok.td; omega
  have HN : Hid (∀ W, Calls Try.prog 73 #[] W fun e w' => e = .returned (ptr W.heap.size) ∧ Iq.OT W.heap.size Iq.st0 w' ∧ Below W.heap.size W w') := fun W => Iq.new_any W
  have HS : Hid (∀ W, Calls Try.prog 74 #[gv g] W fun e w' => e = .returned (.int .i64 (Cn.mssOf g)) ∧ Below W.heap.size W w') := fun W => mssOf_any g W
  have HW : Hid (∀ W, Calls Try.prog 37 #[.int .i64 (min c.told (Cn.mssOf g))] W fun e w' => e = .returned (.tuple #[ptr W.heap.size, .int .i64 0]) ∧ Cw.TB W.heap.size (Cw.wn0 (min c.told (Cn.mssOf g))) w' ∧ Below W.heap.size W w') := fun W => Cw.new_ok _ W hm.1 hm.2
  have HMt : Hid (c.meet g = { M4 c g with cw := Cw.wn0 (min c.told (Cn.mssOf g)) }) := rfl
  have HM4 : Hid (∀ Q W, CT b (M3 c g) Q W → CT b (M4 c g) Q (W.setCell ⟨b, 9, none⟩ (.int .i64 (min c.told (Cn.mssOf g))))) := fun Q W h' => h'.s9 _
  have HF : Hid (∀ Q W, CT b (M1 c g) Q W → W.cell? ⟨b, 12, none⟩ = some (inV c Q) ∧ W.frozen? ⟨b, 12, none⟩ = false) := fun Q W h' => ⟨h'.c12, h'.free 12⟩
  have HF2 : Hid (∀ Q W, CT b (M2 c g) Q W → W.cell? ⟨b, 13, none⟩ = some (.int .i64 c.wnd) ∧ W.frozen? ⟨b, 13, none⟩ = false ∧ CT b (M3 c g) Q (W.setCell ⟨b, 13, none⟩ (.int .i64 g.win))) := fun Q W h' => ⟨h'.c13, h'.free 13, h'.s13 _⟩
  have HF3 : Hid (∀ Q W, CT b (M3 c g) Q W → W.cell? ⟨b, 8, none⟩ = some (.int .i64 c.told) ∧ W.cell? ⟨b, 9, none⟩ = some (.int .i64 c.mss) ∧ W.frozen? ⟨b, 9, none⟩ = false) := fun Q W h' => ⟨h'.c8, h'.c9, h'.free 9⟩
  have HF4 : Hid (∀ Q W, CT b (M4 c g) Q W → W.cell? ⟨b, 9, none⟩ = some (.int .i64 (min c.told (Cn.mssOf g)))) := fun Q W h' => h'.c9
  have HF5 : Hid (∀ Q W, CT b (M4 c g) Q W → W.cell? ⟨b, 15, none⟩ = some (ptr Q.pw) ∧ W.frozen? ⟨b, 15, none⟩ = false) := fun Q W h' => ⟨h'.c15, h'.free 15⟩
  clear h ok hg hm U0 B0
  generalize Cn.mssOf g = ms at *
  go_enter Try.func55, Try.ntmps55
  go_wp2_with fail
  generalize (w.alloc (.cells (gc g) 35)).setCell ⟨b, 5, none⟩ (.int .u32 (g.sq : Int)) = W1 at *
  generalize w.heap.size = bx at *
  refine (HN.out W1).mono ?_; rintro e w2 ⟨rfl, ho, hb2⟩
  have B2 := B1.out.keep hb2
  obtain ⟨c12, f12⟩ := HF.out _ _ B2.ct
  have T3 : CT b (M2 c g) { P with pi := W1.heap.size } (w2.setCell ⟨b, 12, none⟩ (ptr W1.heap.size)) := B2.ct.newI ho
  have V3 := B1.out.ct.upI (Nat.le_refl _) (ptr W1.heap.size) hb2 12
  have B3 := B1.out.up T3 V3
  have U3 := U1.out.trans V3
  obtain ⟨c13, f13, T4⟩ := HF2.out _ _ T3
  have g10 := B3.gb.c10
  have B4 := Lib.hid (B3.set T4)
  have U4 := Lib.hid (U3.set 13 (.int .i64 g.win))
  obtain ⟨d8, d9, e9⟩ := HF3.out _ _ B4.out.drew.ct
  have l0 := seg_at B4.out.drew.gb
  clear B1 U1 B2 B3 T3 T4 V3 U3 ho hb2 HN HF HF2 g4 c5 f5
  generalize W1.heap.size = pi' at *
  go_wp2_with fail
  generalize (w2.setCell ⟨b, 12, none⟩ (ptr pi')).setCell ⟨b, 13, none⟩ (.int .i64 g.win) = W4 at *
  go_cut [] from 18 to 27 (fun W => Bx b (M4 c g) { P with pi := pi' } bx g W ∧ Up b P { P with pi := pi' } w W)
  case first =>
    have HQ : Hid (∀ Q W, CT b (M4 c g) Q W → W.cell? ⟨b, 8, none⟩ = some (.int .i64 c.told)) := fun Q W h' => h'.c8
    refine wp_region_held_drew (S := (fun W' => W'.cell? ⟨b, 8, none⟩ = some (.int .i64 c.told) ∧ Tc.GB bx g W')) (by kernel_rfl) ⟨d8, B4.out.drew.gb⟩ (fun hHeld => ?_)
    refine takeH (i := 0) (d := some 18) (v := ?_) rfl rfl (by kernel_rfl) (by kernel_rfl) (by kernel_rfl) (fun _ _ _ h => h) (Or.inl ⟨by rfl, ?_⟩) hHeld ?_
    rotate_left
    · intro w' hSw; (try dsimp only at hSw); go_simp; try with_reducible rfl
    simp only [Act.put, List.setIfInBounds_toArray, List.set_cons_zero, List.set_cons_succ]
    refine takeH (i := 1) (d := some 19) (v := ?_) rfl rfl (by kernel_rfl) (by kernel_rfl) (by kernel_rfl) (fun _ _ _ h => h) (Or.inl ⟨by rfl, ?_⟩) hHeld ?_
    rotate_left
    · intro w' hSw; (try dsimp only at hSw); go_simp; try with_reducible rfl
    simp only [Act.put, List.setIfInBounds_toArray, List.set_cons_zero, List.set_cons_succ]
    refine takeH (i := 2) (d := some 20) (v := ?_) rfl rfl (by kernel_rfl) (by kernel_rfl) (by kernel_rfl) (fun _ _ _ h => h) (Or.inl ⟨by rfl, ?_⟩) hHeld ?_
    rotate_left
    · intro w' hSw; (try dsimp only at hSw); go_simp; try with_reducible rfl
    simp only [Act.put, List.setIfInBounds_toArray, List.set_cons_zero, List.set_cons_succ]
    refine takeH (i := 3) (d := some 21) (v := ?_) rfl rfl (by kernel_rfl) (by kernel_rfl) (by kernel_rfl) (fun _ _ _ h => h) (Or.inl ⟨by rfl, ?_⟩) hHeld ?_
    rotate_left
    · intro w' hSw; (try dsimp only at hSw); go_simp; try with_reducible rfl
    simp only [Act.put, List.setIfInBounds_toArray, List.set_cons_zero, List.set_cons_succ]
    refine takeH (i := 4) (d := some 22) (v := ?_) rfl rfl (by kernel_rfl) (by kernel_rfl) (by kernel_rfl) (fun _ _ _ h => h) (Or.inl ⟨by rfl, ?_⟩) hHeld ?_
    rotate_left
    · intro w' hSw; (try dsimp only at hSw); have q8 := hSw.1; clear hSw; go_simp; try with_reducible rfl
    simp only [Act.put, List.setIfInBounds_toArray, List.set_cons_zero, List.set_cons_succ]
    refine takeH (i := 5) (d := some 23) rfl rfl (by kernel_rfl) (by kernel_rfl) (by kernel_rfl) (fun _ _ _ h => h) (yieldsIf_load_mid (by rfl) _ _ rfl _ _ rfl (gcl g) _ (fun w' hSw => GB.range hSw.2) Try.underlying35 rfl infoSeg) hHeld ?_
    simp only [Act.put, List.setIfInBounds_toArray, List.set_cons_zero, List.set_cons_succ]
    refine wpAnyH_ready (rs := [6]) (by kernel_rfl) (by simp) ?_
    refine AllReadyH.cons rfl (fun K hK => ?_) AllReadyH.nil
    go_simp
    refine (HS.out _).mono ?_; rintro e w5 ⟨rfl, hb5⟩
    have B5 := Lib.hid (B4.out.drew.keep hb5)
    have U5 := Lib.hid ((U4.out.then (Below.refl _ _).drew).then hb5)
    obtain ⟨k8, k9, q9⟩ := HF3.out _ _ B5.out.ct
    have B6 := Lib.hid (B5.out.set (HM4.out _ _ B5.out.ct))
    clear hHeld
    refine hK.out _ _ ⟨k8, B5.out.gb⟩ (fun hHeld => ?_)
    clear hK K
    try simp only [Act.put, List.setIfInBounds_toArray, List.set_cons_zero, List.set_cons_succ]
    refine takeH (i := 7) (d := some 25) (v := ?_) rfl rfl (by kernel_rfl) (by kernel_rfl) (by kernel_rfl) (fun _ _ _ h => h) (Or.inl ⟨by rfl, ?_⟩) hHeld ?_
    rotate_left
    · intro w' hSw; (try dsimp only at hSw); go_simp; try with_reducible rfl
    simp only [Act.put, List.setIfInBounds_toArray, List.set_cons_zero, List.set_cons_succ]
    refine takeH (i := 8) (d := some 26) (v := ?_) rfl rfl (by kernel_rfl) (by kernel_rfl) (by kernel_rfl) (fun _ _ _ h => h) (Or.inl ⟨by rfl, ?_⟩) hHeld ?_
    rotate_left
    · intro w' hSw; (try dsimp only at hSw); go_simp; try with_reducible rfl
    simp only [Act.put, List.setIfInBounds_toArray, List.set_cons_zero, List.set_cons_succ]
    refine takeH (i := 9) (d := some 27) (v := ?_) rfl rfl (by kernel_rfl) (by kernel_rfl) (by kernel_rfl) (fun _ _ _ h => h) (Or.inl ⟨by rfl, ?_⟩) hHeld ?_
    rotate_left
    · intro w' hSw; (try dsimp only at hSw); go_simp; try with_reducible rfl
    simp only [Act.put, List.setIfInBounds_toArray, List.set_cons_zero, List.set_cons_succ]
    refine wpAnyH_ready (rs := [10]) (by kernel_rfl) (by simp) ?_
    refine AllReadyH.cons rfl (fun K hK => ?_) AllReadyH.nil
    go_simp
    clear hHeld
    refine hK.out _ _ ⟨HQ.out _ _ B6.out.ct, B6.out.gb⟩ (fun hHeld => ?_)
    clear hK K
    try simp only [Act.put, List.setIfInBounds_toArray, List.set_cons_zero, List.set_cons_succ]
    refine wpAnyH_done (by kernel_rfl) ?_ _
    go_wp2_with fail
    go_meet
    exact ⟨B6.out, U5.out.set _ _⟩
  obtain ⟨B6, U6⟩ := hcut
  have HB6 := Lib.hid B6
  have HU6 := Lib.hid U6
  have c9 := HF4.out _ _ B6.ct
  clear B6 U6 B4 U4 d8 d9 e9 l0 HF3 HF4 HS
  go_wp2_with fail
  refine (HW.out _).mono ?_; rintro e w7 ⟨rfl, ht7, hb7⟩
  obtain ⟨c15, f15⟩ := HF5.out _ _ (HB6.out.keep hb7).ct
  have T8 : Hid (CT b (c.meet g) { P with pi := pi', pw := wc.heap.size } (w7.setCell ⟨b, 15, none⟩ (ptr wc.heap.size))) := by show CT _ _ _ _; rw [HMt.out]; exact (HB6.out.keep hb7).ct.newW ht7
  have U8 := Lib.hid (HU6.out.trans (HB6.out.ct.upW (Nat.le_refl _) (ptr wc.heap.size) hb7 15))
  clear HB6 HU6 ht7 hb7 HW HF5 c9
  generalize wc.heap.size = pw' at *
  go_wp2_with fail
  refine bodyPost_end (results_none rfl _ _ _) rfl ?_
  exact ⟨rfl, _, T8.out, U8.out⟩
theorem answerSyn_any (h : CT b c P w) (ok : COk k c) (hk : Few k) (acks : Bool) :
    Calls Try.prog 56 #[ptr b, .bool acks] w fun e w' => e = .returned (.tuple #[]) ∧ ∃ P', CT b (c.answerSyn acks) P' w' ∧ Up b P P' w w' := by
  cases acks with
  | true =>
    have HC := Lib.hid (acked_any h ok hk 1 (by decide))
    have HA : Hid (c.answerSyn true = { c.acked 1 with st := 3, ack := true }) := rfl
    have HF : Hid (∀ Q W, CT b (c.acked 1) Q W → W.cell? ⟨b, 6, none⟩ = some (.int .i64 c.st) ∧ W.cell? ⟨b, 28, none⟩ = some (.bool c.ack) ∧ W.frozen? ⟨b, 6, none⟩ = false ∧ W.frozen? ⟨b, 28, none⟩ = false ∧ CT b { c.acked 1 with st := 3, ack := true } Q ((W.setCell ⟨b, 6, none⟩ (.int .i64 3)).setCell ⟨b, 28, none⟩ (.bool true))) := fun Q W h' => ⟨h'.c6, h'.c28, h'.free _, h'.free _, (h'.s6 3).s28 true⟩
    clear h ok hk
    go_enter Try.func56, Try.ntmps56
    go_wp2_with fail
    refine HC.out.mono ?_; rintro e w1 ⟨rfl, P1, T1, U1⟩
    obtain ⟨c6, c28, f6, f28, T2⟩ := HF.out _ _ T1
    have HT2 := Lib.hid T2
    have HU2 := Lib.hid ((U1.set 6 (.int .i64 3)).set 28 (.bool true))
    clear T1 U1 T2 HC HF
    go_wp2_with fail
    refine bodyPost_end (results_none rfl _ _ _) rfl ?_
    exact ⟨rfl, _, by rw [HA.out]; exact HT2.out, HU2.out⟩
  | false =>
    have c6 := h.c6
    have f6 := h.free 6
    have c10 := h.c10
    have T1 := Lib.hid (h.s6 2)
    have U1 : Hid (Up b P P w (w.setCell ⟨b, 6, none⟩ (.int .i64 2))) := (Up.refl _ _ _).set _ _
    have HC : Hid (∀ W, CT b { c with st := 2 } P W → Calls Try.prog 44 #[ptr P.po] W fun e w' => e = .returned (.tuple #[]) ∧ CT b { c with st := 2, o := Oq.bk c.o } P w' ∧ Up b P P W w') := fun W h' => (Oq.q_back h'.out).mono fun e w' ⟨h1, h2, h3⟩ => ⟨h1, h'.putO h2 (h3.mono (by simp)) rfl, up1 h3 (by simp [fp])⟩
    have HA : Hid (c.answerSyn false = { c with st := 2, o := Oq.bk c.o }) := rfl
    clear h ok hk
    go_enter Try.func56, Try.ntmps56
    go_wp2_with fail
    refine (HC.out _ T1.out).mono ?_; rintro e w1 ⟨rfl, T2, U2⟩
    have HT2 := Lib.hid T2
    have HU2 := Lib.hid (U1.out.trans U2)
    clear T2 U2 U1 T1 HC c6 f6 c10
    go_wp2_with fail
    refine bodyPost_ret (results_none rfl _ _ _) rfl ?_
    exact ⟨rfl, _, by rw [HA.out]; exact HT2.out, HU2.out⟩
end
end Go.Proofs.Ytnhcjefbiihfjaa
