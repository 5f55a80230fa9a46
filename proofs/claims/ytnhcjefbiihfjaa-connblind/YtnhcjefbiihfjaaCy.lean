/-
  Contract of takeFirst (package conn).
-/
import Derived.Test.YtnhcjefbiihfjaaCv
import Derived.Test.YtnhcjefbiihfjaaCu
import Derived.Deep.CutBlock
namespace Go.Proofs.Ytnhcjefbiihfjaa
open Go.RowKit
open Tc (Sg gchk gv gc)
set_option linter.unusedVariables false
set_option linter.unusedSimpArgs false
section
variable {b k bx : Nat} {c : Cn} {P : Pt} {g : Sg} {w : World}
end
open Oq (Pc pcl pcs pvv PB)
theorem below_trans {w W W' : World} (h : Below w.heap.size w W) (hb : Below W.heap.size W W') : Below w.heap.size w W' := h.trans (hb.mono h.size)
/-- A piece that is told, while memory grows. -/
structure PX (w : World) (bp : Nat) (p : Pc) (W : World) : Prop where
  be : Below w.heap.size w W
  pb : PB bp p W
  lo : w.heap.size ≤ bp
section
variable {w W W' : World} {bp : Nat} {p : Pc}
theorem PX.keep (h : PX w bp p W) (hb : Below W.heap.size W W') : PX w bp p W' := ⟨below_trans h.be hb, h.pb.keep hb, h.lo⟩
theorem PX.new (h : Below w.heap.size w W) : PX w W.heap.size Oq.pc0 (W.alloc (.cells (pcs Oq.pc0) 99)) := ⟨h.alloc h.size _, PB.new W Oq.pc0, h.size⟩
theorem PX.put (h : PX w bp p W) (q : Pc) : PX w bp q (W.setCells bp 0 (pcl q)) := ⟨Oq.below_setCells h.be h.lo _ _, h.pb.put q, h.lo⟩
end
theorem row_one {W : World} {B : Nat} (q : Sg) (hB : B ≤ W.heap.size) : SRow (W.alloc (.cells (gc q) 35)) B (.slice (some ⟨W.heap.size, 0, none⟩) 1 1) [q] := by
  have := World.ownsRow_lit (base := B) (e := 35) (size := 13) W (gc q) 1 hB (by unfold maxLen; omega) rfl
  unfold SRow
  simpa [scells] using this
section
variable {b k : Nat} {c : Cn} {P : Pt} {w : World}
theorem firsts_0 (h : c.again = false) : c.firsts = [] ∧ ({ c with again := false } : Cn) = c := by
  refine ⟨by unfold Cn.firsts; rw [h]; rfl, ?_⟩
  rw [← h]
theorem firsts_no (h : Oq.fiG c.o c.mss = false) : c.firsts = [] := by unfold Cn.firsts; rw [h, Bool.and_false]; rfl
theorem firsts_yes (h : c.again = true) (h1 : Oq.fiG c.o c.mss = true) : c.firsts = [c.carry (Oq.fiP c.o c.mss)] := by unfold Cn.firsts; rw [h, h1]; rfl
set_option maxRecDepth 100000 in
set_option maxHeartbeats 2000000 in
theorem takeFirst_any (h : CT b c P w) (ok : COk k c) (hk : Few k) :
    Calls Try.prog 48 #[ptr b] w fun e w' => ∃ v, e = .returned v ∧ SRow w' w.heap.size v c.firsts ∧ CT b { c with again := false } P w' ∧ Up b P P w w' := by
  cases ha : c.again with
  | false =>
    obtain ⟨e1, e2⟩ := firsts_0 ha
    have c26 := h.c26
    rw [ha] at c26
    have H := Lib.hid h
    have E1 := Lib.hid e1
    have E2 := Lib.hid e2
    clear h ok hk ha e1 e2
    go_enter Try.func48, Try.ntmps48
    go_wp2_with fail
    go_ret
    exact ⟨_, rfl, by rw [E1.out]; exact SRow.nil _ _, by rw [E2.out]; exact H.out, Up.refl _ _ _⟩
  | true =>
    have c26 := h.c26
    rw [ha] at c26
    have y26 := h.free 26
    have h1 : CT b { c with again := false } P (w.setCell ⟨b, 26, none⟩ (.bool false)) := h.s26 false
    have u1 : Up b P P w (w.setCell ⟨b, 26, none⟩ (.bool false)) := (Up.refl _ _ _).set _ _
    have ok1 : COk k { c with again := false } := { ok with }
    have hsz : Hid ((w.setCell ⟨b, 26, none⟩ (.bool false)).heap.size = w.heap.size) := by show _ = _; simp
    have e1 : ∀ g, Oq.fiG c.o c.mss = g → c.firsts = if g then [c.carry (Oq.fiP c.o c.mss)] else [] := fun g hg => by
      cases g
      · exact firsts_no hg
      · exact firsts_yes ha hg
    have hA := ok.oA' hk
    have hm := ok.ms
    go_enter Try.func48, Try.ntmps48
    go_wp2_with fail
    generalize w.setCell ⟨b, 26, none⟩ (.bool false) = w1 at *
    have BE : Hid (Below w1.heap.size w1 w1) := Below.refl _ _
    have HS : Hid (∀ W, Below w1.heap.size w1 W → W.cell? ⟨b, 10, none⟩ = some (ptr P.po) ∧ W.cell? ⟨b, 9, none⟩ = some (.int .i64 c.mss)) := fun W hb => ⟨(h1.keep hb).c10, (h1.keep hb).c9⟩
    have HF : Hid (∀ W, Below w1.heap.size w1 W → Calls Try.prog 69 #[ptr P.po, .int .i64 c.mss] W fun e w' => e = .returned (.tuple #[pvv (Oq.fiP c.o c.mss), .bool (Oq.fiG c.o c.mss)]) ∧ Below W.heap.size W w') := fun W hb => Oq.q_first c.mss (h1.keep hb).out ok.o (by omega) (by omega)
    have HC : Hid (∀ W, Below w1.heap.size w1 W → Calls Try.prog 52 #[ptr b, pvv (Oq.fiP c.o c.mss)] W fun e w' => e = .returned (gv (c.carry (Oq.fiP c.o c.mss))) ∧ Below W.heap.size W w') := fun W hb => carry_any (h1.keep hb) ok1 hk _
    have HT : Hid (∀ W, Below w1.heap.size w1 W → CT b { c with again := false } P W ∧ Up b P P w W) := fun W hb => ⟨h1.keep hb, u1.then hb⟩
    have HUp := Lib.hid Try.underlying99
    clear h h1 u1 ok ok1 hk c26 y26 ha hA hm
    have HE := Lib.hid e1
    clear e1
    generalize c.carry (Oq.fiP c.o c.mss) = gq at *
    generalize Oq.fiG c.o c.mss = g1 at *
    generalize Oq.fiP c.o c.mss = p1 at *
    go_cut [3, 4] from 5 to 28 (fun bp r W => ∃ q : Nat, bp = ptr q ∧ r = .bool g1 ∧ PX w1 q p1 W)
    case first =>
      refine wp_region_held_drew (S := (fun W' => W'.cell? ⟨b, 10, none⟩ = some (ptr P.po) ∧ W'.cell? ⟨b, 9, none⟩ = some (.int .i64 c.mss))) (by kernel_rfl) (HS.out _ BE.out.drew) (fun hHeld => ?_)
      refine takeH (i := 0) (d := some 16) (v := ?_) rfl rfl (by kernel_rfl) (by kernel_rfl) (by kernel_rfl) (fun _ _ _ h => h) (Or.inl ⟨by rfl, ?_⟩) hHeld ?_
      rotate_left
      · intro w' hSw; (try dsimp only at hSw); go_simp; try with_reducible rfl
      simp only [Act.put, List.setIfInBounds_toArray, List.set_cons_zero, List.set_cons_succ]
      refine takeH (i := 1) (d := some 17) (v := ?_) rfl rfl (by kernel_rfl) (by kernel_rfl) (by kernel_rfl) (fun _ _ _ h => h) (Or.inl ⟨by rfl, ?_⟩) hHeld ?_
      rotate_left
      · intro w' hSw; (try dsimp only at hSw); go_simp; try with_reducible rfl
      simp only [Act.put, List.setIfInBounds_toArray, List.set_cons_zero, List.set_cons_succ]
      refine takeH (i := 2) (d := some 18) (v := ?_) rfl rfl (by kernel_rfl) (by kernel_rfl) (by kernel_rfl) (fun _ _ _ h => h) (Or.inl ⟨by rfl, ?_⟩) hHeld ?_
      rotate_left
      · intro w' hSw; (try dsimp only at hSw); go_simp; try with_reducible rfl
      simp only [Act.put, List.setIfInBounds_toArray, List.set_cons_zero, List.set_cons_succ]
      refine takeH (i := 3) (d := some 19) (v := ?_) rfl rfl (by kernel_rfl) (by kernel_rfl) (by kernel_rfl) (fun _ _ _ h => h) (Or.inl ⟨by rfl, ?_⟩) hHeld ?_
      rotate_left
      · intro w' hSw; (try dsimp only at hSw); obtain ⟨q1, q2⟩ := hSw; go_simp; try with_reducible rfl
      simp only [Act.put, List.setIfInBounds_toArray, List.set_cons_zero, List.set_cons_succ]
      refine takeH (i := 4) (d := some 20) (v := ?_) rfl rfl (by kernel_rfl) (by kernel_rfl) (by kernel_rfl) (fun _ _ _ h => h) (Or.inl ⟨by rfl, ?_⟩) hHeld ?_
      rotate_left
      · intro w' hSw; (try dsimp only at hSw); go_simp; try with_reducible rfl
      simp only [Act.put, List.setIfInBounds_toArray, List.set_cons_zero, List.set_cons_succ]
      refine takeH (i := 5) (d := some 21) (v := ?_) rfl rfl (by kernel_rfl) (by kernel_rfl) (by kernel_rfl) (fun _ _ _ h => h) (Or.inl ⟨by rfl, ?_⟩) hHeld ?_
      rotate_left
      · intro w' hSw; (try dsimp only at hSw); go_simp; try with_reducible rfl
      simp only [Act.put, List.setIfInBounds_toArray, List.set_cons_zero, List.set_cons_succ]
      refine takeH (i := 6) (d := some 22) (v := ?_) rfl rfl (by kernel_rfl) (by kernel_rfl) (by kernel_rfl) (fun _ _ _ h => h) (Or.inl ⟨by rfl, ?_⟩) hHeld ?_
      rotate_left
      · intro w' hSw; (try dsimp only at hSw); go_simp; try with_reducible rfl
      simp only [Act.put, List.setIfInBounds_toArray, List.set_cons_zero, List.set_cons_succ]
      refine takeH (i := 7) (d := some 23) (v := ?_) rfl rfl (by kernel_rfl) (by kernel_rfl) (by kernel_rfl) (fun _ _ _ h => h) (Or.inl ⟨by rfl, ?_⟩) hHeld ?_
      rotate_left
      · intro w' hSw; (try dsimp only at hSw); obtain ⟨q1, q2⟩ := hSw; go_simp; try with_reducible rfl
      simp only [Act.put, List.setIfInBounds_toArray, List.set_cons_zero, List.set_cons_succ]
      refine wpAnyH_ready (rs := [8, 12]) (by kernel_rfl) (by simp) ?_
      refine AllReadyH.cons rfl (fun K hK => ?_) (AllReadyH.cons rfl (fun K hK => ?_) (AllReadyH.nil))
      · go_simp
        refine (HF.out _ BE.out.drew).mono ?_; rintro e w2 ⟨rfl, hb2⟩
        have B2 := Lib.hid (below_trans BE.out.drew hb2)
        clear hHeld
        refine hK.out _ _ (HS.out _ B2.out) (fun hHeld => ?_)
        clear hK K
        try simp only [Act.put, List.setIfInBounds_toArray, List.set_cons_zero, List.set_cons_succ]
        refine takeH (i := 9) (d := some 15) (v := ?_) rfl rfl (by kernel_rfl) (by kernel_rfl) (by kernel_rfl) (fun _ _ _ h => h) (Or.inl ⟨by rfl, ?_⟩) hHeld ?_
        rotate_left
        · intro w' hSw; (try dsimp only at hSw); go_simp; try with_reducible rfl
        simp only [Act.put, List.setIfInBounds_toArray, List.set_cons_zero, List.set_cons_succ]
        refine takeH (i := 10) (d := some 25) (v := ?_) rfl rfl (by kernel_rfl) (by kernel_rfl) (by kernel_rfl) (fun _ _ _ h => h) (Or.inl ⟨by rfl, ?_⟩) hHeld ?_
        rotate_left
        · intro w' hSw; (try dsimp only at hSw); go_simp; try with_reducible rfl
        simp only [Act.put, List.setIfInBounds_toArray, List.set_cons_zero, List.set_cons_succ]
        refine takeH (i := 11) (d := some 26) (v := ?_) rfl rfl (by kernel_rfl) (by kernel_rfl) (by kernel_rfl) (fun _ _ _ h => h) (Or.inl ⟨by rfl, ?_⟩) hHeld ?_
        rotate_left
        · intro w' hSw; (try dsimp only at hSw); go_simp; try with_reducible rfl
        simp only [Act.put, List.setIfInBounds_toArray, List.set_cons_zero, List.set_cons_succ]
        refine wpAnyH_ready (rs := [12]) (by kernel_rfl) (by simp) ?_
        refine AllReadyH.cons rfl (fun K hK => ?_) (AllReadyH.nil)
        go_simp
        have Y1 := Lib.hid (PX.new B2.out)
        clear hHeld
        refine hK.out _ _ (HS.out _ Y1.out.be) (fun hHeld => ?_)
        clear hK K
        try simp only [Act.put, List.setIfInBounds_toArray, List.set_cons_zero, List.set_cons_succ]
        refine wpAnyH_ready (rs := [13]) (by kernel_rfl) (by simp) ?_
        refine AllReadyH.cons rfl (fun K hK => ?_) (AllReadyH.nil)
        rw [if_pos (by rfl)]
        refine wp_store_mid _ _ _ rfl _ _ (pcs p1) rfl rfl (PB.there Y1.out.pb) Oq.info46 (Oq.pcs_one _) ?_
        have Z := Lib.hid (Y1.out.put p1)
        clear hHeld
        refine hK.out _ _ (HS.out _ Z.out.be) (fun hHeld => ?_)
        clear hK K
        try simp only [Act.put, List.setIfInBounds_toArray, List.set_cons_zero, List.set_cons_succ]
        refine takeH (i := 14) (d := some 4) (v := ?_) rfl rfl (by kernel_rfl) (by kernel_rfl) (by kernel_rfl) (fun _ _ _ h => h) (Or.inl ⟨by rfl, ?_⟩) hHeld ?_
        rotate_left
        · intro w' hSw; (try dsimp only at hSw); go_simp; try with_reducible rfl
        simp only [Act.put, List.setIfInBounds_toArray, List.set_cons_zero, List.set_cons_succ]
        refine wpAnyH_done (by kernel_rfl) ?_ _
        go_wp2_with fail
        go_meet
        exact ⟨_, rfl, rfl, Z.out⟩
      · go_simp
        have Y1 := Lib.hid (PX.new BE.out.drew)
        clear hHeld
        refine hK.out _ _ (HS.out _ Y1.out.be) (fun hHeld => ?_)
        clear hK K
        try simp only [Act.put, List.setIfInBounds_toArray, List.set_cons_zero, List.set_cons_succ]
        refine wpAnyH_ready (rs := [8]) (by kernel_rfl) (by simp) ?_
        refine AllReadyH.cons rfl (fun K hK => ?_) (AllReadyH.nil)
        go_simp
        refine (HF.out _ Y1.out.be).mono ?_; rintro e w2 ⟨rfl, hb2⟩
        have Y2 := Lib.hid (Y1.out.keep hb2)
        clear hHeld
        refine hK.out _ _ (HS.out _ Y2.out.be) (fun hHeld => ?_)
        clear hK K
        try simp only [Act.put, List.setIfInBounds_toArray, List.set_cons_zero, List.set_cons_succ]
        refine takeH (i := 9) (d := some 15) (v := ?_) rfl rfl (by kernel_rfl) (by kernel_rfl) (by kernel_rfl) (fun _ _ _ h => h) (Or.inl ⟨by rfl, ?_⟩) hHeld ?_
        rotate_left
        · intro w' hSw; (try dsimp only at hSw); go_simp; try with_reducible rfl
        simp only [Act.put, List.setIfInBounds_toArray, List.set_cons_zero, List.set_cons_succ]
        refine takeH (i := 10) (d := some 25) (v := ?_) rfl rfl (by kernel_rfl) (by kernel_rfl) (by kernel_rfl) (fun _ _ _ h => h) (Or.inl ⟨by rfl, ?_⟩) hHeld ?_
        rotate_left
        · intro w' hSw; (try dsimp only at hSw); go_simp; try with_reducible rfl
        simp only [Act.put, List.setIfInBounds_toArray, List.set_cons_zero, List.set_cons_succ]
        refine takeH (i := 11) (d := some 26) (v := ?_) rfl rfl (by kernel_rfl) (by kernel_rfl) (by kernel_rfl) (fun _ _ _ h => h) (Or.inl ⟨by rfl, ?_⟩) hHeld ?_
        rotate_left
        · intro w' hSw; (try dsimp only at hSw); go_simp; try with_reducible rfl
        simp only [Act.put, List.setIfInBounds_toArray, List.set_cons_zero, List.set_cons_succ]
        refine wpAnyH_ready (rs := [13]) (by kernel_rfl) (by simp) ?_
        refine AllReadyH.cons rfl (fun K hK => ?_) (AllReadyH.nil)
        rw [if_pos (by rfl)]
        refine wp_store_mid _ _ _ rfl _ _ (pcs p1) rfl rfl (PB.there Y2.out.pb) Oq.info46 (Oq.pcs_one _) ?_
        have Z := Lib.hid (Y2.out.put p1)
        clear hHeld
        refine hK.out _ _ (HS.out _ Z.out.be) (fun hHeld => ?_)
        clear hK K
        try simp only [Act.put, List.setIfInBounds_toArray, List.set_cons_zero, List.set_cons_succ]
        refine takeH (i := 14) (d := some 4) (v := ?_) rfl rfl (by kernel_rfl) (by kernel_rfl) (by kernel_rfl) (fun _ _ _ h => h) (Or.inl ⟨by rfl, ?_⟩) hHeld ?_
        rotate_left
        · intro w' hSw; (try dsimp only at hSw); go_simp; try with_reducible rfl
        simp only [Act.put, List.setIfInBounds_toArray, List.set_cons_zero, List.set_cons_succ]
        refine wpAnyH_done (by kernel_rfl) ?_ _
        go_wp2_with fail
        go_meet
        exact ⟨_, rfl, rfl, Z.out⟩
    obtain ⟨q, rfl, rfl, Z⟩ := hcut
    have Z := Lib.hid Z
    clear HF HS BE
    cases g1 with
    | false =>
      go_wp2_with fail
      go_ret
      exact ⟨_, rfl, by rw [HE.out _ rfl]; exact SRow.nil _ _, (HT.out _ Z.out.be).1, (HT.out _ Z.out.be).2⟩
    | true =>
      go_wp2_with (refine wpList_load_mid rfl _ _ rfl _ _ rfl (pcl p1) _ Z.out.pb.range HUp.out rfl Oq.info46 ?_)
      refine (HC.out _ Z.out.be).mono ?_; rintro e w5 ⟨rfl, hb5⟩
      have B5 := Lib.hid (below_trans Z.out.be hb5)
      go_wp2_with fail
      go_ret
      have b6 := B5.out.alloc B5.out.size (.cells (gc gq) 35)
      exact ⟨_, rfl, by rw [HE.out _ rfl]; exact row_one gq (by rw [← hsz.out]; exact B5.out.size), (HT.out _ b6).1, (HT.out _ b6).2⟩
end
end Go.Proofs.Ytnhcjefbiihfjaa
