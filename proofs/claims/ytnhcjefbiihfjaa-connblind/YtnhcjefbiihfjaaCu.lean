/-
  Contract of carry (package conn).
-/
import Derived.Test.YtnhcjefbiihfjaaCo
import Derived.Deep.CutBlock
namespace Go.Proofs.Ytnhcjefbiihfjaa
open Go.RowKit
open Tc (Sg gchk gv gc)
set_option linter.unusedVariables false
set_option linter.unusedSimpArgs false
section
variable {b k bx : Nat} {c : Cn} {P : Pt} {g : Sg} {w : World}
open Oq (Pc pcl pcs pvv PB)
theorem GB.set' {b : Nat} {g q : Sg} {W : World} (h : Tc.GB b g W) (i : Nat) (v : Value) (e : (gc g).setIfInBounds i v = gc q) : Tc.GB b q (W.setCell ⟨b, i, none⟩ v) := by
  have h1 := segs_set h i v
  rw [e] at h1
  exact h1
theorem gc_one' (g : Sg) : (gc g).all (·.oneCell') = true := all_oneCell_toArray (cs := gcl g) (gcl_one g)
/-- While a segment is made: the piece, where it is told, where it is made. -/
structure CX (w : World) (bp : Nat) (p : Pc) (br : Nat) (W : World) : Prop where
  be : Below w.heap.size w W
  pb : PB bp p W
  rb : Tc.GB br gz0 W
  lr : w.heap.size ≤ br
structure CY (w : World) (bp : Nat) (p : Pc) (br bs : Nat) (q : Sg) (W : World) : Prop extends CX w bp p br W where
  gb : Tc.GB bs q W
  np : bp ≠ bs
  nr : br ≠ bs
  ls : w.heap.size ≤ bs
section
variable {b k bp br bs : Nat} {c : Cn} {P : Pt} {w W W' : World} {p : Pc} {q : Sg}
theorem CX.keep (h : CX w bp p br W) (hb : Below W.heap.size W W') : CX w bp p br W' := ⟨h.be.trans (hb.mono h.be.size), h.pb.keep hb, (hb.block _ h.rb.lt).trans h.rb, h.lr⟩
theorem CX.new (h : CX w bp p br W) : CY w bp p br W.heap.size gz0 (W.alloc (.cells (gc gz0) 35)) :=
  ⟨h.keep ((Below.refl _ _).alloc (Nat.le_refl _) _), Tc.GB.new W gz0, by have := h.pb.lt; omega, by have := h.rb.lt; omega, h.be.size⟩
theorem CX.drew (h : CX w bp p br W) : CX w bp p br W.drew := h.keep (Below.refl _ _).drew
theorem CY.keep (h : CY w bp p br bs q W) (hb : Below W.heap.size W W') : CY w bp p br bs q W' := ⟨h.toCX.keep hb, (hb.block _ h.gb.lt).trans h.gb, h.np, h.nr, h.ls⟩
theorem CY.put (h : CY w bp p br bs q W) (q' : Sg) : CY w bp p br bs q' (W.setCells bs 0 (gcl q')) := by
  have hk : Kp [bs] W (W.setCells bs 0 (gcl q')) := (Kp.refl _ _).setCells (Or.inl (by simp)) _ _
  exact ⟨⟨h.be.trans (Kp.below hk h.be.size (by simpa using h.ls)), h.pb.kp hk (by simpa using h.np), GB.kp h.rb hk (by simpa using h.nr), h.lr⟩, GB.put h.gb q', h.np, h.nr, h.ls⟩
theorem CY.set (h : CY w bp p br bs q W) {q' : Sg} (i : Nat) (v : Value) (e : (gc q).setIfInBounds i v = gc q') : CY w bp p br bs q' (W.setCell ⟨bs, i, none⟩ v) := by
  have hk : Kp [bs] W (W.setCell ⟨bs, i, none⟩ v) := (Kp.refl _ _).setCell (Or.inl (by simp)) _
  exact ⟨⟨h.be.trans (Kp.below hk h.be.size (by simpa using h.ls)), h.pb.kp hk (by simpa using h.np), GB.kp h.rb hk (by simpa using h.nr), h.lr⟩, GB.set' h.gb i v e, h.np, h.nr, h.ls⟩
theorem CY.ret (h : CY w bp p br bs q W) (q' : Sg) : Below w.heap.size w (W.setCells br 0 (gcl q')) :=
  h.be.trans (Kp.below ((Kp.refl [br] _).setCells (Or.inl (by simp)) _ _) h.be.size (by simpa using h.lr))
/-- Half way. -/
def carry1 (c : Cn) (p : Pc) : Sg := { sa := c.la, sp := c.lp, da := c.ra, dp := c.rp, sq := Cn.nm c.iss p.at', ak := 0, syn := p.syn, ack := false, fin := p.fin, rst := false, win := 2048, mss := 0, body := p.body }
def carry2 (c : Cn) (p : Pc) : Sg := { carry1 c p with mss := if p.syn then c.told else 0 }
theorem carry_none (h : c.i = none) : c.carry p = carry2 c p := by unfold Cn.carry carry2 carry1 Cn.wndI; rw [h]; rfl
theorem carry_some {t : Iq.St} (h : c.i = some t) : c.carry p = { carry2 c p with ack := true, ak := c.next, win := Iq.wnd t } := by unfold Cn.carry carry2 carry1 Cn.wndI; rw [h]; rfl
def s6 (b bp : Nat) (c : Cn) (p : Pc) (W : World) : Prop :=
  W.cell? ⟨b, 0, none⟩ = some (.int .u32 (c.la : Int)) ∧ W.cell? ⟨b, 1, none⟩ = some (.int .i64 c.lp) ∧ W.cell? ⟨b, 2, none⟩ = some (.int .u32 (c.ra : Int)) ∧ W.cell? ⟨b, 3, none⟩ = some (.int .i64 c.rp) ∧ W.cell? ⟨bp, 0, none⟩ = some (.int .i64 p.at') ∧ W.cell? ⟨bp, 1, none⟩ = some (.bool p.syn) ∧ W.cell? ⟨bp, 2, none⟩ = some (.bool p.fin) ∧ W.cell? ⟨bp, 3, none⟩ = some (.string p.body)
theorem s6_of (h : CT b c P W) (hp : PB bp p W) : s6 b bp c p W := ⟨h.c0, h.c1, h.c2, h.c3, hp.c0, hp.c1, hp.c2, hp.c3⟩
set_option maxRecDepth 100000 in
set_option maxHeartbeats 2000000 in
theorem carry_any (h : CT b c P w) (ok : COk k c) (hk : Few k) (p : Pc) :
    Calls Try.prog 52 #[ptr b, pvv p] w fun e w' => e = .returned (gv (c.carry p)) ∧ Below w.heap.size w w' := by
  have HN : Hid (∀ W, Below w.heap.size w W → Calls Try.prog 33 #[ptr b, .int .i64 p.at'] W fun e w' => e = .returned (.int .u32 ((Cn.nm c.iss p.at' : Nat) : Int)) ∧ w' = W) := fun W hb => number_any (h.keep hb) _
  have X0 : Hid (CX w w.heap.size p (w.heap.size + 1) ((w.alloc (.cells (pcs p) 99)).alloc (.cells #[.int .u32 0, .int .i64 0, .int .u32 0, .int .i64 0, .int .u32 0, .int .u32 0, .bool false, .bool false, .bool false, .bool false, .int .i64 0, .int .i64 0, .string ⟨#[]⟩] 35))) := by
    have e : (w.alloc (.cells (pcs p) 99)).heap.size = w.heap.size + 1 := by simp
    exact ⟨((Below.refl _ _).alloc (Nat.le_refl _) _).alloc (by omega) _, (PB.new w p).alloc _, e ▸ Tc.GB.new _ gz0, Nat.le_succ _⟩
  have HS : Hid (∀ {bp br W}, CX w bp p br W → s6 b bp c p W) := fun h' => s6_of (h.keep h'.be) h'.pb
  have HUs := Lib.hid Try.underlying35
  have HT8 : Hid (∀ W, Below w.heap.size w W → W.cell? ⟨b, 8, none⟩ = some (.int .i64 c.told) ∧ W.cell? ⟨b, 12, none⟩ = some (inV c P)) := fun W hb => ⟨(h.keep hb).c8, (h.keep hb).c12⟩
  have HR : Hid (∀ W, Below w.heap.size w W → W.cell? ⟨b, 12, none⟩ = some (inV c P)) := fun W hb => (h.keep hb).c12
  have HX : Hid (∀ t, c.i = some t → ∀ W, Below w.heap.size w W → Calls Try.prog 57 #[ptr b] W fun e w' => e = .returned (.int .u32 ((c.next : Nat) : Int)) ∧ Below W.heap.size W w') := fun t ht W hb =>
    (next_any (h.keep hb) ht).mono fun e w' ⟨h1, m, h2⟩ => ⟨h1, h2 ▸ below_drewN W m⟩
  have HWi : Hid (∀ t, c.i = some t → ∀ W, Below w.heap.size w W → Calls Try.prog 60 #[ptr P.pi] W fun e w' => e = .returned (.int .i64 (Iq.wnd t)) ∧ Below W.heap.size W w') := fun t ht W hb =>
    (Iq.window_any ((h.keep hb).inn t ht) (ok.i t ht).1.lo (by have := (ok.ib hk ht).2.1; omega)).mono fun e w' ⟨h1, m, h2⟩ => ⟨h1, h2 ▸ below_drewN W m⟩
  have HEn : Hid (∀ _ : Unit, c.i = none → c.carry p = carry2 c p ∧ inV c P = .pointer none) := fun _ e => ⟨carry_none e, by unfold inV; rw [e]⟩
  have HEs : Hid (∀ t, c.i = some t → c.carry p = { carry2 c p with ack := true, ak := c.next, win := Iq.wnd t } ∧ inV c P = ptr P.pi) := fun t e => ⟨carry_some e, by unfold inV; rw [e]⟩
  clear h ok hk
  go_enter Try.func52, Try.ntmps52
  go_wp2_with fail
  generalize (w.alloc (.cells (pcs p) 99)).alloc (.cells #[.int .u32 0, .int .i64 0, .int .u32 0, .int .i64 0, .int .u32 0, .int .u32 0, .bool false, .bool false, .bool false, .bool false, .int .i64 0, .int .i64 0, .string ⟨#[]⟩] 35) = W1 at *
  generalize hbr : w.heap.size + 1 = br at *
  generalize hbp : w.heap.size = bp at X0 ⊢
  have s1 := HS.out X0.out.drew
  go_cut [5] from 6 to 24 (fun s W => s = ptr W1.heap.size ∧ CY w bp p br W1.heap.size (carry1 c p) W)
  case first =>
    refine wp_region_held_drew (S := (s6 b bp c p)) (by kernel_rfl) s1 (fun hHeld => ?_)
    refine takeH (i := 0) (d := some 6) (v := ?_) rfl rfl (by kernel_rfl) (by kernel_rfl) (by kernel_rfl) (fun _ _ _ h => h) (Or.inl ⟨by rfl, ?_⟩) hHeld ?_
    rotate_left
    · intro w' hSw; (try dsimp only at hSw); go_simp; try with_reducible rfl
    simp only [Act.put, List.setIfInBounds_toArray, List.set_cons_zero, List.set_cons_succ]
    refine takeH (i := 1) (d := some 7) (v := ?_) rfl rfl (by kernel_rfl) (by kernel_rfl) (by kernel_rfl) (fun _ _ _ h => h) (Or.inl ⟨by rfl, ?_⟩) hHeld ?_
    rotate_left
    · intro w' hSw; (try dsimp only at hSw); go_simp; try with_reducible rfl
    simp only [Act.put, List.setIfInBounds_toArray, List.set_cons_zero, List.set_cons_succ]
    refine takeH (i := 2) (d := some 8) (v := ?_) rfl rfl (by kernel_rfl) (by kernel_rfl) (by kernel_rfl) (fun _ _ _ h => h) (Or.inl ⟨by rfl, ?_⟩) hHeld ?_
    rotate_left
    · intro w' hSw; (try dsimp only at hSw); go_simp; try with_reducible rfl
    simp only [Act.put, List.setIfInBounds_toArray, List.set_cons_zero, List.set_cons_succ]
    refine takeH (i := 3) (d := some 9) (v := ?_) rfl rfl (by kernel_rfl) (by kernel_rfl) (by kernel_rfl) (fun _ _ _ h => h) (Or.inl ⟨by rfl, ?_⟩) hHeld ?_
    rotate_left
    · intro w' hSw; (try dsimp only at hSw); obtain ⟨q1, q2, q3, q4, q5, q6, q7, q8⟩ := hSw; go_simp; try with_reducible rfl
    simp only [Act.put, List.setIfInBounds_toArray, List.set_cons_zero, List.set_cons_succ]
    refine takeH (i := 4) (d := some 10) (v := ?_) rfl rfl (by kernel_rfl) (by kernel_rfl) (by kernel_rfl) (fun _ _ _ h => h) (Or.inl ⟨by rfl, ?_⟩) hHeld ?_
    rotate_left
    · intro w' hSw; (try dsimp only at hSw); go_simp; try with_reducible rfl
    simp only [Act.put, List.setIfInBounds_toArray, List.set_cons_zero, List.set_cons_succ]
    refine takeH (i := 5) (d := some 11) (v := ?_) rfl rfl (by kernel_rfl) (by kernel_rfl) (by kernel_rfl) (fun _ _ _ h => h) (Or.inl ⟨by rfl, ?_⟩) hHeld ?_
    rotate_left
    · intro w' hSw; (try dsimp only at hSw); go_simp; try with_reducible rfl
    simp only [Act.put, List.setIfInBounds_toArray, List.set_cons_zero, List.set_cons_succ]
    refine takeH (i := 6) (d := some 12) (v := ?_) rfl rfl (by kernel_rfl) (by kernel_rfl) (by kernel_rfl) (fun _ _ _ h => h) (Or.inl ⟨by rfl, ?_⟩) hHeld ?_
    rotate_left
    · intro w' hSw; (try dsimp only at hSw); go_simp; try with_reducible rfl
    simp only [Act.put, List.setIfInBounds_toArray, List.set_cons_zero, List.set_cons_succ]
    refine takeH (i := 7) (d := some 13) (v := ?_) rfl rfl (by kernel_rfl) (by kernel_rfl) (by kernel_rfl) (fun _ _ _ h => h) (Or.inl ⟨by rfl, ?_⟩) hHeld ?_
    rotate_left
    · intro w' hSw; (try dsimp only at hSw); obtain ⟨q1, q2, q3, q4, q5, q6, q7, q8⟩ := hSw; go_simp; try with_reducible rfl
    simp only [Act.put, List.setIfInBounds_toArray, List.set_cons_zero, List.set_cons_succ]
    refine takeH (i := 8) (d := some 14) (v := ?_) rfl rfl (by kernel_rfl) (by kernel_rfl) (by kernel_rfl) (fun _ _ _ h => h) (Or.inl ⟨by rfl, ?_⟩) hHeld ?_
    rotate_left
    · intro w' hSw; (try dsimp only at hSw); go_simp; try with_reducible rfl
    simp only [Act.put, List.setIfInBounds_toArray, List.set_cons_zero, List.set_cons_succ]
    refine takeH (i := 9) (d := some 15) (v := ?_) rfl rfl (by kernel_rfl) (by kernel_rfl) (by kernel_rfl) (fun _ _ _ h => h) (Or.inl ⟨by rfl, ?_⟩) hHeld ?_
    rotate_left
    · intro w' hSw; (try dsimp only at hSw); go_simp; try with_reducible rfl
    simp only [Act.put, List.setIfInBounds_toArray, List.set_cons_zero, List.set_cons_succ]
    refine takeH (i := 10) (d := some 16) (v := ?_) rfl rfl (by kernel_rfl) (by kernel_rfl) (by kernel_rfl) (fun _ _ _ h => h) (Or.inl ⟨by rfl, ?_⟩) hHeld ?_
    rotate_left
    · intro w' hSw; (try dsimp only at hSw); obtain ⟨q1, q2, q3, q4, q5, q6, q7, q8⟩ := hSw; go_simp; try with_reducible rfl
    simp only [Act.put, List.setIfInBounds_toArray, List.set_cons_zero, List.set_cons_succ]
    refine takeH (i := 12) (d := some 18) (v := ?_) rfl rfl (by kernel_rfl) (by kernel_rfl) (by kernel_rfl) (fun _ _ _ h => h) (Or.inl ⟨by rfl, ?_⟩) hHeld ?_
    rotate_left
    · intro w' hSw; (try dsimp only at hSw); go_simp; try with_reducible rfl
    simp only [Act.put, List.setIfInBounds_toArray, List.set_cons_zero, List.set_cons_succ]
    refine takeH (i := 13) (d := some 19) (v := ?_) rfl rfl (by kernel_rfl) (by kernel_rfl) (by kernel_rfl) (fun _ _ _ h => h) (Or.inl ⟨by rfl, ?_⟩) hHeld ?_
    rotate_left
    · intro w' hSw; (try dsimp only at hSw); obtain ⟨q1, q2, q3, q4, q5, q6, q7, q8⟩ := hSw; go_simp; try with_reducible rfl
    simp only [Act.put, List.setIfInBounds_toArray, List.set_cons_zero, List.set_cons_succ]
    refine takeH (i := 14) (d := some 20) (v := ?_) rfl rfl (by kernel_rfl) (by kernel_rfl) (by kernel_rfl) (fun _ _ _ h => h) (Or.inl ⟨by rfl, ?_⟩) hHeld ?_
    rotate_left
    · intro w' hSw; (try dsimp only at hSw); go_simp; try with_reducible rfl
    simp only [Act.put, List.setIfInBounds_toArray, List.set_cons_zero, List.set_cons_succ]
    refine takeH (i := 15) (d := some 21) (v := ?_) rfl rfl (by kernel_rfl) (by kernel_rfl) (by kernel_rfl) (fun _ _ _ h => h) (Or.inl ⟨by rfl, ?_⟩) hHeld ?_
    rotate_left
    · intro w' hSw; (try dsimp only at hSw); obtain ⟨q1, q2, q3, q4, q5, q6, q7, q8⟩ := hSw; go_simp; try with_reducible rfl
    simp only [Act.put, List.setIfInBounds_toArray, List.set_cons_zero, List.set_cons_succ]
    refine takeH (i := 16) (d := some 22) (v := ?_) rfl rfl (by kernel_rfl) (by kernel_rfl) (by kernel_rfl) (fun _ _ _ h => h) (Or.inl ⟨by rfl, ?_⟩) hHeld ?_
    rotate_left
    · intro w' hSw; (try dsimp only at hSw); go_simp; try with_reducible rfl
    simp only [Act.put, List.setIfInBounds_toArray, List.set_cons_zero, List.set_cons_succ]
    refine takeH (i := 17) (d := some 23) (v := ?_) rfl rfl (by kernel_rfl) (by kernel_rfl) (by kernel_rfl) (fun _ _ _ h => h) (Or.inl ⟨by rfl, ?_⟩) hHeld ?_
    rotate_left
    · intro w' hSw; (try dsimp only at hSw); obtain ⟨q1, q2, q3, q4, q5, q6, q7, q8⟩ := hSw; go_simp; try with_reducible rfl
    simp only [Act.put, List.setIfInBounds_toArray, List.set_cons_zero, List.set_cons_succ]
    refine wpAnyH_ready (rs := [11, 19]) (by kernel_rfl) (by simp) ?_
    refine AllReadyH.cons rfl (fun K hK => ?_) (AllReadyH.cons rfl (fun K hK => ?_) (AllReadyH.nil))
    · go_simp
      refine (HN.out _ X0.out.drew.be).mono ?_; rintro e w2 ⟨rfl, rfl⟩
      clear hHeld
      refine hK.out _ _ s1 (fun hHeld => ?_)
      clear hK K
      try simp only [Act.put, List.setIfInBounds_toArray, List.set_cons_zero, List.set_cons_succ]
      refine takeH (i := 18) (d := some 24) (v := ?_) rfl rfl (by kernel_rfl) (by kernel_rfl) (by kernel_rfl) (fun _ _ _ h => h) (Or.inl ⟨by rfl, ?_⟩) hHeld ?_
      rotate_left
      · intro w' hSw; (try dsimp only at hSw); go_simp; try with_reducible rfl
      simp only [Act.put, List.setIfInBounds_toArray, List.set_cons_zero, List.set_cons_succ]
      refine wpAnyH_ready (rs := [19]) (by kernel_rfl) (by simp) ?_
      refine AllReadyH.cons rfl (fun K hK => ?_) (AllReadyH.nil)
      go_simp
      have Y := Lib.hid (X0.out.drew.new)
      have s2 := HS.out Y.out.toCX
      clear hHeld
      refine hK.out _ _ s2 (fun hHeld => ?_)
      clear hK K
      try simp only [Act.put, List.setIfInBounds_toArray, List.set_cons_zero, List.set_cons_succ]
      refine wpAnyH_ready (rs := [20]) (by kernel_rfl) (by simp) ?_
      refine AllReadyH.cons rfl (fun K hK => ?_) (AllReadyH.nil)
      rw [if_pos (by rfl)]
      refine wp_store_mid _ _ _ rfl _ _ (gc (carry1 c p)) rfl rfl (GB.there Y.out.gb) infoSeg (gc_one' _) ?_
      have Z := Lib.hid (Y.out.put (carry1 c p))
      have s3 := HS.out Z.out.toCX
      clear hHeld
      refine hK.out _ _ s3 (fun hHeld => ?_)
      clear hK K
      try simp only [Act.put, List.setIfInBounds_toArray, List.set_cons_zero, List.set_cons_succ]
      refine wpAnyH_done (by kernel_rfl) ?_ _
      go_wp2_with fail
      go_meet
      exact ⟨rfl, Z.out⟩
    · go_simp
      have Y := Lib.hid (X0.out.drew.new)
      have s2 := HS.out Y.out.toCX
      clear hHeld
      refine hK.out _ _ s2 (fun hHeld => ?_)
      clear hK K
      try simp only [Act.put, List.setIfInBounds_toArray, List.set_cons_zero, List.set_cons_succ]
      refine wpAnyH_ready (rs := [11]) (by kernel_rfl) (by simp) ?_
      refine AllReadyH.cons rfl (fun K hK => ?_) (AllReadyH.nil)
      go_simp
      refine (HN.out _ Y.out.toCX.be).mono ?_; rintro e w2 ⟨rfl, rfl⟩
      clear hHeld
      refine hK.out _ _ s2 (fun hHeld => ?_)
      clear hK K
      try simp only [Act.put, List.setIfInBounds_toArray, List.set_cons_zero, List.set_cons_succ]
      refine takeH (i := 18) (d := some 24) (v := ?_) rfl rfl (by kernel_rfl) (by kernel_rfl) (by kernel_rfl) (fun _ _ _ h => h) (Or.inl ⟨by rfl, ?_⟩) hHeld ?_
      rotate_left
      · intro w' hSw; (try dsimp only at hSw); go_simp; try with_reducible rfl
      simp only [Act.put, List.setIfInBounds_toArray, List.set_cons_zero, List.set_cons_succ]
      refine wpAnyH_ready (rs := [20]) (by kernel_rfl) (by simp) ?_
      refine AllReadyH.cons rfl (fun K hK => ?_) (AllReadyH.nil)
      rw [if_pos (by rfl)]
      refine wp_store_mid _ _ _ rfl _ _ (gc (carry1 c p)) rfl rfl (GB.there Y.out.gb) infoSeg (gc_one' _) ?_
      have Z := Lib.hid (Y.out.put (carry1 c p))
      have s3 := HS.out Z.out.toCX
      clear hHeld
      refine hK.out _ _ s3 (fun hHeld => ?_)
      clear hK K
      try simp only [Act.put, List.setIfInBounds_toArray, List.set_cons_zero, List.set_cons_succ]
      refine wpAnyH_done (by kernel_rfl) ?_ _
      go_wp2_with fail
      go_meet
      exact ⟨rfl, Z.out⟩
  obtain ⟨rfl, Z⟩ := hcut
  have Z := Lib.hid Z
  clear X0 HN HS s1
  generalize W1.heap.size = bs at *
  have HEn2 := Lib.hid HEn.out
  cases hi : c.i with
  | none =>
    obtain ⟨HC0, hv⟩ := HEn.out () hi
    have HC := Lib.hid HC0
    clear HC0
    rw [hv] at HT8 HR
    clear hi hv HEn HEs HEn2
    have p1 := Z.out.pb.c1
    obtain ⟨t8, t12⟩ := HT8.out _ Z.out.be
    have g11 := Z.out.gb.c11
    have f11 := GB.free Z.out.gb 11
    cases hs : p.syn with
    | true =>
      rw [hs] at p1
      have Y3 := Lib.hid (Z.out.set (q' := carry2 c p) 11 (.int .i64 c.told) (by unfold carry2; rw [hs]; try rfl))
      have t12' := HR.out _ Y3.out.be
      go_wp2_with (first | (refine wpList_load_mid rfl _ _ rfl _ _ rfl (gcl (carry2 c p)) _ (GB.range Y3.out.gb) HUs.out rfl infoSeg ?_) | (refine wpList_store_mid rfl _ _ _ rfl _ _ (gc (carry2 c p)) rfl rfl (GB.there Y3.out.rb) infoSeg (gc_one' _) ?_))
      exact bodyPost_ret (v := gv (carry2 c p)) (by simp [results, Try.results52, Act.put, asAddr, seg_told _ br gz0 (carry2 c p) Y3.out.rb]) rfl ⟨by rw [HC.out], by first | exact Y3.out.ret (carry2 c p) | (rw [← hbp]; exact Y3.out.ret (carry2 c p))⟩
    | false =>
      rw [hs] at p1
      have Y3 : Hid (CY w bp p br bs (carry2 c p) wc) := by have e : carry2 c p = carry1 c p := (by unfold carry2; rw [hs]; try rfl); exact e ▸ Z.out
      go_wp2_with (first | (refine wpList_load_mid rfl _ _ rfl _ _ rfl (gcl (carry2 c p)) _ (GB.range Y3.out.gb) HUs.out rfl infoSeg ?_) | (refine wpList_store_mid rfl _ _ _ rfl _ _ (gc (carry2 c p)) rfl rfl (GB.there Y3.out.rb) infoSeg (gc_one' _) ?_))
      exact bodyPost_ret (v := gv (carry2 c p)) (by simp [results, Try.results52, Act.put, asAddr, seg_told _ br gz0 (carry2 c p) Y3.out.rb]) rfl ⟨by rw [HC.out], by first | exact Y3.out.ret (carry2 c p) | (rw [← hbp]; exact Y3.out.ret (carry2 c p))⟩
  | some t =>
    obtain ⟨HC0, hv⟩ := HEs.out t hi
    have HC := Lib.hid HC0
    clear HC0
    rw [hv] at HT8 HR
    have HX := Lib.hid (HX.out t hi)
    have HWi := Lib.hid (HWi.out t hi)
    clear hi hv HEn HEs HEn2
    have p1 := Z.out.pb.c1
    obtain ⟨t8, t12⟩ := HT8.out _ Z.out.be
    have g11 := Z.out.gb.c11
    have f11 := GB.free Z.out.gb 11
    cases hs : p.syn with
    | true =>
      rw [hs] at p1
      have Y3 := Lib.hid (Z.out.set (q' := carry2 c p) 11 (.int .i64 c.told) (by unfold carry2; rw [hs]; try rfl))
      have t12' := HR.out _ Y3.out.be
      go_wp2_with fail
      refine wp_region_held_drew (S := (fun W' => W'.cell? ⟨b, 12, none⟩ = some (ptr P.pi))) (by kernel_rfl) (HR.out _ (Y3.out.keep (Below.refl _ _).drew).be) (fun hHeld => ?_)
      refine takeH (i := 0) (d := some 37) (v := ?_) rfl rfl (by kernel_rfl) (by kernel_rfl) (by kernel_rfl) (fun _ _ _ h => h) (Or.inl ⟨by rfl, ?_⟩) hHeld ?_
      rotate_left
      · intro w' hSw; (try dsimp only at hSw); go_simp; try with_reducible rfl
      simp only [Act.put, List.setIfInBounds_toArray, List.set_cons_zero, List.set_cons_succ]
      refine takeH (i := 2) (d := some 39) (v := ?_) rfl rfl (by kernel_rfl) (by kernel_rfl) (by kernel_rfl) (fun _ _ _ h => h) (Or.inl ⟨by rfl, ?_⟩) hHeld ?_
      rotate_left
      · intro w' hSw; (try dsimp only at hSw); go_simp; try with_reducible rfl
      simp only [Act.put, List.setIfInBounds_toArray, List.set_cons_zero, List.set_cons_succ]
      refine takeH (i := 3) (d := some 40) (v := ?_) rfl rfl (by kernel_rfl) (by kernel_rfl) (by kernel_rfl) (fun _ _ _ h => h) (Or.inl ⟨by rfl, ?_⟩) hHeld ?_
      rotate_left
      · intro w' hSw; (try dsimp only at hSw); go_simp; try with_reducible rfl
      simp only [Act.put, List.setIfInBounds_toArray, List.set_cons_zero, List.set_cons_succ]
      refine takeH (i := 4) (d := some 41) (v := ?_) rfl rfl (by kernel_rfl) (by kernel_rfl) (by kernel_rfl) (fun _ _ _ h => h) (Or.inl ⟨by rfl, ?_⟩) hHeld ?_
      rotate_left
      · intro w' hSw; (try dsimp only at hSw); go_simp; try with_reducible rfl
      simp only [Act.put, List.setIfInBounds_toArray, List.set_cons_zero, List.set_cons_succ]
      refine takeH (i := 5) (d := some 42) (v := ?_) rfl rfl (by kernel_rfl) (by kernel_rfl) (by kernel_rfl) (fun _ _ _ h => h) (Or.inl ⟨by rfl, ?_⟩) hHeld ?_
      rotate_left
      · intro w' hSw; (try dsimp only at hSw); have q1 := hSw; go_simp; try with_reducible rfl
      simp only [Act.put, List.setIfInBounds_toArray, List.set_cons_zero, List.set_cons_succ]
      refine takeH (i := 7) (d := some 44) (v := ?_) rfl rfl (by kernel_rfl) (by kernel_rfl) (by kernel_rfl) (fun _ _ _ h => h) (Or.inl ⟨by rfl, ?_⟩) hHeld ?_
      rotate_left
      · intro w' hSw; (try dsimp only at hSw); go_simp; try with_reducible rfl
      simp only [Act.put, List.setIfInBounds_toArray, List.set_cons_zero, List.set_cons_succ]
      refine wpAnyH_ready (rs := [1]) (by kernel_rfl) (by simp) ?_
      refine AllReadyH.cons rfl (fun K hK => ?_) (AllReadyH.nil)
      go_simp
      refine (HX.out _ (Y3.out.keep (Below.refl _ _).drew).be).mono ?_; rintro e w5 ⟨rfl, hb5⟩
      have Y5 := Lib.hid ((Y3.out.keep (Below.refl _ _).drew).keep hb5)
      have s5 := HR.out _ Y5.out.be
      clear hHeld
      refine hK.out _ _ s5 (fun hHeld => ?_)
      clear hK K
      try simp only [Act.put, List.setIfInBounds_toArray, List.set_cons_zero, List.set_cons_succ]
      refine wpAnyH_ready (rs := [6]) (by kernel_rfl) (by simp) ?_
      refine AllReadyH.cons rfl (fun K hK => ?_) (AllReadyH.nil)
      go_simp
      refine (HWi.out _ Y5.out.be).mono ?_; rintro e w6 ⟨rfl, hb6⟩
      have Y6 := Lib.hid (Y5.out.keep hb6)
      have s6' := HR.out _ Y6.out.be
      have x5 := Y6.out.gb.c7
      have y5 := GB.free Y6.out.gb 7
      clear hHeld
      refine hK.out _ _ s6' (fun hHeld => ?_)
      clear hK K
      try simp only [Act.put, List.setIfInBounds_toArray, List.set_cons_zero, List.set_cons_succ]
      refine wpAnyH_ready (rs := [8]) (by kernel_rfl) (by simp) ?_
      refine AllReadyH.cons rfl (fun K hK => ?_) (AllReadyH.nil)
      go_simp
      have Y8' := Lib.hid (Y6.out.set (q' := { carry2 c p with ack := true }) 7 (.bool true) rfl)
      have s8' := HR.out _ Y8'.out.be
      have x8 := Y8'.out.gb.c5
      have y8 := GB.free Y8'.out.gb 5
      clear hHeld
      refine hK.out _ _ s8' (fun hHeld => ?_)
      clear hK K
      try simp only [Act.put, List.setIfInBounds_toArray, List.set_cons_zero, List.set_cons_succ]
      refine takeH (i := 9) (d := some 45) (v := ?_) rfl rfl (by kernel_rfl) (by kernel_rfl) (by kernel_rfl) (fun _ _ _ h => h) (Or.inl ⟨by rfl, ?_⟩) hHeld ?_
      rotate_left
      · intro w' hSw; (try dsimp only at hSw); go_simp; try with_reducible rfl
      simp only [Act.put, List.setIfInBounds_toArray, List.set_cons_zero, List.set_cons_succ]
      refine wpAnyH_ready (rs := [10]) (by kernel_rfl) (by simp) ?_
      refine AllReadyH.cons rfl (fun K hK => ?_) (AllReadyH.nil)
      go_simp
      have Y10' := Lib.hid (Y8'.out.set (q' := { carry2 c p with ack := true, ak := c.next }) 5 (.int .u32 ((c.next : Nat) : Int)) rfl)
      have s10' := HR.out _ Y10'.out.be
      have x10 := Y10'.out.gb.c10
      have y10 := GB.free Y10'.out.gb 10
      clear hHeld
      refine hK.out _ _ s10' (fun hHeld => ?_)
      clear hK K
      try simp only [Act.put, List.setIfInBounds_toArray, List.set_cons_zero, List.set_cons_succ]
      refine takeH (i := 11) (d := some 46) (v := ?_) rfl rfl (by kernel_rfl) (by kernel_rfl) (by kernel_rfl) (fun _ _ _ h => h) (Or.inl ⟨by rfl, ?_⟩) hHeld ?_
      rotate_left
      · intro w' hSw; (try dsimp only at hSw); go_simp; try with_reducible rfl
      simp only [Act.put, List.setIfInBounds_toArray, List.set_cons_zero, List.set_cons_succ]
      refine wpAnyH_ready (rs := [12]) (by kernel_rfl) (by simp) ?_
      refine AllReadyH.cons rfl (fun K hK => ?_) (AllReadyH.nil)
      go_simp
      have Y12' := Lib.hid (Y10'.out.set (q' := { carry2 c p with ack := true, ak := c.next, win := Iq.wnd t }) 10 (.int .i64 (Iq.wnd t)) rfl)
      have s12' := HR.out _ Y12'.out.be
      clear hHeld
      refine hK.out _ _ s12' (fun hHeld => ?_)
      clear hK K
      try simp only [Act.put, List.setIfInBounds_toArray, List.set_cons_zero, List.set_cons_succ]
      refine wpAnyH_done (by kernel_rfl) ?_ _
      go_wp2_with (first | (refine wpList_load_mid rfl _ _ rfl _ _ rfl (gcl ({ carry2 c p with ack := true, ak := c.next, win := Iq.wnd t })) _ (GB.range Y12'.out.gb) HUs.out rfl infoSeg ?_) | (refine wpList_store_mid rfl _ _ _ rfl _ _ (gc ({ carry2 c p with ack := true, ak := c.next, win := Iq.wnd t })) rfl rfl (GB.there Y12'.out.rb) infoSeg (gc_one' _) ?_))
      exact bodyPost_ret (v := gv ({ carry2 c p with ack := true, ak := c.next, win := Iq.wnd t })) (by simp [results, Try.results52, Act.put, asAddr, seg_told _ br gz0 ({ carry2 c p with ack := true, ak := c.next, win := Iq.wnd t }) Y12'.out.rb]) rfl ⟨by rw [HC.out], by first | exact Y12'.out.ret ({ carry2 c p with ack := true, ak := c.next, win := Iq.wnd t }) | (rw [← hbp]; exact Y12'.out.ret ({ carry2 c p with ack := true, ak := c.next, win := Iq.wnd t }))⟩
    | false =>
      rw [hs] at p1
      have Y3 : Hid (CY w bp p br bs (carry2 c p) wc) := by have e : carry2 c p = carry1 c p := (by unfold carry2; rw [hs]; try rfl); exact e ▸ Z.out
      go_wp2_with fail
      refine wp_region_held_drew (S := (fun W' => W'.cell? ⟨b, 12, none⟩ = some (ptr P.pi))) (by kernel_rfl) (HR.out _ (Y3.out.keep (Below.refl _ _).drew).be) (fun hHeld => ?_)
      refine takeH (i := 0) (d := some 37) (v := ?_) rfl rfl (by kernel_rfl) (by kernel_rfl) (by kernel_rfl) (fun _ _ _ h => h) (Or.inl ⟨by rfl, ?_⟩) hHeld ?_
      rotate_left
      · intro w' hSw; (try dsimp only at hSw); go_simp; try with_reducible rfl
      simp only [Act.put, List.setIfInBounds_toArray, List.set_cons_zero, List.set_cons_succ]
      refine takeH (i := 2) (d := some 39) (v := ?_) rfl rfl (by kernel_rfl) (by kernel_rfl) (by kernel_rfl) (fun _ _ _ h => h) (Or.inl ⟨by rfl, ?_⟩) hHeld ?_
      rotate_left
      · intro w' hSw; (try dsimp only at hSw); go_simp; try with_reducible rfl
      simp only [Act.put, List.setIfInBounds_toArray, List.set_cons_zero, List.set_cons_succ]
      refine takeH (i := 3) (d := some 40) (v := ?_) rfl rfl (by kernel_rfl) (by kernel_rfl) (by kernel_rfl) (fun _ _ _ h => h) (Or.inl ⟨by rfl, ?_⟩) hHeld ?_
      rotate_left
      · intro w' hSw; (try dsimp only at hSw); go_simp; try with_reducible rfl
      simp only [Act.put, List.setIfInBounds_toArray, List.set_cons_zero, List.set_cons_succ]
      refine takeH (i := 4) (d := some 41) (v := ?_) rfl rfl (by kernel_rfl) (by kernel_rfl) (by kernel_rfl) (fun _ _ _ h => h) (Or.inl ⟨by rfl, ?_⟩) hHeld ?_
      rotate_left
      · intro w' hSw; (try dsimp only at hSw); go_simp; try with_reducible rfl
      simp only [Act.put, List.setIfInBounds_toArray, List.set_cons_zero, List.set_cons_succ]
      refine takeH (i := 5) (d := some 42) (v := ?_) rfl rfl (by kernel_rfl) (by kernel_rfl) (by kernel_rfl) (fun _ _ _ h => h) (Or.inl ⟨by rfl, ?_⟩) hHeld ?_
      rotate_left
      · intro w' hSw; (try dsimp only at hSw); have q1 := hSw; go_simp; try with_reducible rfl
      simp only [Act.put, List.setIfInBounds_toArray, List.set_cons_zero, List.set_cons_succ]
      refine takeH (i := 7) (d := some 44) (v := ?_) rfl rfl (by kernel_rfl) (by kernel_rfl) (by kernel_rfl) (fun _ _ _ h => h) (Or.inl ⟨by rfl, ?_⟩) hHeld ?_
      rotate_left
      · intro w' hSw; (try dsimp only at hSw); go_simp; try with_reducible rfl
      simp only [Act.put, List.setIfInBounds_toArray, List.set_cons_zero, List.set_cons_succ]
      refine wpAnyH_ready (rs := [1]) (by kernel_rfl) (by simp) ?_
      refine AllReadyH.cons rfl (fun K hK => ?_) (AllReadyH.nil)
      go_simp
      refine (HX.out _ (Y3.out.keep (Below.refl _ _).drew).be).mono ?_; rintro e w5 ⟨rfl, hb5⟩
      have Y5 := Lib.hid ((Y3.out.keep (Below.refl _ _).drew).keep hb5)
      have s5 := HR.out _ Y5.out.be
      clear hHeld
      refine hK.out _ _ s5 (fun hHeld => ?_)
      clear hK K
      try simp only [Act.put, List.setIfInBounds_toArray, List.set_cons_zero, List.set_cons_succ]
      refine wpAnyH_ready (rs := [6]) (by kernel_rfl) (by simp) ?_
      refine AllReadyH.cons rfl (fun K hK => ?_) (AllReadyH.nil)
      go_simp
      refine (HWi.out _ Y5.out.be).mono ?_; rintro e w6 ⟨rfl, hb6⟩
      have Y6 := Lib.hid (Y5.out.keep hb6)
      have s6' := HR.out _ Y6.out.be
      have x5 := Y6.out.gb.c7
      have y5 := GB.free Y6.out.gb 7
      clear hHeld
      refine hK.out _ _ s6' (fun hHeld => ?_)
      clear hK K
      try simp only [Act.put, List.setIfInBounds_toArray, List.set_cons_zero, List.set_cons_succ]
      refine wpAnyH_ready (rs := [8]) (by kernel_rfl) (by simp) ?_
      refine AllReadyH.cons rfl (fun K hK => ?_) (AllReadyH.nil)
      go_simp
      have Y8' := Lib.hid (Y6.out.set (q' := { carry2 c p with ack := true }) 7 (.bool true) rfl)
      have s8' := HR.out _ Y8'.out.be
      have x8 := Y8'.out.gb.c5
      have y8 := GB.free Y8'.out.gb 5
      clear hHeld
      refine hK.out _ _ s8' (fun hHeld => ?_)
      clear hK K
      try simp only [Act.put, List.setIfInBounds_toArray, List.set_cons_zero, List.set_cons_succ]
      refine takeH (i := 9) (d := some 45) (v := ?_) rfl rfl (by kernel_rfl) (by kernel_rfl) (by kernel_rfl) (fun _ _ _ h => h) (Or.inl ⟨by rfl, ?_⟩) hHeld ?_
      rotate_left
      · intro w' hSw; (try dsimp only at hSw); go_simp; try with_reducible rfl
      simp only [Act.put, List.setIfInBounds_toArray, List.set_cons_zero, List.set_cons_succ]
      refine wpAnyH_ready (rs := [10]) (by kernel_rfl) (by simp) ?_
      refine AllReadyH.cons rfl (fun K hK => ?_) (AllReadyH.nil)
      go_simp
      have Y10' := Lib.hid (Y8'.out.set (q' := { carry2 c p with ack := true, ak := c.next }) 5 (.int .u32 ((c.next : Nat) : Int)) rfl)
      have s10' := HR.out _ Y10'.out.be
      have x10 := Y10'.out.gb.c10
      have y10 := GB.free Y10'.out.gb 10
      clear hHeld
      refine hK.out _ _ s10' (fun hHeld => ?_)
      clear hK K
      try simp only [Act.put, List.setIfInBounds_toArray, List.set_cons_zero, List.set_cons_succ]
      refine takeH (i := 11) (d := some 46) (v := ?_) rfl rfl (by kernel_rfl) (by kernel_rfl) (by kernel_rfl) (fun _ _ _ h => h) (Or.inl ⟨by rfl, ?_⟩) hHeld ?_
      rotate_left
      · intro w' hSw; (try dsimp only at hSw); go_simp; try with_reducible rfl
      simp only [Act.put, List.setIfInBounds_toArray, List.set_cons_zero, List.set_cons_succ]
      refine wpAnyH_ready (rs := [12]) (by kernel_rfl) (by simp) ?_
      refine AllReadyH.cons rfl (fun K hK => ?_) (AllReadyH.nil)
      go_simp
      have Y12' := Lib.hid (Y10'.out.set (q' := { carry2 c p with ack := true, ak := c.next, win := Iq.wnd t }) 10 (.int .i64 (Iq.wnd t)) rfl)
      have s12' := HR.out _ Y12'.out.be
      clear hHeld
      refine hK.out _ _ s12' (fun hHeld => ?_)
      clear hK K
      try simp only [Act.put, List.setIfInBounds_toArray, List.set_cons_zero, List.set_cons_succ]
      refine wpAnyH_done (by kernel_rfl) ?_ _
      go_wp2_with (first | (refine wpList_load_mid rfl _ _ rfl _ _ rfl (gcl ({ carry2 c p with ack := true, ak := c.next, win := Iq.wnd t })) _ (GB.range Y12'.out.gb) HUs.out rfl infoSeg ?_) | (refine wpList_store_mid rfl _ _ _ rfl _ _ (gc ({ carry2 c p with ack := true, ak := c.next, win := Iq.wnd t })) rfl rfl (GB.there Y12'.out.rb) infoSeg (gc_one' _) ?_))
      exact bodyPost_ret (v := gv ({ carry2 c p with ack := true, ak := c.next, win := Iq.wnd t })) (by simp [results, Try.results52, Act.put, asAddr, seg_told _ br gz0 ({ carry2 c p with ack := true, ak := c.next, win := Iq.wnd t }) Y12'.out.rb]) rfl ⟨by rw [HC.out], by first | exact Y12'.out.ret ({ carry2 c p with ack := true, ak := c.next, win := Iq.wnd t }) | (rw [← hbp]; exact Y12'.out.ret ({ carry2 c p with ack := true, ak := c.next, win := Iq.wnd t }))⟩
end
end
end Go.Proofs.Ytnhcjefbiihfjaa
