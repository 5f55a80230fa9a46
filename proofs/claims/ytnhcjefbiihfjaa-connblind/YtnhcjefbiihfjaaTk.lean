/-
  Contracts of Dial, Take (package conn).
-/
import Derived.Test.YtnhcjefbiihfjaaDi
import Derived.Deep.CutBlock
namespace Go.Proofs.Ytnhcjefbiihfjaa
open Go.RowKit
open Tc (Sg gchk gv gc)
set_option linter.unusedVariables false
set_option linter.unusedSimpArgs false
section
variable {w W : World} {l r : Nat × Int} {iss : Nat} {mss : Int}
theorem dial_ok (hl : 1 ≤ l.2 ∧ l.2 ≤ 65535) (hr : 1 ≤ r.2 ∧ r.2 ≤ 65535) (hm : 8 ≤ mss ∧ mss ≤ 1000) :
    Calls Try.prog 5 #[ev l, ev r, .int .u32 (iss : Int), .int .i64 mss] w fun e w' => ∃ b P, e = .returned (.tuple #[ptr b, .int .i64 0]) ∧ CT b (Cn.fresh l.1 l.2 r.1 r.2 iss mss) P w' ∧ Below w.heap.size w w' ∧ ∀ x ∈ fp b P, w.heap.size ≤ x := by
  have HB := Lib.hid (w2_b w l r)
  have x1 : (w2 w l r).cell? ⟨w.heap.size, 0, none⟩ = some (.int .u32 (l.1 : Int)) := (w2_l w l r).c0
  have x2 : (w2 w l r).cell? ⟨w.heap.size, 1, none⟩ = some (.int .i64 l.2) := (w2_l w l r).c1
  have x3 : (w2 w l r).cell? ⟨w.heap.size + 1, 0, none⟩ = some (.int .u32 (r.1 : Int)) := (w2_r w l r).c0
  have x4 : (w2 w l r).cell? ⟨w.heap.size + 1, 1, none⟩ = some (.int .i64 r.2) := (w2_r w l r).c1
  have HP : Hid (∀ W, Calls Try.prog 19 #[.int .i64 r.2] W fun e w' => e = .returned (.bool true) ∧ w' = W) := fun W => by have := cport_any r.2 W; rwa [decide_eq_true hr] at this
  have HG : Hid (Calls Try.prog 20 #[ev l, ev r, .int .u32 (iss : Int), .int .i64 mss] (w2 w l r) fun e w' => ∃ b P, e = .returned (.tuple #[ptr b, .int .i64 0]) ∧ CT b (Cn.fresh l.1 l.2 r.1 r.2 iss mss) P w' ∧ Below w.heap.size w w' ∧ ∀ x ∈ fp b P, w.heap.size ≤ x) := (begin_ok hl hm).mono fun e w' ⟨b, P, h1, h2, h3, h4⟩ => by
    have hs := w2_size w l r
    exact ⟨b, P, h1, h2, below_trans HB.out (h3.mono (by omega)), fun x hx => by have := h4 x hx; omega⟩
  clear hl hr hm
  go_enter Try.func5, Try.ntmps5
  go_wp2_with fail
  refine (HP.out _).mono ?_; rintro e w3 ⟨rfl, rfl⟩
  go_wp2_with fail
  refine HG.out.mono ?_; rintro e w4 ⟨b, P, rfl, h1, h2, h3⟩
  have H1 := Lib.hid h1
  have H2 := Lib.hid h2
  have H3 := Lib.hid h3
  clear h1 h2 h3 x1 x2 x3 x4
  go_wp2_with fail
  go_ret2
  exact ⟨_, _, rfl, H1.out, H2.out, H3.out⟩
theorem dial_bad (h : ¬ (1 ≤ l.2 ∧ l.2 ≤ 65535) ∨ ¬ (1 ≤ r.2 ∧ r.2 ≤ 65535) ∨ mss < 8 ∨ 1000 < mss) :
    Calls Try.prog 5 #[ev l, ev r, .int .u32 (iss : Int), .int .i64 mss] w fun e w' => e = .returned (.tuple #[.pointer none, .int .i64 1]) ∧ Below w.heap.size w w' := by
  have HB := Lib.hid (w2_b w l r)
  have x1 : (w2 w l r).cell? ⟨w.heap.size, 0, none⟩ = some (.int .u32 (l.1 : Int)) := (w2_l w l r).c0
  have x2 : (w2 w l r).cell? ⟨w.heap.size, 1, none⟩ = some (.int .i64 l.2) := (w2_l w l r).c1
  have x3 : (w2 w l r).cell? ⟨w.heap.size + 1, 0, none⟩ = some (.int .u32 (r.1 : Int)) := (w2_r w l r).c0
  have x4 : (w2 w l r).cell? ⟨w.heap.size + 1, 1, none⟩ = some (.int .i64 r.2) := (w2_r w l r).c1
  have HP0 := cport_any r.2 (w2 w l r)
  by_cases hr : 1 ≤ r.2 ∧ r.2 ≤ 65535
  · have HG : Hid (Calls Try.prog 20 #[ev l, ev r, .int .u32 (iss : Int), .int .i64 mss] (w2 w l r) fun e w' => e = .returned (.tuple #[.pointer none, .int .i64 1]) ∧ Below w.heap.size w w') := (begin_bad (by rcases h with h | h | h; exact Or.inl h; exact absurd hr h; exact Or.inr h)).mono fun e w' ⟨h1, h2⟩ => by
      have hs := w2_size w l r
      exact ⟨h1, below_trans HB.out (h2.mono (by omega))⟩
    rw [decide_eq_true hr] at HP0
    have HP := Lib.hid HP0
    clear h hr HP0
    go_enter Try.func5, Try.ntmps5
    go_wp2_with fail
    refine HP.out.mono ?_; rintro e w3 ⟨rfl, rfl⟩
    go_wp2_with fail
    refine HG.out.mono ?_; rintro e w4 ⟨rfl, h2⟩
    have H2 := Lib.hid h2
    clear h2 x1 x2 x3 x4
    go_wp2_with fail
    go_ret2
    exact ⟨rfl, H2.out⟩
  · rw [decide_eq_false hr] at HP0
    have HP := Lib.hid HP0
    clear h hr HP0
    go_enter Try.func5, Try.ntmps5
    go_wp2_with fail
    refine HP.out.mono ?_; rintro e w3 ⟨rfl, rfl⟩
    go_wp2_with fail
    go_ret2
    exact ⟨rfl, HB.out⟩
end
/-! Take. -/
def takeE (l : Nat × Int) (g : Sg) (mss : Int) : Int := if ¬ (1 ≤ l.2 ∧ l.2 ≤ 65535) ∨ mss < 8 ∨ 1000 < mss then 1 else if gchk g ≠ 0 then gchk g else if ¬ (g.da = l.1 ∧ g.dp = l.2) then 6 else if g.syn = false ∨ g.ack = true then 10 else 0
def takeC (l : Nat × Int) (g : Sg) (iss : Nat) (mss : Int) : Cn := { (Cn.fresh l.1 l.2 g.sa g.sp iss mss).meet g with st := 2 }
def w3 (w : World) (l : Nat × Int) (g : Sg) : World := (w.alloc (.cells (ecs l) 24)).alloc (.cells (gc g) 35)
theorem w3_size (w : World) (l : Nat × Int) (g : Sg) : (w3 w l g).heap.size = w.heap.size + 2 := by unfold w3; simp
theorem w3_l (w : World) (l : Nat × Int) (g : Sg) : EB w.heap.size l (w3 w l g) := (Below.heap_alloc _ _ _ (by simp)).trans (heap_alloc_new w _)
theorem w3_g (w : World) (l : Nat × Int) (g : Sg) : Tc.GB (w.heap.size + 1) g (w3 w l g) := by
  have := heap_alloc_new (w.alloc (.cells (ecs l) 24)) (.cells (gc g) 35)
  simpa [Tc.GB, w3] using this
theorem w3_b (w : World) (l : Nat × Int) (g : Sg) : Below w.heap.size w (w3 w l g) := ((Below.refl _ _).alloc (Nat.le_refl _) _).alloc (by simp) _
/-- While Take goes on. -/
structure TX (w : World) (l : Nat × Int) (g : Sg) (W : World) : Prop where
  be : Below w.heap.size w W
  el : EB w.heap.size l W
  gb : Tc.GB (w.heap.size + 1) g W
section
variable {w W W' : World} {l : Nat × Int} {g : Sg} {iss : Nat} {mss : Int}
theorem TX.new (w : World) (l : Nat × Int) (g : Sg) : TX w l g (w3 w l g) := ⟨w3_b w l g, w3_l w l g, w3_g w l g⟩
theorem TX.keep (h : TX w l g W) (hb : Below W.heap.size W W') : TX w l g W' := ⟨below_trans h.be hb, h.el.keep hb, h.gb.keep hb⟩
theorem take_args (h : ¬ (1 ≤ l.2 ∧ l.2 ≤ 65535) ∨ mss < 8 ∨ 1000 < mss) :
    Calls Try.prog 35 #[ev l, gv g, .int .u32 (iss : Int), .int .i64 mss] w fun e w' => e = .returned (.tuple #[.pointer none, .int .i64 1]) ∧ Below w.heap.size w w' := by
  have HX := Lib.hid (TX.new w l g)
  have x1 := (w3_l w l g).c0
  have x2 := (w3_l w l g).c1
  have x3 := (w3_g w l g).c0
  have x4 := (w3_g w l g).c1
  have HG : Hid (Calls Try.prog 20 #[ev l, ev (g.sa, g.sp), .int .u32 (iss : Int), .int .i64 mss] (w3 w l g) fun e w' => e = .returned (.tuple #[.pointer none, .int .i64 1]) ∧ TX w l g w') := (begin_bad h).mono fun e w' ⟨h1, h2⟩ => ⟨h1, HX.out.keep h2⟩
  clear h HX
  go_enter Try.func35, Try.ntmps35
  go_wp2_with fail
  refine HG.out.mono ?_; rintro e w1 ⟨rfl, h2⟩
  have H2 := Lib.hid h2
  clear h2 x1 x2 x3 x4
  go_wp2_with fail
  go_ret2
  exact ⟨rfl, H2.out.be⟩
set_option maxRecDepth 100000 in
set_option maxHeartbeats 2000000 in
theorem take_any (hl : 1 ≤ l.2 ∧ l.2 ≤ 65535) (hm : 8 ≤ mss ∧ mss ≤ 1000) (hs : SOk g) (h1 : l.1 < 4294967296) (h2 : iss < 4294967296) :
    Calls Try.prog 35 #[ev l, gv g, .int .u32 (iss : Int), .int .i64 mss] w fun e w' => Below w.heap.size w w' ∧ (takeE l g mss ≠ 0 → e = .returned (.tuple #[.pointer none, .int .i64 (takeE l g mss)])) ∧ (takeE l g mss = 0 → ∃ b P, e = .returned (.tuple #[ptr b, .int .i64 0]) ∧ CT b (takeC l g iss mss) P w' ∧ ∀ x ∈ fp b P, w.heap.size ≤ x) := by
  have HX := Lib.hid (TX.new w l g)
  have x1 := (w3_l w l g).c0
  have x2 := (w3_l w l g).c1
  have x3 := (w3_g w l g).c0
  have x4 := (w3_g w l g).c1
  have HG : Hid (Calls Try.prog 20 #[ev l, ev (g.sa, g.sp), .int .u32 (iss : Int), .int .i64 mss] (w3 w l g) fun e w' => ∃ b P, e = .returned (.tuple #[ptr b, .int .i64 0]) ∧ CT b (Cn.fresh l.1 l.2 g.sa g.sp iss mss) P w' ∧ TX w l g w' ∧ ∀ x ∈ fp b P, w.heap.size + 2 ≤ x) := (begin_ok hl hm).mono fun e w' ⟨b, P, h1, h2, h3, h4⟩ => ⟨b, P, h1, h2, HX.out.keep h3, fun x hx => by have := h4 x hx; rwa [w3_size] at this⟩
  have HC : Hid (∀ W, Calls Try.prog 29 #[gv g] W fun e w' => e = .returned (.int .i64 (gchk g)) ∧ Below W.heap.size W w') := fun W => Tc.gchk_any g W
  have HA : Hid (∀ _ : Unit, ¬ (¬ (1 ≤ l.2 ∧ l.2 ≤ 65535) ∨ mss < 8 ∨ 1000 < mss)) := fun _ => by omega
  have HE : Hid (takeE l g mss = if gchk g ≠ 0 then gchk g else if ¬ (g.da = l.1 ∧ g.dp = l.2) then 6 else if g.syn = false ∨ g.ack = true then 10 else 0) := by
    show _ = _; unfold takeE; rw [if_neg (by omega)]
  have HM : Hid (∀ b P W, gchk g = 0 → CT b (Cn.fresh l.1 l.2 g.sa g.sp iss mss) P W → (∀ x ∈ fp b P, w.heap.size + 2 ≤ x) → Below w.heap.size w W → Calls Try.prog 55 #[ptr b, gv g] W fun e w' => e = .returned (.tuple #[]) ∧ ∃ P', CT b ((Cn.fresh l.1 l.2 g.sa g.sp iss mss).meet g) P' w' ∧ Below w.heap.size w w' ∧ ∀ x ∈ fp b P', w.heap.size ≤ x) := fun b P W hg hc hf hb => by
    obtain ⟨_, _, hp1, hp2, _⟩ := Tc.gchk_ok hg
    have hp3 := Tc.gchk_ok hg
    refine (meet_any g hc (COk.fresh h1 hs.sa h2 hl ⟨hp3.1, hp3.2.1⟩ hm) hg).mono fun e w' ⟨e1, P', e2, e3⟩ => ⟨e1, P', e2, hb.trans (e3.kp.below hb.size fun k hk => ?_), fun x hx => ?_⟩
    · have := hf k hk; omega
    · have := hb.size
      rcases e3.fr x hx with e | e
      · have := hf x e; omega
      · omega
  have HUs := Lib.hid Try.underlying35
  clear HX hm hl h1 h2 hs
  generalize takeE l g mss = E at *
  go_enter Try.func35, Try.ntmps35
  go_wp2_with fail
  refine HG.out.mono ?_; rintro e w1 ⟨b, P, rfl, hc1, hx1, hf1⟩
  have C1 := Lib.hid hc1
  have X1 := Lib.hid hx1
  have F1 := Lib.hid hf1
  clear hc1 hx1 hf1 x1 x2 x3 x4 HG
  go_wp2_with (refine wpList_load_mid rfl 35 _ rfl _ _ rfl (gcl g) _ (GB.range X1.out.gb) HUs.out rfl infoSeg ?_)
  refine (HC.out _).mono ?_; rintro e w4 ⟨rfl, hb4⟩
  have C4 := Lib.hid (C1.out.keep hb4)
  have X4 := Lib.hid (X1.out.keep hb4)
  clear hb4 C1 X1 HC
  by_cases hg : gchk g = 0
  · have HG2 := Lib.hid hg
    rw [hg]
    have a0 := X4.out.gb.c2
    have a1 := X4.out.gb.c3
    have a2 := X4.out.el.c0
    have a3 := X4.out.el.c1
    have a4 := X4.out.gb.c6
    have a5 := X4.out.gb.c7
    have HE0 := HE.out
    rw [if_neg (by rw [hg]; decide)] at HE0
    clear hg HE
    by_cases hd : g.da = l.1 ∧ g.dp = l.2
    · rw [if_neg (fun e => e hd)] at HE0
      have e3 : ((g.da : Int) == (l.1 : Int)) = true := by rw [beq_iff_eq]; omega
      have e4 : (g.dp == l.2) = true := by rw [beq_iff_eq]; omega
      clear hd
      cases hy : g.syn with
      | false =>
        rw [hy] at a4 HE0
        rw [if_pos (Or.inl rfl)] at HE0
        have HE := Lib.hid HE0
        clear HE0 hy HM
        go_wp2_with fail
        go_ret2
        exact ⟨X4.out.be, fun _ => by rw [HE.out]; rfl, fun e => absurd (HE.out.symm.trans e) (by decide)⟩
      | true =>
        cases hk : g.ack with
        | true =>
          rw [hy] at a4 HE0
          rw [hk] at a5 HE0
          rw [if_pos (Or.inr rfl)] at HE0
          have HE := Lib.hid HE0
          clear HE0 hy hk HM
          go_wp2_with fail
          go_ret2
          exact ⟨X4.out.be, fun _ => by rw [HE.out]; rfl, fun e => absurd (HE.out.symm.trans e) (by decide)⟩
        | false =>
          rw [hy] at a4 HE0
          rw [hk] at a5 HE0
          rw [if_neg (by simp)] at HE0
          have HE := Lib.hid HE0
          have HTC : Hid (takeC l g iss mss = { (Cn.fresh l.1 l.2 g.sa g.sp iss mss).meet g with st := 2 }) := rfl
          have HM2 := Lib.hid (HM.out b P w4 HG2.out C4.out F1.out X4.out.be)
          clear HE0 hy hk HM
          go_wp2_with (refine wpList_load_mid rfl 35 _ rfl _ _ rfl (gcl g) _ (GB.range X4.out.gb) HUs.out rfl infoSeg ?_)
          refine HM2.out.mono ?_; rintro e w5 ⟨rfl, P', hc5, hb5, hf5⟩
          have y6 := hc5.c6
          have z6 := hc5.free 6
          have C5 := Lib.hid (hc5.s6 2)
          have F5 := Lib.hid hf5
          have B5 := Lib.hid (hb5.setCell (p := ⟨b, 6, none⟩) (by exact hf5 b (by simp [fp])) (.int .i64 2))
          clear hc5 hf5 hb5
          go_wp2_with fail
          go_ret2
          exact ⟨B5.out, fun e => absurd HE.out e, fun _ => ⟨_, _, rfl, by rw [HTC.out]; exact C5.out, F5.out⟩⟩
    · rw [if_pos hd] at HE0
      have HE := Lib.hid HE0
      clear HE0 HM
      by_cases h3 : g.da = l.1
      · have e3 : ((g.da : Int) == (l.1 : Int)) = true := by rw [beq_iff_eq]; omega
        have e4 : (g.dp == l.2) = false := by rw [beq_eq_false_iff_ne]; exact fun e => hd ⟨h3, e⟩
        clear hd h3
        go_wp2_with fail
        go_ret2
        exact ⟨X4.out.be, fun _ => by rw [HE.out]; rfl, fun e => absurd (HE.out.symm.trans e) (by decide)⟩
      · have e3 : ((g.da : Int) == (l.1 : Int)) = false := by rw [beq_eq_false_iff_ne]; omega
        clear hd h3
        go_wp2_with fail
        go_ret2
        exact ⟨X4.out.be, fun _ => by rw [HE.out]; rfl, fun e => absurd (HE.out.symm.trans e) (by decide)⟩
  · have HE0 := HE.out
    rw [if_pos hg] at HE0
    have HE := Lib.hid HE0
    have hn : (gchk g != 0) = true := by simpa using hg
    have HN := Lib.hid hg
    clear HE0 HM hg
    generalize gchk g = E1 at *
    go_wp2_with fail
    go_ret2
    exact ⟨X4.out.be, fun _ => by rw [HE.out]; rfl, fun e => absurd (HE.out.symm.trans e) HN.out⟩
end
end Go.Proofs.Ytnhcjefbiihfjaa
