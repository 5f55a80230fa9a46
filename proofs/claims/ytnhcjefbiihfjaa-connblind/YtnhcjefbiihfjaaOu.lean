/-
  Contract of Out (package conn).
-/
import Derived.Test.YtnhcjefbiihfjaaCz
import Derived.Deep.CutBlock
namespace Go.Proofs.Ytnhcjefbiihfjaa
open Go.RowKit
open Tc (Sg gchk gv gc)
set_option linter.unusedVariables false
set_option linter.unusedSimpArgs false
section
variable {b k : Nat} {c : Cn} {P : Pt} {w : World}
theorem pieces_len (lim : Int) : ∀ (f : Nat) (c : Cn) (l : List Sg), (Cn.pieces lim f c l).1.length ≤ l.length + f
  | 0, c, l => Nat.le_refl _
  | f + 1, c, l => by
    unfold Cn.pieces
    split
    · have := pieces_len lim f (c.piece lim) (l ++ [(c.piece lim).carry (Oq.nxP c.o lim c.mss)])
      simp at this; omega
    · show l.length ≤ _; omega
theorem outP_len (ok : COk k c) : c.outP.1.length ≤ 3000 := by
  have h1 := pieces_len c.limit c.left { c with again := false } c.firsts
  have h2 := left_le ok
  have h3 := firsts_le c
  have h4 : c.outs.1.length ≤ 2052 := by unfold Cn.outs; omega
  by_cases h : c.outs.1 = [] ∧ c.outs.2.ack = true
  · rw [outP_ack h]; simp
  · rw [outP_no h]; show c.outs.1.length ≤ 3000; omega
theorem outL_0 (h : c.st = 0) : c.outL = c.rst.map c.rstSg ∧ c.outC = ({ c with rst := [] } : Cn).look := by
  unfold Cn.outL Cn.outC
  rw [if_pos h, if_pos h, List.append_nil]; exact ⟨rfl, rfl⟩
theorem outL_1 (h : ¬ c.st = 0) : c.outL = c.rst.map c.rstSg ++ (Cn.outP { c with rst := [] }).1 ∧ c.outC = (Cn.outP { c with rst := [] }).2.look := by
  unfold Cn.outL Cn.outC
  rw [if_neg h, if_neg h]; exact ⟨rfl, rfl⟩
theorem outP_ok (ok : COk k c) (hk : Few k) : COk k c.outP.2 := by
  unfold Cn.outP Cn.outs
  dsimp only
  have h1 : COk k { c with again := false } := { ok with }
  have h2 := COk.pieces hk c.limit c.left _ c.firsts h1
  exact { h2 with }
set_option maxRecDepth 100000 in
set_option maxHeartbeats 2000000 in
theorem out_any (h : CT b c P w) (ok : COk k c) (hk : Few k) :
    Calls Try.prog 12 #[ptr b] w fun e w' => ∃ v, e = .returned v ∧ SRow w' w.heap.size v c.outL ∧ ∃ P', CT b c.outC P' w' ∧ Up b P P' w w' := by
  obtain ⟨i0, hi0, hz0, hz1, hz2⟩ := info_parts info_seg
  have ok1 : COk k { c with rst := [] } := { ok with rs := Nat.zero_le _, rn := fun n hn => by cases hn }
  have HR := Lib.hid (takeRsts_any h ok hk)
  have HP : Hid (∀ P1 W, CT b { c with rst := [] } P1 W → Calls Try.prog 28 #[ptr b] W fun e w' => ∃ v, e = .returned v ∧ LQ W b (Cn.outP { c with rst := [] }).2 P1 v (Cn.outP { c with rst := [] }).1 w') := fun P1 W h' => takePieces_any h' ok1 hk
  have HL1 : Hid (∀ P1 W, CT b (Cn.outP { c with rst := [] }).2 P1 W → Calls Try.prog 24 #[ptr b] W fun e w' => e = .returned (.tuple #[]) ∧ CT b (Cn.outP { c with rst := [] }).2.look P1 w' ∧ Up b P1 P1 W w') := fun P1 W h' => look_any h' (outP_ok ok1 hk) hk
  have HL0 : Hid (∀ P1 W, CT b { c with rst := [] } P1 W → Calls Try.prog 24 #[ptr b] W fun e w' => e = .returned (.tuple #[]) ∧ CT b ({ c with rst := [] } : Cn).look P1 w' ∧ Up b P1 P1 W w') := fun P1 W h' => look_any h' ok1 hk
  have hlen := outP_len ok1
  have hrl : (c.rst.map c.rstSg).length ≤ k := by rw [List.length_map]; exact ok.rs
  have h6 : ∀ P1 W, CT b { c with rst := [] } P1 W → W.cell? ⟨b, 6, none⟩ = some (.int .i64 c.st) := fun P1 W h' => h'.c6
  unfold Few at hk
  by_cases h0 : c.st = 0
  · obtain ⟨e1, e2⟩ := outL_0 h0
    have E1 := Lib.hid e1
    have E2 := Lib.hid e2
    have d0 : (c.st != 0) = false := by simp [h0]
    clear h ok ok1 h0 e1 e2 HP HL1
    go_enter Try.func12, Try.ntmps12
    go_wp2_with fail
    refine HR.out.mono ?_; rintro e w1 ⟨v1, rfl, r1, t1, u1⟩
    have R1 := Lib.hid r1
    have T1 := Lib.hid t1
    have U1 := Lib.hid u1
    have x6 := h6 _ _ t1
    clear r1 t1 u1
    go_wp2_with fail
    refine (HL0.out _ _ T1.out).mono ?_; rintro e w2 ⟨rfl, t2, u2⟩
    have T2 := Lib.hid t2
    have U2 := Lib.hid u2
    clear t2 u2
    go_wp2_with fail
    go_ret
    exact ⟨_, rfl, by rw [E1.out]; exact R1.out.up T1.out U2.out, _, by rw [E2.out]; exact T2.out, U1.out.trans U2.out⟩
  · obtain ⟨e1, e2⟩ := outL_1 h0
    have E1 := Lib.hid e1
    have E2 := Lib.hid e2
    have d0 : (c.st != 0) = true := by simp [h0]
    clear h ok ok1 h0 e1 e2 HL0
    generalize (c.rst.map c.rstSg) = l1 at *
    go_enter Try.func12, Try.ntmps12
    go_wp2_with fail
    refine HR.out.mono ?_; rintro e w1 ⟨v1, rfl, r1, t1, u1⟩
    have R1 := Lib.hid r1
    have T1 := Lib.hid t1
    have U1 := Lib.hid u1
    have x6 := h6 _ _ t1
    clear r1 t1 u1
    go_wp2_with fail
    refine (HP.out _ _ T1.out).mono ?_; rintro e w2 ⟨v2, rfl, l2⟩
    obtain ⟨o, m, hv, hc2, hon, _⟩ := own_form l2.row
    subst hv
    have hsrc := (own_src l2.row (scells_one _))
    have S2 := Lib.hid hsrc.1
    have N2 := Lib.hid hsrc.2
    have L2 := Lib.hid l2
    have R2 := Lib.hid (R1.out.up T1.out l2.up)
    have hs2 := Nat.le_trans U1.out.kp.size l2.up.kp.size
    have HG : Hid (∀ v' w', w'.ownsRow w.heap.size 35 13 v' (l1.length + (Cn.outP { c with rst := [] }).1.length) (scells l1 ++ scells (Cn.outP { c with rst := [] }).1) → w2.grownBy w' v1.ownBlock → SRow w' w.heap.size v' (l1 ++ (Cn.outP { c with rst := [] }).1) ∧ CT b (Cn.outP { c with rst := [] }).2 { P with rv := .slice none 0 0 } w' ∧ Up b P { P with rv := .slice none 0 0 } w w') := fun v' w' own hg => by
      have hk : Kp v1.ownBlock.toList w2 w' := ⟨hg.os, hg.tape, hg.output, hg.size, fun k hk hn => hg.block k hk (fun e => hn (by rw [← e]; simp))⟩
      have u := U1.out.trans L2.out.up
      refine ⟨?_, L2.out.ct.kp hk fun x hx hm => ?_, ⟨u.kp.trans hk fun x hx => Or.inr (R2.out.lt x (by simpa using hx)).1, u.fr⟩⟩
      · unfold SRow; rw [scells_append, List.length_append]; exact own
      · obtain ⟨cur, hh⟩ := R2.out.blk (show v1.ownBlock = some x by simpa using hm)
        exact L2.out.ct.no_seg hh hx
    clear l2 hsrc h6
    go_wp2_with (at_builtin; refine wpList_src _ rfl _ _ 48 rfl w.heap.size 35 i0 _ 13 80 Try.underlying48 hi0 hz0 hz1 hz2 rfl (by decide) v1 o l1.length (Cn.outP { c with rst := [] }).1.length m (scells l1) (scells (Cn.outP { c with rst := [] }).1) rfl rfl R2.out S2.out N2.out (by unfold maxLen; omega) (by omega) hs2 ?_; intro v3 w3 own3 hgrow hob; obtain ⟨r3, t3, u3⟩ := HG.out _ _ own3 hgrow; have R3 := Lib.hid r3; have T3 := Lib.hid t3; have U3 := Lib.hid u3; clear r3 t3 u3)
    refine (HL1.out _ _ T3.out).mono ?_; rintro e w4 ⟨rfl, t4, u4⟩
    have T4 := Lib.hid t4
    have U4 := Lib.hid u4
    clear t4 u4
    go_wp2_with fail
    go_ret
    exact ⟨_, rfl, by rw [E1.out]; exact R3.out.up T3.out U4.out, _, by rw [E2.out]; exact T4.out, U3.out.trans U4.out⟩
end
end Go.Proofs.Ytnhcjefbiihfjaa
