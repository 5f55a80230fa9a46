/-
  Contract of add (package frag): a fragment is put to what has come.
-/
import Derived.Test.YtfnmcnbiahfnfaaGb
import Derived.BigRegion
import Derived.Deep.RegionWith
import Derived.Test.YtfnmcnbiahfnfaaEq
namespace Go.Proofs.Ytfnmcnbiahfnfaa
open Go.RowKit
set_option linter.unusedVariables false
set_option linter.unusedSimpArgs false

/-- How many of p's first n bytes are new. -/
def gnew (g : Gm) (o n : Nat) : Nat := ((List.range n).filter fun j => !g.there (o + j)).length
theorem gnew_succ (g : Gm) (o n : Nat) : gnew g o (n + 1) = gnew g o n + if g.there (o + n) then 0 else 1 := by
  unfold gnew
  rw [List.range_succ, List.filter_append, List.length_append]
  cases h : g.there (o + n) <;> simp [List.filter_cons, h]
theorem gnew_le (g : Gm) (o n : Nat) : gnew g o n ≤ n := by
  unfold gnew
  have := List.length_filter_le (fun j => !g.there (o + j)) (List.range n)
  rwa [List.length_range] at this
/-- What is there when the first k of n bytes from o on have been marked. -/
def gmark (g : Gm) (o k : Nat) : Gm := { g with there := fun i => g.there i || decide (o ≤ i ∧ i < o + k), many := g.many + gnew g o k }
/-- The first fragment with byte 0 tells these. -/
def ghead (g : Gm) (p : Pk) : Gm := if p.off = 0 ∧ g.there 0 = false then { g with dont := p.dont, ttl := p.ttl } else g
/-- p, put to it. -/
def gadd (g : Gm) (p : Pk) : Gm :=
  let h := gmark { ghead g p with bytes := bput g.bytes (p.off.toNat * 8) p.body } (p.off.toNat * 8) p.body.size
  { h with reach := max g.reach (p.off.toNat * 8 + p.body.size), closed := g.closed || !p.more }

theorem sliceArr (b o : Nat) (h : o * 8 ≤ 4000) (w : World) : (Instr.sliceAt 76 (.pointer (some ⟨b, 1, none⟩)) (some (.int .i64 ((o : Int) * 8))) none none).run Try.prog w = .ok (.slice (some (if o * 8 = 4000 then ⟨b, 1, none⟩ else ⟨b, 1 + o * 8, none⟩)) (4000 - o * 8) (4000 - o * 8)) w := by
  have hs : (sizeOf 5).run Try.prog w = .ok 1 w := by kernel_rfl
  have ha : Try.prog.arrayLen 76 = 4000 := by kernel_rfl
  have he : Try.prog.elem 76 = 5 := by kernel_rfl
  have h0 : (0 : Int) ≤ (o : Int) * 8 := by omega
  have h1 : (o : Int) * 8 ≤ 4000 := by omega
  have e := run_sliceAt_array_l (P := Try.prog) w 76 ⟨b, 1, none⟩ (by rw [ha, he]; exact Try.underlying76) .i64 ((o : Int) * 8) h0 (by rw [ha]; exact h1)
  rw [e, he, hs, ha]
  have e2 : ((o : Int) * 8).toNat = o * 8 := by omega
  simp only [Result.andThen, slicedAt, e2, Nat.mul_one, Addr.add_mid]
  by_cases hc : o * 8 = 4000
  · rw [if_pos hc.symm, if_pos hc]
  · rw [if_neg (fun e => hc e.symm), if_neg hc]
theorem yieldsIf_slice {ops : Array Oper} {S : World → Prop} {op : Oper} {a : Act} (hw : Region.wanted op (yielded ops a.tmps) = true) (x y : Operand) (ho : op.op = .slice 76 x (some y) none none)
    (b o : Nat) (ad : Addr) (h : Hid (∀ w, (Instr.sliceAt 76 (.pointer (some ⟨b, 1, none⟩)) (some (.int .i64 ((o : Int) * 8))) none none).run Try.prog w = .ok (.slice (some ad) (4000 - o * 8) (4000 - o * 8)) w)) (hx : a.eval x = .pointer (some ⟨b, 1, none⟩)) (hy : a.eval y = .int .i64 ((o : Int) * 8)) : YieldsIf Try.prog ops S op (.slice (some ad) (4000 - o * 8) (4000 - o * 8)) a :=
  .inl ⟨hw, fun w hw' => by
    unfold execOp
    simp only [ho, hx, hy, Option.map_some, Option.map_none, Sem.run_bind, Sem.run_pure, Result.andThen_ok, h.out w]⟩
/-- The bytes of a fragment go to their place. -/
theorem GB.copyTo {b : Nat} {g : Gm} {W : World} (h : GB b g W) (o : Nat) (s : ByteArray) (ho : o * 8 + s.size ≤ 4000) :
    ∃ ad W', Hid (∀ w, (Instr.sliceAt 76 (.pointer (some ⟨b, 1, none⟩)) (some (.int .i64 ((o : Int) * 8))) none none).run Try.prog w = .ok (.slice (some ad) (4000 - o * 8) (4000 - o * 8)) w) ∧ (∀ ty, (Builtin.copy_ #[93, 9] ty #[.slice (some ad) (4000 - o * 8) (4000 - o * 8), .string s]).run Try.prog W = .ok (.int .i64 (s.size : Int)) W') ∧ GB b { g with bytes := bput g.bytes (o * 8) s } W' ∧ Kp [b] W W' := by
  by_cases hc : o * 8 = 4000
  · obtain ⟨W', h1, h2, h3⟩ := h.copy 0 (4000 - o * 8) (4000 - o * 8) s (by omega) (by omega)
    refine ⟨⟨b, 1, none⟩, W', fun w => by rw [sliceArr b o (by omega) w, if_pos hc], h1, ?_, h3⟩
    have hs : s.size = 0 := by omega
    have e : bput g.bytes (o * 8) s = bput g.bytes 0 s := by
      funext j; unfold bput; rw [if_neg (by omega), if_neg (by omega)]
    rw [e]; exact h2
  · obtain ⟨W', h1, h2, h3⟩ := h.copy (o * 8) (4000 - o * 8) (4000 - o * 8) s (by omega) (by omega)
    exact ⟨⟨b, 1 + o * 8, none⟩, W', fun w => by rw [sliceArr b o (by omega) w, if_neg hc], h1, h2, h3⟩
theorem gmark_zero (g : Gm) (o : Nat) : gmark g o 0 = g := by
  unfold gmark
  have : gnew g o 0 = 0 := rfl
  obtain ⟨left, bytes, there, many, reach, closed, dont, ttl⟩ := g
  simp only [this, Nat.add_zero, Gm.mk.injEq, true_and, and_true]
  funext i
  simp; omega
theorem gmark_at (g : Gm) (o k : Nat) : (gmark g o k).there (o + k) = g.there (o + k) := by
  show (g.there (o + k) || decide (o ≤ o + k ∧ o + k < o + k)) = _
  simp
theorem gmark_stays (g : Gm) (o k : Nat) (h : g.there (o + k) = true) : gmark g o (k + 1) = gmark g o k := by
  have e := gnew_succ g o k
  rw [h] at e
  unfold gmark
  simp only [Gm.mk.injEq, true_and, and_true]
  refine ⟨?_, by rw [e]; simp⟩
  funext i
  by_cases hi : i = o + k
  · subst hi; simp [h]
  · congr 1; rw [decide_eq_decide]; omega
theorem gmark_new (g : Gm) (o k : Nat) (h : g.there (o + k) = false) : { gmark g o k with there := fun j => if j = o + k then true else (gmark g o k).there j, many := (gmark g o k).many + 1 } = gmark g o (k + 1) := by
  have e := gnew_succ g o k
  rw [h] at e
  unfold gmark
  simp only [Gm.mk.injEq, true_and, and_true]
  refine ⟨?_, by rw [e]; simp; omega⟩
  funext i
  by_cases hi : i = o + k
  · subst hi; simp
  · rw [if_neg hi]; congr 1; rw [decide_eq_decide]; omega

set_option maxHeartbeats 8000000 in
set_option maxRecDepth 100000 in
theorem add_any (b : Nat) (g : Gm) (p : Pk) (w : World) (hG : GB b g w) (h : chk p = 0) (h4 : fend p ≤ 4000) (hm : g.many ≤ 4000) (hr : g.reach ≤ 4000) :
    Calls Try.prog 40 #[.pointer (some ⟨b, 0, none⟩), pv p] w fun e w' => e = .returned (.tuple #[]) ∧ GB b (gadd g p) w' ∧ Kp [b] w w' := by
  obtain ⟨_, _, _, ho, hs⟩ := chk_zero h
  have HE : Hid (∀ w', Calls Try.prog 37 #[pv p] w' fun e w'' => e = .returned (.int .i64 (fend p)) ∧ Below w'.heap.size w' w'') := fun w' => endOf_any p w' ho (by omega)
  have HFe : Hid (fend p = p.off * 8 + (p.body.size : Int)) := rfl
  have b0 : Hid (Kp [b] w (w.alloc (.cells (pc p) 24))) := (Kp.refl _ _).alloc _
  have G0 := Lib.hid (hG.alloc (.cells (pc p) 24))
  have P0 := Lib.hid (PB.new w p)
  have hbl := hG.lt
  obtain ⟨o, hoo⟩ := Int.eq_ofNat_of_zero_le ho.1
  have x3 := P0.out.c3
  have x5 := P0.out.c5
  have x7 := P0.out.c7
  rw [hoo] at x7
  have hsz : o * 8 + p.body.size ≤ 4000 := by rw [HFe.out, hoo] at h4; omega
  have HAdd : Hid (gadd g p = { gmark { ghead g p with bytes := bput g.bytes (o * 8) p.body } (o * 8) p.body.size with reach := max g.reach (o * 8 + p.body.size), closed := g.closed || !p.more }) := by
    show _ = _; unfold gadd; rw [hoo, Int.toNat_natCast]
  have HHd : Hid (ghead g p = if (o : Int) = 0 ∧ g.there 0 = false then { g with dont := p.dont, ttl := p.ttl } else g) := by
    show _ = _; unfold ghead; rw [hoo]
  have HEo : Hid (fend p = ((o * 8 + p.body.size : Nat) : Int)) := by show _ = _; rw [HFe.out, hoo]; omega
  have HG1 : Hid ((ghead g p).there = g.there ∧ (ghead g p).bytes = g.bytes ∧ (ghead g p).many = g.many ∧ (ghead g p).reach = g.reach ∧ (ghead g p).closed = g.closed) := by
    show _ ∧ _; unfold ghead; split <;> simp
  have HU := Lib.hid Try.underlying24
  have HI : Hid ((Try.prog.info? 24).map (·.size) = some 9) := info24
  have HO := Lib.hid hoo
  have ct := G0.out.cThere 0 (by omega)
  have cd := G0.out.cDont
  have cl := G0.out.cTtl
  have fd := G0.out.free 8004
  have fl := G0.out.free 8005
  generalize gadd g p = GR at *
  clear h ho hG hoo h4 HFe
  by_cases hz : (o : Int) = 0 ∧ g.there 0 = false
  · obtain ⟨hz1, ht⟩ := hz
    have hz2 : ((o : Int) == 0) = true := by simpa using hz1
    rw [if_pos ⟨hz1, ht⟩] at HHd
    rw [ht] at ct
    have HT := Lib.hid ht
    clear ht hz1
    go_enter Try.func40, Try.ntmps40
    go_wp2_with fail
    generalize w.alloc (.cells (pc p) 24) = w0 at *
    go_region
    have G1 : Hid (GB b (ghead g p) ((w0.setCell ⟨b, 8004, none⟩ (.bool p.dont)).setCell ⟨b, 8005, none⟩ (.int .i64 p.ttl)).drew) := by
      have := (G0.out.setDont p.dont).setTtl p.ttl
      rw [HHd.out]; exact this
    have P1 := Lib.hid (((P0.out.setOther (k := b) (by omega) 8004 (.bool p.dont)).setOther (k := b) (by omega) 8005 (.int .i64 p.ttl)).drew)
    have K1 := Lib.hid (((b0.out.setCell (p := ⟨b, 8004, none⟩) (Or.inl (by simp)) (.bool p.dont)).setCell (p := ⟨b, 8005, none⟩) (Or.inl (by simp)) (.int .i64 p.ttl)).drew)
    generalize ((w0.setCell ⟨b, 8004, none⟩ (.bool p.dont)).setCell ⟨b, 8005, none⟩ (.int .i64 p.ttl)).drew = w1 at *
    clear G0 P0 b0 x3 x5 x7 ct cd cl fd fl HT
    have x7 := P1.out.c7
    rw [HO.out] at x7
    go_wp2_with fail
    obtain ⟨ad, w2, hsl, hcp, hG2, hK2⟩ := (G1.out.drew).copyTo o p.body hsz
    have HX8 : Hid (w2.cell? ⟨w.heap.size, 8, none⟩ = some (.string p.body)) := by show _ = _; rw [World.cell?_of_block (w := w1.drew) (a := ⟨w.heap.size, 8, none⟩) (hK2.block _ P1.out.lt (by simp; omega))]; exact P1.out.c8
    refine wp_region_held_drew (S := fun w' => w'.cell? ⟨w.heap.size, 8, none⟩ = some (.string p.body)) (by kernel_rfl) (P1.out.c8) (fun hHeld => ?_)
    refine takeH (i := 0) (d := some 30) (v := ?_) rfl rfl (by kernel_rfl) (by kernel_rfl) (by kernel_rfl) (fun _ _ _ h => h) (Or.inl ⟨by rfl, ?_⟩) hHeld ?_
    rotate_left
    · intro w' hSw; (try dsimp only at hSw); go_simp; try with_reducible rfl
    simp only [Act.put, List.setIfInBounds_toArray, List.set_cons_zero, List.set_cons_succ]
    refine takeH (i := 1) (d := some 31) (v := ?_) rfl rfl (by kernel_rfl) (by kernel_rfl) (by kernel_rfl) (fun _ _ _ h => h) (Or.inl ⟨by rfl, ?_⟩) hHeld ?_
    rotate_left
    · intro w' hSw; (try dsimp only at hSw); go_simp; try with_reducible rfl
    simp only [Act.put, List.setIfInBounds_toArray, List.set_cons_zero, List.set_cons_succ]
    refine takeH (i := 2) (d := some 32) (v := ?_) rfl rfl (by kernel_rfl) (by kernel_rfl) (by kernel_rfl) (fun _ _ _ h => h) (Or.inl ⟨by rfl, ?_⟩) hHeld ?_
    rotate_left
    · intro w' hSw; (try dsimp only at hSw); go_simp; try with_reducible rfl
    simp only [Act.put, List.setIfInBounds_toArray, List.set_cons_zero, List.set_cons_succ]
    refine takeH (i := 3) (d := some 33) (v := ?_) rfl rfl (by kernel_rfl) (by kernel_rfl) (by kernel_rfl) (fun _ _ _ h => h) (Or.inl ⟨by rfl, ?_⟩) hHeld ?_
    rotate_left
    · intro w' hSw; (try dsimp only at hSw); go_simp; try with_reducible rfl
    simp only [Act.put, List.setIfInBounds_toArray, List.set_cons_zero, List.set_cons_succ]
    refine takeH (i := 4) (d := some 34) rfl rfl (by kernel_rfl) (by kernel_rfl) (by kernel_rfl) (fun _ _ _ h => h) (yieldsIf_slice (by rfl) _ _ rfl b o ad hsl rfl rfl) hHeld ?_
    simp only [Act.put, List.setIfInBounds_toArray, List.set_cons_zero, List.set_cons_succ]
    refine takeH (i := 5) (d := some 35) (v := ?_) rfl rfl (by kernel_rfl) (by kernel_rfl) (by kernel_rfl) (fun _ _ _ h => h) (Or.inl ⟨by rfl, ?_⟩) hHeld ?_
    rotate_left
    · intro w' hSw; (try dsimp only at hSw); go_simp; try with_reducible rfl
    simp only [Act.put, List.setIfInBounds_toArray, List.set_cons_zero, List.set_cons_succ]
    refine takeH (i := 6) (d := some 36) (v := ?_) rfl rfl (by kernel_rfl) (by kernel_rfl) (by kernel_rfl) (fun _ _ _ h => h) (Or.inl ⟨by rfl, ?_⟩) hHeld ?_
    rotate_left
    · intro w' hSw; (try dsimp only at hSw); go_simp; try with_reducible rfl
    simp only [Act.put, List.setIfInBounds_toArray, List.set_cons_zero, List.set_cons_succ]
    refine wpAnyH_ready (rs := [7]) (by kernel_rfl) (by simp) ?_
    refine AllReadyH.cons rfl (fun K hK => ?_) AllReadyH.nil
    go_simp
    clear hHeld
    refine hK.out _ _ HX8.out (fun hHeld => ?_)
    clear hK K
    try simp only [Act.put, List.setIfInBounds_toArray, List.set_cons_zero, List.set_cons_succ]
    refine wpAnyH_done (by kernel_rfl) ?_ _
    have G2 := Lib.hid hG2
    have P2 : Hid (PB w.heap.size p w2) := (hK2.block _ P1.out.lt (by simp; omega)).trans P1.out
    have K2 : Hid (Kp [b] w w2) := (K1.out.drew).trans hK2 (by simp)
    have x8 := P2.out.c8
    clear hG2 hK2 G1 P1 K1 hcp HX8 hsl
    have hgb := HG1.out
    rw [hgb.2.1] at G2
    obtain ⟨g2, hg2⟩ : ∃ g2, g2 = ({ ghead g p with bytes := bput g.bytes (o * 8) p.body } : Gm) := ⟨_, rfl⟩
    rw [← hg2] at G2 HAdd
    have HQ2 : Hid (g2.there = g.there ∧ g2.many = g.many ∧ g2.reach = g.reach ∧ g2.closed = g.closed) := by rw [hg2]; exact ⟨hgb.1, hgb.2.2.1, hgb.2.2.2.1, hgb.2.2.2.2⟩
    have hm2 : g2.many ≤ 4000 := by rw [HQ2.out.2.1]; exact hm
    clear hg2 hgb HG1 HHd
    go_wp2_with fail
    go_loopw [41] (fun i W => ∃ k : Nat, k ≤ p.body.size ∧ i = .int .i64 k ∧ GB b (gmark g2 (o * 8) k) W ∧ PB w.heap.size p W ∧ Kp [b] w W) (fun i _ => p.body.size - (intOf i).toNat)
    case atStart => exact ⟨0, Nat.zero_le _, rfl, by rw [gmark_zero]; exact G2.out, P2.out, K2.out⟩
    case round =>
      obtain ⟨k, hk, rfl, hG, hP, hK⟩ := hrel
      have G := Lib.hid hG
      have P := Lib.hid hP
      have K := Lib.hid hK
      clear hG hP hK G2 P2 K2 x8
      by_cases hlt : k < p.body.size
      · have c1 := G.out.cThere (o * 8 + k) (by omega)
        rw [gmark_at] at c1
        have c2 := G.out.cMany
        have hn1 := gnew_le g2 (o * 8) k
        have hmm : (gmark g2 (o * 8) k).many = g2.many + gnew g2 (o * 8) k := rfl
        have hmb : (gmark g2 (o * 8) k).many ≤ 9000 := by omega
        cases hT : g2.there (o * 8 + k) with
        | true =>
          rw [hT] at c1
          have E := Lib.hid (gmark_stays g2 (o * 8) k hT)
          clear hT hmm
          go_wp2_with fail
          go_roundw
          case rel => exact ⟨k + 1, by omega, by go_num, by rw [E.out]; exact G.out, P.out, K.out⟩
          case measure => simp [intOf]; omega
        | false =>
          rw [hT] at c1
          have E := Lib.hid (gmark_new g2 (o * 8) k hT)
          have f1 := G.out.free (4001 + (o * 8 + k))
          have f2 := G.out.free 8001
          have hne : 4001 + (o * 8 + k) ≠ 8001 := by omega
          have hne2 : 8001 ≠ 4001 + (o * 8 + k) := by omega
          have G3 := Lib.hid ((G.out.setThere (o * 8 + k) (by omega) true).setMany ((gmark g2 (o * 8) k).many + 1))
          have P3 := Lib.hid ((P.out.setOther (k := b) (by omega) (4001 + (o * 8 + k)) (.bool true)).setOther (k := b) (by omega) 8001 (.int .i64 (((gmark g2 (o * 8) k).many + 1 : Nat) : Int)))
          have K3 := Lib.hid ((K.out.setCell (p := ⟨b, 4001 + (o * 8 + k), none⟩) (Or.inl (by simp)) (.bool true)).setCell (p := ⟨b, 8001, none⟩) (Or.inl (by simp)) (.int .i64 (((gmark g2 (o * 8) k).many + 1 : Nat) : Int)))
          clear hT hmm
          rw [E.out] at G3
          go_wp2_with fail
          go_roundw
          case rel => exact ⟨k + 1, by omega, by go_num, G3.out, P3.out, K3.out⟩
          case measure => simp [intOf]; omega
      · have hlt' : ¬ ((k : Int) < (p.body.size : Int)) := by omega
        obtain rfl : k = p.body.size := by omega
        obtain ⟨q1, q2, q3, q4⟩ := HQ2.out
        obtain ⟨gm, hgm⟩ : ∃ gm, gm = gmark g2 (o * 8) p.body.size := ⟨_, rfl⟩
        have e3 : gm.reach = g.reach := by rw [hgm]; exact q3
        have e4 : gm.closed = g.closed := by rw [hgm]; exact q4
        rw [← hgm] at G HAdd
        have cR := G.out.cReach
        have fR := G.out.free 8002
        rw [e3] at cR
        have hbw := G.out.lt
        have y0 := P.out.c0
        have y1 := P.out.c1
        have y2 := P.out.c2
        have y3 := P.out.c3
        have y4 := P.out.c4
        have y5 := P.out.c5
        have y6 := P.out.c6
        have y7 := P.out.c7
        have y8 := P.out.c8
        clear hgm q1 q2 q3 q4 HQ2 hk hlt
        go_wp2_with fail
        go_region_with ((go_at_call 37; refine (HE.out _).mono ?_; rintro e w9 ⟨rfl, hb9⟩; have c9 := (G.out.drew.keep hb9).cReach; rw [e3] at c9; have f9 := (G.out.drew.keep hb9).free 8002))
        all_goals
          have e9 : max (g.reach : Int) (fend p) = ((max g.reach (o * 8 + p.body.size) : Nat) : Int) := by rw [HEo.out]; omega
          rw [e9]
          have G10 := Lib.hid ((G.out.drew.keep hb9).setReach (max g.reach (o * 8 + p.body.size)))
          have P10 := Lib.hid ((P.out.drew.keep hb9).setOther (k := b) (by omega) 8002 (.int .i64 ((max g.reach (o * 8 + p.body.size) : Nat) : Int)))
          have K10 := Lib.hid ((K.out.drew.then hb9).setCell (p := ⟨b, 8002, none⟩) (Or.inl (by simp)) (.int .i64 ((max g.reach (o * 8 + p.body.size) : Nat) : Int)))
          generalize w9.setCell ⟨b, 8002, none⟩ (.int .i64 ((max g.reach (o * 8 + p.body.size) : Nat) : Int)) = w10 at *
          have c10 : w10.cell? ⟨b, 8003, none⟩ = some (.bool g.closed) := by have := G10.out.cClosed; rw [← e4]; exact this
          have f10 := G10.out.free 8003
          have x10 := P10.out.c6
          clear e9 hb9 c9 f9 cR fR y0 y1 y2 y3 y4 y5 y6 y7 y8
          have G11 := Lib.hid (G10.out.setClosed (g.closed || !p.more))
          have K11 := Lib.hid (K10.out.setCell (p := ⟨b, 8003, none⟩) (Or.inl (by simp)) (.bool (g.closed || !p.more)))
          rw [← show GR = _ from HAdd.out] at G11
          cases hC : g.closed
          · rw [hC] at c10 G11 K11
            simp only [Bool.false_or] at G11 K11
            clear hC
            go_wp2_with fail
            exact bodyPost_end (results_none rfl _ _ _) rfl ⟨rfl, G11.out, K11.out⟩
          · rw [hC] at c10 G11 K11
            simp only [Bool.true_or] at G11 K11
            clear hC
            go_wp2_with fail
            exact bodyPost_end (results_none rfl _ _ _) rfl ⟨rfl, G11.out, K11.out⟩
  · rw [if_neg hz] at HHd
    have G1 : Hid (GB b (ghead g p) (w.alloc (.cells (pc p) 24))) := by have := G0.out; rw [HHd.out]; exact this
    have P1 := Lib.hid P0.out
    have K1 := Lib.hid b0.out
    by_cases hz1 : (o : Int) = 0
    · have ht : g.there 0 = true := by
        cases ht : g.there 0 with
        | true => rfl
        | false => exact absurd ⟨hz1, ht⟩ hz
      have hz2 : ((o : Int) == 0) = true := by simpa using hz1
      rw [ht] at ct
      clear ht hz1 hz
      go_enter Try.func40, Try.ntmps40
      go_wp2_with fail
      generalize w.alloc (.cells (pc p) 24) = w1 at *
      clear G0 P0 b0 x3 x5 x7 ct cd cl fd fl
      obtain ⟨ad, w2, hsl, hcp, hG2, hK2⟩ := (G1.out.drew).copyTo o p.body hsz
      have HX8 : Hid (w2.cell? ⟨w.heap.size, 8, none⟩ = some (.string p.body)) := by show _ = _; rw [World.cell?_of_block (w := w1.drew) (a := ⟨w.heap.size, 8, none⟩) (hK2.block _ P1.out.lt (by simp; omega))]; exact P1.out.c8
      refine wp_region_held_drew (S := fun w' => w'.cell? ⟨w.heap.size, 8, none⟩ = some (.string p.body)) (by kernel_rfl) (P1.out.c8) (fun hHeld => ?_)
      refine takeH (i := 0) (d := some 30) (v := ?_) rfl rfl (by kernel_rfl) (by kernel_rfl) (by kernel_rfl) (fun _ _ _ h => h) (Or.inl ⟨by rfl, ?_⟩) hHeld ?_
      rotate_left
      · intro w' hSw; (try dsimp only at hSw); go_simp; try with_reducible rfl
      simp only [Act.put, List.setIfInBounds_toArray, List.set_cons_zero, List.set_cons_succ]
      refine takeH (i := 1) (d := some 31) (v := ?_) rfl rfl (by kernel_rfl) (by kernel_rfl) (by kernel_rfl) (fun _ _ _ h => h) (Or.inl ⟨by rfl, ?_⟩) hHeld ?_
      rotate_left
      · intro w' hSw; (try dsimp only at hSw); go_simp; try with_reducible rfl
      simp only [Act.put, List.setIfInBounds_toArray, List.set_cons_zero, List.set_cons_succ]
      refine takeH (i := 2) (d := some 32) (v := ?_) rfl rfl (by kernel_rfl) (by kernel_rfl) (by kernel_rfl) (fun _ _ _ h => h) (Or.inl ⟨by rfl, ?_⟩) hHeld ?_
      rotate_left
      · intro w' hSw; (try dsimp only at hSw); go_simp; try with_reducible rfl
      simp only [Act.put, List.setIfInBounds_toArray, List.set_cons_zero, List.set_cons_succ]
      refine takeH (i := 3) (d := some 33) (v := ?_) rfl rfl (by kernel_rfl) (by kernel_rfl) (by kernel_rfl) (fun _ _ _ h => h) (Or.inl ⟨by rfl, ?_⟩) hHeld ?_
      rotate_left
      · intro w' hSw; (try dsimp only at hSw); go_simp; try with_reducible rfl
      simp only [Act.put, List.setIfInBounds_toArray, List.set_cons_zero, List.set_cons_succ]
      refine takeH (i := 4) (d := some 34) rfl rfl (by kernel_rfl) (by kernel_rfl) (by kernel_rfl) (fun _ _ _ h => h) (yieldsIf_slice (by rfl) _ _ rfl b o ad hsl rfl rfl) hHeld ?_
      simp only [Act.put, List.setIfInBounds_toArray, List.set_cons_zero, List.set_cons_succ]
      refine takeH (i := 5) (d := some 35) (v := ?_) rfl rfl (by kernel_rfl) (by kernel_rfl) (by kernel_rfl) (fun _ _ _ h => h) (Or.inl ⟨by rfl, ?_⟩) hHeld ?_
      rotate_left
      · intro w' hSw; (try dsimp only at hSw); go_simp; try with_reducible rfl
      simp only [Act.put, List.setIfInBounds_toArray, List.set_cons_zero, List.set_cons_succ]
      refine takeH (i := 6) (d := some 36) (v := ?_) rfl rfl (by kernel_rfl) (by kernel_rfl) (by kernel_rfl) (fun _ _ _ h => h) (Or.inl ⟨by rfl, ?_⟩) hHeld ?_
      rotate_left
      · intro w' hSw; (try dsimp only at hSw); go_simp; try with_reducible rfl
      simp only [Act.put, List.setIfInBounds_toArray, List.set_cons_zero, List.set_cons_succ]
      refine wpAnyH_ready (rs := [7]) (by kernel_rfl) (by simp) ?_
      refine AllReadyH.cons rfl (fun K hK => ?_) AllReadyH.nil
      go_simp
      clear hHeld
      refine hK.out _ _ HX8.out (fun hHeld => ?_)
      clear hK K
      try simp only [Act.put, List.setIfInBounds_toArray, List.set_cons_zero, List.set_cons_succ]
      refine wpAnyH_done (by kernel_rfl) ?_ _
      have G2 := Lib.hid hG2
      have P2 : Hid (PB w.heap.size p w2) := (hK2.block _ P1.out.lt (by simp; omega)).trans P1.out
      have K2 : Hid (Kp [b] w w2) := (K1.out.drew).trans hK2 (by simp)
      have x8 := P2.out.c8
      clear hG2 hK2 G1 P1 K1 hcp HX8 hsl
      have hgb := HG1.out
      rw [hgb.2.1] at G2
      obtain ⟨g2, hg2⟩ : ∃ g2, g2 = ({ ghead g p with bytes := bput g.bytes (o * 8) p.body } : Gm) := ⟨_, rfl⟩
      rw [← hg2] at G2 HAdd
      have HQ2 : Hid (g2.there = g.there ∧ g2.many = g.many ∧ g2.reach = g.reach ∧ g2.closed = g.closed) := by rw [hg2]; exact ⟨hgb.1, hgb.2.2.1, hgb.2.2.2.1, hgb.2.2.2.2⟩
      have hm2 : g2.many ≤ 4000 := by rw [HQ2.out.2.1]; exact hm
      clear hg2 hgb HG1 HHd
      go_wp2_with fail
      go_loopw [41] (fun i W => ∃ k : Nat, k ≤ p.body.size ∧ i = .int .i64 k ∧ GB b (gmark g2 (o * 8) k) W ∧ PB w.heap.size p W ∧ Kp [b] w W) (fun i _ => p.body.size - (intOf i).toNat)
      case atStart => exact ⟨0, Nat.zero_le _, rfl, by rw [gmark_zero]; exact G2.out, P2.out, K2.out⟩
      case round =>
        obtain ⟨k, hk, rfl, hG, hP, hK⟩ := hrel
        have G := Lib.hid hG
        have P := Lib.hid hP
        have K := Lib.hid hK
        clear hG hP hK G2 P2 K2 x8
        by_cases hlt : k < p.body.size
        · have c1 := G.out.cThere (o * 8 + k) (by omega)
          rw [gmark_at] at c1
          have c2 := G.out.cMany
          have hn1 := gnew_le g2 (o * 8) k
          have hmm : (gmark g2 (o * 8) k).many = g2.many + gnew g2 (o * 8) k := rfl
          have hmb : (gmark g2 (o * 8) k).many ≤ 9000 := by omega
          cases hT : g2.there (o * 8 + k) with
          | true =>
            rw [hT] at c1
            have E := Lib.hid (gmark_stays g2 (o * 8) k hT)
            clear hT hmm
            go_wp2_with fail
            go_roundw
            case rel => exact ⟨k + 1, by omega, by go_num, by rw [E.out]; exact G.out, P.out, K.out⟩
            case measure => simp [intOf]; omega
          | false =>
            rw [hT] at c1
            have E := Lib.hid (gmark_new g2 (o * 8) k hT)
            have f1 := G.out.free (4001 + (o * 8 + k))
            have f2 := G.out.free 8001
            have hne : 4001 + (o * 8 + k) ≠ 8001 := by omega
            have hne2 : 8001 ≠ 4001 + (o * 8 + k) := by omega
            have G3 := Lib.hid ((G.out.setThere (o * 8 + k) (by omega) true).setMany ((gmark g2 (o * 8) k).many + 1))
            have P3 := Lib.hid ((P.out.setOther (k := b) (by omega) (4001 + (o * 8 + k)) (.bool true)).setOther (k := b) (by omega) 8001 (.int .i64 (((gmark g2 (o * 8) k).many + 1 : Nat) : Int)))
            have K3 := Lib.hid ((K.out.setCell (p := ⟨b, 4001 + (o * 8 + k), none⟩) (Or.inl (by simp)) (.bool true)).setCell (p := ⟨b, 8001, none⟩) (Or.inl (by simp)) (.int .i64 (((gmark g2 (o * 8) k).many + 1 : Nat) : Int)))
            clear hT hmm
            rw [E.out] at G3
            go_wp2_with fail
            go_roundw
            case rel => exact ⟨k + 1, by omega, by go_num, G3.out, P3.out, K3.out⟩
            case measure => simp [intOf]; omega
        · have hlt' : ¬ ((k : Int) < (p.body.size : Int)) := by omega
          obtain rfl : k = p.body.size := by omega
          obtain ⟨q1, q2, q3, q4⟩ := HQ2.out
          obtain ⟨gm, hgm⟩ : ∃ gm, gm = gmark g2 (o * 8) p.body.size := ⟨_, rfl⟩
          have e3 : gm.reach = g.reach := by rw [hgm]; exact q3
          have e4 : gm.closed = g.closed := by rw [hgm]; exact q4
          rw [← hgm] at G HAdd
          have cR := G.out.cReach
          have fR := G.out.free 8002
          rw [e3] at cR
          have hbw := G.out.lt
          have y0 := P.out.c0
          have y1 := P.out.c1
          have y2 := P.out.c2
          have y3 := P.out.c3
          have y4 := P.out.c4
          have y5 := P.out.c5
          have y6 := P.out.c6
          have y7 := P.out.c7
          have y8 := P.out.c8
          clear hgm q1 q2 q3 q4 HQ2 hk hlt
          go_wp2_with fail
          go_region_with ((go_at_call 37; refine (HE.out _).mono ?_; rintro e w9 ⟨rfl, hb9⟩; have c9 := (G.out.drew.keep hb9).cReach; rw [e3] at c9; have f9 := (G.out.drew.keep hb9).free 8002))
          all_goals
            have e9 : max (g.reach : Int) (fend p) = ((max g.reach (o * 8 + p.body.size) : Nat) : Int) := by rw [HEo.out]; omega
            rw [e9]
            have G10 := Lib.hid ((G.out.drew.keep hb9).setReach (max g.reach (o * 8 + p.body.size)))
            have P10 := Lib.hid ((P.out.drew.keep hb9).setOther (k := b) (by omega) 8002 (.int .i64 ((max g.reach (o * 8 + p.body.size) : Nat) : Int)))
            have K10 := Lib.hid ((K.out.drew.then hb9).setCell (p := ⟨b, 8002, none⟩) (Or.inl (by simp)) (.int .i64 ((max g.reach (o * 8 + p.body.size) : Nat) : Int)))
            generalize w9.setCell ⟨b, 8002, none⟩ (.int .i64 ((max g.reach (o * 8 + p.body.size) : Nat) : Int)) = w10 at *
            have c10 : w10.cell? ⟨b, 8003, none⟩ = some (.bool g.closed) := by have := G10.out.cClosed; rw [← e4]; exact this
            have f10 := G10.out.free 8003
            have x10 := P10.out.c6
            clear e9 hb9 c9 f9 cR fR y0 y1 y2 y3 y4 y5 y6 y7 y8
            have G11 := Lib.hid (G10.out.setClosed (g.closed || !p.more))
            have K11 := Lib.hid (K10.out.setCell (p := ⟨b, 8003, none⟩) (Or.inl (by simp)) (.bool (g.closed || !p.more)))
            rw [← show GR = _ from HAdd.out] at G11
            cases hC : g.closed
            · rw [hC] at c10 G11 K11
              simp only [Bool.false_or] at G11 K11
              clear hC
              go_wp2_with fail
              exact bodyPost_end (results_none rfl _ _ _) rfl ⟨rfl, G11.out, K11.out⟩
            · rw [hC] at c10 G11 K11
              simp only [Bool.true_or] at G11 K11
              clear hC
              go_wp2_with fail
              exact bodyPost_end (results_none rfl _ _ _) rfl ⟨rfl, G11.out, K11.out⟩
    · have hz2 : ((o : Int) == 0) = false := by simpa using hz1
      clear hz1 hz
      go_enter Try.func40, Try.ntmps40
      go_wp2_with fail
      generalize w.alloc (.cells (pc p) 24) = w1 at *
      clear G0 P0 b0 x3 x5 x7 ct cd cl fd fl
      obtain ⟨ad, w2, hsl, hcp, hG2, hK2⟩ := (G1.out.drew).copyTo o p.body hsz
      have HX8 : Hid (w2.cell? ⟨w.heap.size, 8, none⟩ = some (.string p.body)) := by show _ = _; rw [World.cell?_of_block (w := w1.drew) (a := ⟨w.heap.size, 8, none⟩) (hK2.block _ P1.out.lt (by simp; omega))]; exact P1.out.c8
      refine wp_region_held_drew (S := fun w' => w'.cell? ⟨w.heap.size, 8, none⟩ = some (.string p.body)) (by kernel_rfl) (P1.out.c8) (fun hHeld => ?_)
      refine takeH (i := 0) (d := some 30) (v := ?_) rfl rfl (by kernel_rfl) (by kernel_rfl) (by kernel_rfl) (fun _ _ _ h => h) (Or.inl ⟨by rfl, ?_⟩) hHeld ?_
      rotate_left
      · intro w' hSw; (try dsimp only at hSw); go_simp; try with_reducible rfl
      simp only [Act.put, List.setIfInBounds_toArray, List.set_cons_zero, List.set_cons_succ]
      refine takeH (i := 1) (d := some 31) (v := ?_) rfl rfl (by kernel_rfl) (by kernel_rfl) (by kernel_rfl) (fun _ _ _ h => h) (Or.inl ⟨by rfl, ?_⟩) hHeld ?_
      rotate_left
      · intro w' hSw; (try dsimp only at hSw); go_simp; try with_reducible rfl
      simp only [Act.put, List.setIfInBounds_toArray, List.set_cons_zero, List.set_cons_succ]
      refine takeH (i := 2) (d := some 32) (v := ?_) rfl rfl (by kernel_rfl) (by kernel_rfl) (by kernel_rfl) (fun _ _ _ h => h) (Or.inl ⟨by rfl, ?_⟩) hHeld ?_
      rotate_left
      · intro w' hSw; (try dsimp only at hSw); go_simp; try with_reducible rfl
      simp only [Act.put, List.setIfInBounds_toArray, List.set_cons_zero, List.set_cons_succ]
      refine takeH (i := 3) (d := some 33) (v := ?_) rfl rfl (by kernel_rfl) (by kernel_rfl) (by kernel_rfl) (fun _ _ _ h => h) (Or.inl ⟨by rfl, ?_⟩) hHeld ?_
      rotate_left
      · intro w' hSw; (try dsimp only at hSw); go_simp; try with_reducible rfl
      simp only [Act.put, List.setIfInBounds_toArray, List.set_cons_zero, List.set_cons_succ]
      refine takeH (i := 4) (d := some 34) rfl rfl (by kernel_rfl) (by kernel_rfl) (by kernel_rfl) (fun _ _ _ h => h) (yieldsIf_slice (by rfl) _ _ rfl b o ad hsl rfl rfl) hHeld ?_
      simp only [Act.put, List.setIfInBounds_toArray, List.set_cons_zero, List.set_cons_succ]
      refine takeH (i := 5) (d := some 35) (v := ?_) rfl rfl (by kernel_rfl) (by kernel_rfl) (by kernel_rfl) (fun _ _ _ h => h) (Or.inl ⟨by rfl, ?_⟩) hHeld ?_
      rotate_left
      · intro w' hSw; (try dsimp only at hSw); go_simp; try with_reducible rfl
      simp only [Act.put, List.setIfInBounds_toArray, List.set_cons_zero, List.set_cons_succ]
      refine takeH (i := 6) (d := some 36) (v := ?_) rfl rfl (by kernel_rfl) (by kernel_rfl) (by kernel_rfl) (fun _ _ _ h => h) (Or.inl ⟨by rfl, ?_⟩) hHeld ?_
      rotate_left
      · intro w' hSw; (try dsimp only at hSw); go_simp; try with_reducible rfl
      simp only [Act.put, List.setIfInBounds_toArray, List.set_cons_zero, List.set_cons_succ]
      refine wpAnyH_ready (rs := [7]) (by kernel_rfl) (by simp) ?_
      refine AllReadyH.cons rfl (fun K hK => ?_) AllReadyH.nil
      go_simp
      clear hHeld
      refine hK.out _ _ HX8.out (fun hHeld => ?_)
      clear hK K
      try simp only [Act.put, List.setIfInBounds_toArray, List.set_cons_zero, List.set_cons_succ]
      refine wpAnyH_done (by kernel_rfl) ?_ _
      have G2 := Lib.hid hG2
      have P2 : Hid (PB w.heap.size p w2) := (hK2.block _ P1.out.lt (by simp; omega)).trans P1.out
      have K2 : Hid (Kp [b] w w2) := (K1.out.drew).trans hK2 (by simp)
      have x8 := P2.out.c8
      clear hG2 hK2 G1 P1 K1 hcp HX8 hsl
      have hgb := HG1.out
      rw [hgb.2.1] at G2
      obtain ⟨g2, hg2⟩ : ∃ g2, g2 = ({ ghead g p with bytes := bput g.bytes (o * 8) p.body } : Gm) := ⟨_, rfl⟩
      rw [← hg2] at G2 HAdd
      have HQ2 : Hid (g2.there = g.there ∧ g2.many = g.many ∧ g2.reach = g.reach ∧ g2.closed = g.closed) := by rw [hg2]; exact ⟨hgb.1, hgb.2.2.1, hgb.2.2.2.1, hgb.2.2.2.2⟩
      have hm2 : g2.many ≤ 4000 := by rw [HQ2.out.2.1]; exact hm
      clear hg2 hgb HG1 HHd
      go_wp2_with fail
      go_loopw [41] (fun i W => ∃ k : Nat, k ≤ p.body.size ∧ i = .int .i64 k ∧ GB b (gmark g2 (o * 8) k) W ∧ PB w.heap.size p W ∧ Kp [b] w W) (fun i _ => p.body.size - (intOf i).toNat)
      case atStart => exact ⟨0, Nat.zero_le _, rfl, by rw [gmark_zero]; exact G2.out, P2.out, K2.out⟩
      case round =>
        obtain ⟨k, hk, rfl, hG, hP, hK⟩ := hrel
        have G := Lib.hid hG
        have P := Lib.hid hP
        have K := Lib.hid hK
        clear hG hP hK G2 P2 K2 x8
        by_cases hlt : k < p.body.size
        · have c1 := G.out.cThere (o * 8 + k) (by omega)
          rw [gmark_at] at c1
          have c2 := G.out.cMany
          have hn1 := gnew_le g2 (o * 8) k
          have hmm : (gmark g2 (o * 8) k).many = g2.many + gnew g2 (o * 8) k := rfl
          have hmb : (gmark g2 (o * 8) k).many ≤ 9000 := by omega
          cases hT : g2.there (o * 8 + k) with
          | true =>
            rw [hT] at c1
            have E := Lib.hid (gmark_stays g2 (o * 8) k hT)
            clear hT hmm
            go_wp2_with fail
            go_roundw
            case rel => exact ⟨k + 1, by omega, by go_num, by rw [E.out]; exact G.out, P.out, K.out⟩
            case measure => simp [intOf]; omega
          | false =>
            rw [hT] at c1
            have E := Lib.hid (gmark_new g2 (o * 8) k hT)
            have f1 := G.out.free (4001 + (o * 8 + k))
            have f2 := G.out.free 8001
            have hne : 4001 + (o * 8 + k) ≠ 8001 := by omega
            have hne2 : 8001 ≠ 4001 + (o * 8 + k) := by omega
            have G3 := Lib.hid ((G.out.setThere (o * 8 + k) (by omega) true).setMany ((gmark g2 (o * 8) k).many + 1))
            have P3 := Lib.hid ((P.out.setOther (k := b) (by omega) (4001 + (o * 8 + k)) (.bool true)).setOther (k := b) (by omega) 8001 (.int .i64 (((gmark g2 (o * 8) k).many + 1 : Nat) : Int)))
            have K3 := Lib.hid ((K.out.setCell (p := ⟨b, 4001 + (o * 8 + k), none⟩) (Or.inl (by simp)) (.bool true)).setCell (p := ⟨b, 8001, none⟩) (Or.inl (by simp)) (.int .i64 (((gmark g2 (o * 8) k).many + 1 : Nat) : Int)))
            clear hT hmm
            rw [E.out] at G3
            go_wp2_with fail
            go_roundw
            case rel => exact ⟨k + 1, by omega, by go_num, G3.out, P3.out, K3.out⟩
            case measure => simp [intOf]; omega
        · have hlt' : ¬ ((k : Int) < (p.body.size : Int)) := by omega
          obtain rfl : k = p.body.size := by omega
          obtain ⟨q1, q2, q3, q4⟩ := HQ2.out
          obtain ⟨gm, hgm⟩ : ∃ gm, gm = gmark g2 (o * 8) p.body.size := ⟨_, rfl⟩
          have e3 : gm.reach = g.reach := by rw [hgm]; exact q3
          have e4 : gm.closed = g.closed := by rw [hgm]; exact q4
          rw [← hgm] at G HAdd
          have cR := G.out.cReach
          have fR := G.out.free 8002
          rw [e3] at cR
          have hbw := G.out.lt
          have y0 := P.out.c0
          have y1 := P.out.c1
          have y2 := P.out.c2
          have y3 := P.out.c3
          have y4 := P.out.c4
          have y5 := P.out.c5
          have y6 := P.out.c6
          have y7 := P.out.c7
          have y8 := P.out.c8
          clear hgm q1 q2 q3 q4 HQ2 hk hlt
          go_wp2_with fail
          go_region_with ((go_at_call 37; refine (HE.out _).mono ?_; rintro e w9 ⟨rfl, hb9⟩; have c9 := (G.out.drew.keep hb9).cReach; rw [e3] at c9; have f9 := (G.out.drew.keep hb9).free 8002))
          all_goals
            have e9 : max (g.reach : Int) (fend p) = ((max g.reach (o * 8 + p.body.size) : Nat) : Int) := by rw [HEo.out]; omega
            rw [e9]
            have G10 := Lib.hid ((G.out.drew.keep hb9).setReach (max g.reach (o * 8 + p.body.size)))
            have P10 := Lib.hid ((P.out.drew.keep hb9).setOther (k := b) (by omega) 8002 (.int .i64 ((max g.reach (o * 8 + p.body.size) : Nat) : Int)))
            have K10 := Lib.hid ((K.out.drew.then hb9).setCell (p := ⟨b, 8002, none⟩) (Or.inl (by simp)) (.int .i64 ((max g.reach (o * 8 + p.body.size) : Nat) : Int)))
            generalize w9.setCell ⟨b, 8002, none⟩ (.int .i64 ((max g.reach (o * 8 + p.body.size) : Nat) : Int)) = w10 at *
            have c10 : w10.cell? ⟨b, 8003, none⟩ = some (.bool g.closed) := by have := G10.out.cClosed; rw [← e4]; exact this
            have f10 := G10.out.free 8003
            have x10 := P10.out.c6
            clear e9 hb9 c9 f9 cR fR y0 y1 y2 y3 y4 y5 y6 y7 y8
            have G11 := Lib.hid (G10.out.setClosed (g.closed || !p.more))
            have K11 := Lib.hid (K10.out.setCell (p := ⟨b, 8003, none⟩) (Or.inl (by simp)) (.bool (g.closed || !p.more)))
            rw [← show GR = _ from HAdd.out] at G11
            cases hC : g.closed
            · rw [hC] at c10 G11 K11
              simp only [Bool.false_or] at G11 K11
              clear hC
              go_wp2_with fail
              exact bodyPost_end (results_none rfl _ _ _) rfl ⟨rfl, G11.out, K11.out⟩
            · rw [hC] at c10 G11 K11
              simp only [Bool.true_or] at G11 K11
              clear hC
              go_wp2_with fail
              exact bodyPost_end (results_none rfl _ _ _) rfl ⟨rfl, G11.out, K11.out⟩
end Go.Proofs.Ytfnmcnbiahfnfaa
