/-
  Contract of Tick (package frag).
-/
import Derived.Test.YtfnmcnbiahfnfaaTc
import Derived.Test.YtfnmcnbiahfnfaaNb
import Derived.BigRegion
namespace Go.Proofs.Ytfnmcnbiahfnfaa
open Go.RowKit Go.Maps
set_option linter.unusedVariables false
set_option linter.unusedSimpArgs false

theorem fm_congr {A : List Ent} {f h : Ent → Option Ent} (e : ∀ x ∈ A, f x = h x) : A.filterMap f = A.filterMap h := by
  induction A with
  | nil => rfl
  | cons a A ih =>
    rw [List.filterMap_cons, List.filterMap_cons, e a List.mem_cons_self, ih fun x hx => e x (List.mem_cons_of_mem _ hx)]
/-- What becomes of one when n ticks go by. -/
def tickE (n : Int) (e : Ent) : Option Ent := if e.g.left ≤ n then none else some { e with g := { e.g with left := e.g.left - n } }
def tickA (n : Int) (A : List Ent) : List Ent := A.filterMap (tickE n)
/-- .. while those by lf are still to come. -/
def tickC (n : Int) (lf : Lit → Bool) (A : List Ent) : List Ent := A.filterMap fun e => if lf (nl e.n) then some e else tickE n e
theorem tickE_n {n : Int} {e x : Ent} (h : tickE n e = some x) : x.n = e.n ∧ x.b = e.b := by
  unfold tickE at h
  split at h
  · cases h
  · cases h; exact ⟨rfl, rfl⟩
theorem tickC_n {n : Int} {lf : Lit → Bool} {e x : Ent} (h : (if lf (nl e.n) then some e else tickE n e) = some x) : x.n = e.n ∧ x.b = e.b := by
  split at h
  · cases h; exact ⟨rfl, rfl⟩
  · exact tickE_n h
theorem tickC_all {n : Int} {lf : Lit → Bool} {A : List Ent} (h : ∀ e ∈ A, lf (nl e.n) = true) : tickC n lf A = A := by
  unfold tickC
  conv => rhs; rw [← List.filterMap_some (l := A)]
  exact fm_congr fun e he => by rw [h e he]; simp
theorem tickC_none {n : Int} {lf : Lit → Bool} {A : List Ent} (h : ∀ l, lf l = false) : tickC n lf A = tickA n A := by
  unfold tickC tickA
  exact fm_congr fun e he => by rw [h]; simp
theorem strike {lf : Lit → Bool} {x m : Nm} (h1 : NmWf x) (h2 : NmWf m) : (lf (nl m) && !(nl m).sameKey (nl x)) = (lf (nl m) && decide (m ≠ x)) := by
  by_cases h : m = x
  · subst h; rw [WideAt.sameKey_self (nl_key h1)]; simp
  · rw [Maps.sameKey_ne (fun c => h (nl_inj h2 h1 c))]; simp [h]
theorem tickC_gone {n : Int} {lf : Lit → Bool} {A : List Ent} (hw : ∀ e ∈ A, NmWf e.n) {x : Nm} (hx : NmWf x) (hlf : lf (nl x) = true) (hg : ∀ e ∈ A, e.n = x → e.g.left ≤ n) : tickC n (fun z => lf z && !z.sameKey (nl x)) A = delA (tickC n lf A) x := by
  unfold tickC delA
  rw [List.filter_filterMap]
  refine fm_congr fun e he => ?_
  simp only [strike hx (hw e he)]
  by_cases h : e.n = x
  · rw [h, hlf]
    have : tickE n e = none := by unfold tickE; rw [if_pos (hg e he h)]
    simp [this, h, Option.filter]
  · cases hl : lf (nl e.n) with
    | true => simp [h, Option.filter]
    | false =>
      simp only [Bool.false_and, Bool.false_eq_true, if_false]
      cases ht : tickE n e with
      | none => rfl
      | some y => simp [(tickE_n ht).1, h, Option.filter]
theorem tickC_stays {n : Int} {lf : Lit → Bool} {A : List Ent} (hw : ∀ e ∈ A, NmWf e.n) {x : Nm} (hx : NmWf x) (hlf : lf (nl x) = true) {g : Gm} (hg : ∀ e ∈ A, e.n = x → ¬ e.g.left ≤ n ∧ g = { e.g with left := e.g.left - n }) : tickC n (fun z => lf z && !z.sameKey (nl x)) A = updA (tickC n lf A) x g := by
  unfold tickC updA
  rw [List.map_filterMap]
  refine fm_congr fun e he => ?_
  simp only [strike hx (hw e he)]
  by_cases h : e.n = x
  · obtain ⟨h1, h2⟩ := hg e he h
    have : tickE n e = some { e with g := { e.g with left := e.g.left - n } } := by unfold tickE; rw [if_neg h1]
    rw [h, hlf, h2]
    simp [this, h]
  · cases hl : lf (nl e.n) with
    | true => simp [h]
    | false =>
      simp only [Bool.false_and, Bool.false_eq_true, if_false]
      cases ht : tickE n e with
      | none => rfl
      | some y => simp [(tickE_n ht).1, h]
theorem mem_tickC {n : Int} {lf : Lit → Bool} {A : List Ent} {x : Ent} (h : x ∈ tickC n lf A) : ∃ e ∈ A, x.n = e.n ∧ x.b = e.b ∧ (lf (nl e.n) = true → x = e) ∧ (x.g = e.g ∨ x.g = { e.g with left := e.g.left - n }) := by
  unfold tickC at h
  rw [List.mem_filterMap] at h
  obtain ⟨e, he, hx⟩ := h
  refine ⟨e, he, (tickC_n hx).1, (tickC_n hx).2, fun hl => by rw [hl] at hx; simpa using hx.symm, ?_⟩
  split at hx
  · cases hx; exact Or.inl rfl
  · unfold tickE at hx
    split at hx
    · cases hx
    · cases hx; exact Or.inr rfl
theorem pair_filterMap {P : Ent → Ent → Prop} (hP : ∀ {a b a' b' : Ent}, P a b → a'.n = a.n → a'.b = a.b → b'.n = b.n → b'.b = b.b → P a' b') {A : List Ent} (h : A.Pairwise P) {f : Ent → Option Ent} (hf : ∀ e x, f e = some x → x.n = e.n ∧ x.b = e.b) : (A.filterMap f).Pairwise P := by
  rw [List.pairwise_filterMap]
  exact h.imp fun {a b} hab x hx y hy => hP hab (hf a x hx).1 (hf a x hx).2 (hf b y hy).1 (hf b y hy).2
theorem mkV_inv {v : Value} {y : DataW Unit × List MemPlace} (h : gp v = some y) : ∃ c : Option Nat, v = .pointer (c.map fun b => ⟨b, 0, none⟩) := by
  unfold gp at h
  split at h
  · exact ⟨none, rfl⟩
  · rename_i b; exact ⟨some b, rfl⟩
  · cases h
theorem nv_inj {n m : Nm} (h : nv n = nv m) : n = m := by
  obtain ⟨a, b, c, d⟩ := n
  obtain ⟨a', b', c', d'⟩ := m
  simp at h
  obtain ⟨h1, h2, h3, h4⟩ := h
  simp; exact ⟨by omega, by omega, h3, h4⟩
theorem grown_of_kp {W W' : World} {b : Nat} (h : Kp [b] W W') : W.grownBy W' (some b) := ⟨h.os, h.tape, h.output, h.size, fun k hk hn => h.block k hk (by simp; exact fun c => hn (by rw [c]))⟩
theorem ranges_drew {W : World} {b r n : Nat} {D : DataW Unit} {lf : Lit → Bool} {c : Nat} (h : W.ranges Try.prog 74 gp b r n D lf c) : W.drew.ranges Try.prog 74 gp b r n D lf c := h

theorem tick_neg (tb : Nat) (n : Int) (w : World) (hn : n < 0) :
    Calls Try.prog 13 #[.pointer (some ⟨tb, 0, none⟩), .int .i64 n] w fun e w' => e = .returned (.int .i64 1) ∧ w' = w := by
  go_enter Try.func13, Try.ntmps13
  go_wp2_with fail
  go_ret
  exact ⟨rfl, rfl⟩

/-- What Tick's loop keeps. -/
structure TSt (w : World) (tb mb r : Nat) (A : List Ent) (n : Int) (W : World) (lf : Lit → Bool) (cnt : Nat) (D : DataW Unit) : Prop where
  tbl : W.heap[tb]? = some (.cells #[.map (some mb)] 72 (0, 0))
  rng : W.ranges Try.prog 74 gp mb r A.length D lf cnt
  da : DA D (tickC n lf A)
  grams : ∀ e ∈ tickC n lf A, GB e.b e.g W
  kp : Kp (mb :: blks A) w W
  le : w.heap.size ≤ r

theorem TSt.of {w W W' : World} {tb mb r : Nat} {A : List Ent} {n : Int} {lf : Lit → Bool} {cnt : Nat} {D : DataW Unit} (h : TSt w tb mb r A n W lf cnt D) (hT : Tab w tb mb A) (hb : Below W.heap.size W W') (hrg : W'.ranges Try.prog 74 gp mb r A.length D lf cnt) : TSt w tb mb r A n W' lf cnt D :=
  ⟨(hb.block _ (lt_of_heap h.tbl)).trans h.tbl, hrg, h.da, fun e he => (h.grams e he).keep hb, h.kp.then hb, h.le⟩

theorem da_upd {D : DataW Unit} {A : List Ent} (hd : DA D A) (n : Nm) (g : Gm) : DA D (updA A n g) := by
  refine ⟨fun x hx z => ?_, fun m hm hc => ?_, by rw [hd.size]; simp [updA]⟩
  · rcases mem_updA hx with ⟨h1, _⟩ | ⟨h1, _, y, h2, h3, h4⟩
    · exact hd.at_ x h1 z
    · rw [h1, ← h3, ← h4]; exact hd.at_ y h2 z
  · refine hd.no m hm fun y hy c => ?_
    refine hc (if y.n = n then { y with g := g } else y) (List.mem_map.2 ⟨y, hy, rfl⟩) ?_
    split <;> exact c
theorem tickC_names {n : Int} {lf : Lit → Bool} {A : List Ent} (h : A.Pairwise (fun x y => x.n ≠ y.n)) : (tickC n lf A).Pairwise (fun x y => x.n ≠ y.n) :=
  pair_filterMap (P := fun x y => x.n ≠ y.n) (fun hab h1 _ h3 _ => by rw [h1, h3]; exact hab) h fun e x hx => tickC_n hx
theorem tickC_blocks {n : Int} {lf : Lit → Bool} {A : List Ent} (h : A.Pairwise (fun x y => x.b ≠ y.b)) : (tickC n lf A).Pairwise (fun x y => x.b ≠ y.b) :=
  pair_filterMap (P := fun x y => x.b ≠ y.b) (fun hab _ h2 _ h4 => by rw [h2, h4]; exact hab) h fun e x hx => tickC_n hx
theorem TSt.blt {w W : World} {tb mb r : Nat} {A : List Ent} {n : Int} {lf : Lit → Bool} {cnt : Nat} {D : DataW Unit} (h : TSt w tb mb r A n W lf cnt D) (hT : Tab w tb mb A) : ∀ e ∈ tickC n lf A, e.b < w.heap.size ∧ e.b ∈ blks A ∧ e.b ≠ tb ∧ e.b ≠ mb := fun e he => by
  obtain ⟨x, hx, _, h2, _⟩ := mem_tickC he
  rw [h2]
  exact ⟨(hT.grams x hx).lt, mem_blks.2 ⟨x, hx, rfl⟩, (hT.ne2 hx).1, (hT.ne2 hx).2⟩
/-- Behind the step: what stands but for the iterator's own. -/
structure TMid (w : World) (tb mb r : Nat) (A : List Ent) (n : Int) (W : World) (lf : Lit → Bool) (D : DataW Unit) : Prop where
  tbl : W.heap[tb]? = some (.cells #[.map (some mb)] 72 (0, 0))
  da : DA D (tickC n lf A)
  grams : ∀ e ∈ tickC n lf A, GB e.b e.g W
  kp : Kp (mb :: blks A) w W
theorem TSt.mid {w W w1 : World} {tb mb r : Nat} {A : List Ent} {n : Int} {lf : Lit → Bool} {cnt : Nat} {D : DataW Unit} (h : TSt w tb mb r A n W lf cnt D) (hT : Tab w tb mb A) (hg : W.grownBy w1 (some r)) : TMid w tb mb r A n w1 lf D := by
  have hr := h.le
  refine ⟨(hg.block tb (lt_of_heap h.tbl) (fun c => by have := hT.lt; have := Option.some.inj c; omega)).trans h.tbl, h.da, fun e he => (h.grams e he).on (hg.block e.b (h.grams e he).lt (fun c => by have := (h.blt hT e he).1; have := Option.some.inj c; omega)), ?_⟩
  refine h.kp.trans (cs := [r]) ⟨hg.os, hg.tape, hg.output, hg.size, fun k hk hn => hg.block k hk (fun c => hn (by simp [Option.some.inj c]))⟩ (by simp; right; exact hr)
theorem TMid.on {w W w1 : World} {tb mb r : Nat} {A : List Ent} {n : Int} {lf : Lit → Bool} {D : DataW Unit} (h : TMid w tb mb r A n W lf D) (hb : Below W.heap.size W w1) : TMid w tb mb r A n w1 lf D :=
  ⟨(hb.block _ (lt_of_heap h.tbl)).trans h.tbl, h.da, fun e he => (h.grams e he).keep hb, h.kp.then hb⟩
theorem TMid.drew {w W : World} {tb mb r : Nat} {A : List Ent} {n : Int} {lf : Lit → Bool} {D : DataW Unit} (h : TMid w tb mb r A n W lf D) : TMid w tb mb r A n W.drew lf D := ⟨h.tbl, h.da, h.grams, h.kp.drew⟩
/-- One is thrown away. -/
theorem TMid.gone {w W W' : World} {tb mb r : Nat} {A : List Ent} {n : Int} {lf : Lit → Bool} {D : DataW Unit} {cnt' : Nat} (h : TMid w tb mb r A n W lf D) (hT : Tab w tb mb A) (hr : w.heap.size ≤ r) {e : Ent} (he : e ∈ A) (hlf : lf (nl e.n) = true) (hce : e ∈ tickC n lf A) (hle : e.g.left ≤ n) (ht : Tidy D)
    (hrg : W'.ranges Try.prog 74 gp mb r A.length (D.del (nl e.n)) (fun z => lf z && !z.sameKey (nl e.n)) cnt') (hk : Kp [mb] W W') : TSt w tb mb r A n W' (fun z => lf z && !z.sameKey (nl e.n)) cnt' (D.del (nl e.n)) := by
  have hu : ∀ x ∈ A, x.n = e.n → x.g.left ≤ n := fun x hx hn => by rw [uniq_name hT.names hx he hn]; exact hle
  have e1 := tickC_gone (n := n) hT.wf (hT.wf e he) hlf hu
  have hne : ∀ x ∈ tickC n lf A, x.b ≠ mb := fun x hx => by
    obtain ⟨y, hy, _, h2, _⟩ := mem_tickC hx
    rw [h2]; exact (hT.ne2 hy).2
  refine ⟨(hk.block _ (lt_of_heap h.tbl) (by simp; exact hT.ne1)).trans h.tbl, hrg, ?_, fun x hx => ?_, h.kp.trans hk (by simp), hr⟩
  · rw [e1]
    refine da_del h.da ht (tickC_names hT.names) (fun x hx => ?_) hce
    obtain ⟨y, hy, h1, _⟩ := mem_tickC hx
    rw [h1]; exact hT.wf y hy
  · rw [e1] at hx
    have hx' := (mem_delA.1 hx).1
    exact (h.grams x hx').kp hk (by simp; exact hne x hx')
/-- One stays, for a while less. -/
theorem TMid.stays {w W : World} {tb mb r : Nat} {A : List Ent} {n : Int} {lf : Lit → Bool} {D : DataW Unit} {cnt' : Nat} (h : TMid w tb mb r A n W lf D) (hT : Tab w tb mb A) (hr : w.heap.size ≤ r) {e : Ent} (he : e ∈ A) (hlf : lf (nl e.n) = true) (hce : e ∈ tickC n lf A) (hle : ¬ e.g.left ≤ n)
    (hrg : W.ranges Try.prog 74 gp mb r A.length D (fun z => lf z && !z.sameKey (nl e.n)) cnt') : TSt w tb mb r A n (W.setCell ⟨e.b, 0, none⟩ (.int .i64 (e.g.left - n))) (fun z => lf z && !z.sameKey (nl e.n)) cnt' D := by
  have hG := h.grams e hce
  have e1 := tickC_stays (n := n) (g := { e.g with left := e.g.left - n }) hT.wf (hT.wf e he) hlf (fun x hx hn => by rw [uniq_name hT.names hx he hn]; exact ⟨hle, rfl⟩)
  have hk : Kp [e.b] W (W.setCell ⟨e.b, 0, none⟩ (.int .i64 (e.g.left - n))) := (Kp.refl _ _).setCell (Or.inl (by simp)) _
  have hbw : e.b < w.heap.size := (hT.grams e he).lt
  refine ⟨(hk.block _ (lt_of_heap h.tbl) (by simp; exact fun c => (hT.ne2 he).1 c.symm)).trans h.tbl, hrg.kept (grown_of_kp hk) (fun c => (hT.ne2 he).2 (Option.some.inj c).symm) (fun c => by have := Option.some.inj c; omega), ?_, fun x hx => ?_, h.kp.trans hk (by simp; left; right; exact mem_blks.2 ⟨e, he, rfl⟩), hr⟩
  · rw [e1]; exact da_upd h.da _ _
  · rw [e1] at hx
    rcases mem_updA hx with ⟨h1, h2⟩ | ⟨h1, h2, y, h3, h4, h5⟩
    · exact (h.grams x h1).setOther (pair_blocks (tickC_blocks hT.blocks) (tickC_names hT.names) h1 hce h2) 0 _
    · have : y = e := uniq_name (tickC_names hT.names) h3 hce h4
      subst this
      rw [← h5, h2]; exact hG.setLeft _

/-- The loop's step. -/
theorem wpList_next_tst {w W : World} {tb mb r : Nat} {A : List Ent} {n : Int} {lf : Lit → Bool} {cnt : Nat} {D : DataW Unit} {ops : Array Oper} {rest : List Oper} {o : Oper} {a : Act} {Q : Exit → Act → World → Prop}
    (hg : o.guard = none) (it : Operand) (hop : o.op = Op.next it false) (S : Hid (TSt w tb mb r A n W lf cnt D)) (hT : Hid (Tab w tb mb A)) (hit : a.eval it = .pointer (some ⟨r, 0, none⟩))
    (hDone : (∀ kl, lf kl = false) → wpList Try.prog ops Q rest (a.put o.dst (.tuple #[.bool false])) W)
    (hMore : ∀ (e : Ent) (w1 : World) (cnt1 : Nat), e ∈ A → lf (nl e.n) = true → e ∈ tickC n lf A → Hid (w1.ranges Try.prog 74 gp mb r A.length D (fun z => lf z && !z.sameKey (nl e.n)) cnt1) → cnt1 < cnt → Hid (W.grownBy w1 (some r)) → Hid (w1.heap.size = W.heap.size) →
      (Instr.entry (.pointer (some ⟨r, 0, none⟩))).run Try.prog w1 = .ok (.tuple #[nv e.n, .pointer (some ⟨e.b, 0, none⟩)]) w1 → wpList Try.prog ops Q rest (a.put o.dst (.tuple #[.bool true, nv e.n, .pointer (some ⟨e.b, 0, none⟩)])) w1) :
    wpList Try.prog ops Q (o :: rest) a W := by
  refine wpList_next_ranges (α := Nm) (β := Option Nat) W hg it hop 74 law74 gp nv (fun c => .pointer (c.map fun b => ⟨b, 0, none⟩)) (fun key kl hk => by obtain ⟨n, e, _⟩ := key_inv hk; exact ⟨n, e⟩) (fun v y hv => mkV_inv hv) mb r A.length D lf cnt hit S.out.rng (fun _ hl => hDone hl) ?_
  intro x c kl y w1 cnt1 hk hlf hv hat hrg hlt hgr hsz hen
  obtain ⟨m, em, wm⟩ := key_inv hk
  obtain rfl := nv_inj em
  obtain rfl : nl x = kl := by have := nkey wm; rw [hk] at this; exact (Option.some.inj this).symm
  have hhas : Maps.has D (nl x) = true := Maps.has_true_of_atKey hat
  have hex : ∃ e ∈ tickC n lf A, e.n = x := by
    refine Classical.byContradiction fun hc => ?_
    have := S.out.da.no x wm (fun e he hn => hc ⟨e, he, hn⟩)
    rw [this] at hhas; cases hhas
  obtain ⟨e, he, rfl⟩ := hex
  obtain ⟨e', he', h1, h2, h3, _⟩ := mem_tickC he
  have hee : e = e' := h3 (by rw [← h1]; exact hlf)
  subst hee
  have hy : y.1 = .lit (.int .i64 (e.b : Int)) := by rw [← hat .nil, S.out.da.at_ e he]
  obtain ⟨y1, ps⟩ := y
  simp only at hy
  subst hy
  have hcv := gp_inv_some hv
  rw [hcv] at hen ⊢
  exact hMore e w1 cnt1 he' hlf he hrg hlt hgr hsz hen

set_option maxHeartbeats 4000000 in
set_option maxRecDepth 100000 in
theorem tick_pos (tb mb : Nat) (A : List Ent) (n : Int) (w : World) (hn : 0 ≤ n) (h : Tab w tb mb A) (hl : ∀ e ∈ A, 0 ≤ e.g.left ∧ e.g.left ≤ 1000) :
    Calls Try.prog 13 #[.pointer (some ⟨tb, 0, none⟩), .int .i64 n] w fun e w' => e = .returned (.int .i64 0) ∧ Tab w' tb mb (tickA n A) ∧ Kp (mb :: blks A) w w' := by
  obtain ⟨D0, ho0, hd0⟩ := h.own
  have c0 := h.cell
  have T := Lib.hid h
  have HL := Lib.hid hl
  clear hl
  go_enter Try.func13, Try.ntmps13
  go_wp2_with (at_range; refine wpList_range_own _ rfl _ 70 rfl 74 75 law74 Try.underlying70 _ mb A.length D0 rfl ho0 ?_; intro w0 hrg0 hg0 hs0)
  go_frame
  go_loopw [6] (fun _ W => ∃ lf cnt D, TSt w tb mb w.heap.size A n W lf cnt D) (fun _ W => W.rangeLeft mb w.heap.size)
  case atStart =>
    have hb0 : Below w.heap.size w w0 := ⟨hg0.os, hg0.tape, hg0.output, hg0.size, fun k hk => hg0.block k hk (by simp)⟩
    have e0 : tickC n (Maps.has D0) A = A := tickC_all fun e he => Maps.has_true_of_atKey (hd0.at_ e he)
    exact ⟨_, _, _, (hb0.block _ h.lt).trans h.tbl, hrg0, by rw [e0]; exact hd0, by rw [e0]; exact fun e he => (h.grams e he).keep hb0, Kp.ofBelow hb0, Nat.le_refl _⟩
  case round =>
    obtain ⟨lf, cnt, D, hS⟩ := hrel
    have S := Lib.hid hS
    have hrg := hS.rng
    clear hS
    go_wp2_with (at_next; refine wpList_next_tst rfl _ rfl S T rfl ?_ ?_)
    · intro hlf
      have HLF := Lib.hid hlf
      clear hlf hrg
      go_wp2_with fail
      go_ret
      refine ⟨rfl, ?_, S.out.kp⟩
      have e1 := tickC_none (n := n) (A := A) HLF.out
      have hd := S.out.da
      have hg := S.out.grams
      rw [e1] at hd hg
      have hsub : ∀ x ∈ tickA n A, ∃ y ∈ A, x.n = y.n ∧ x.b = y.b ∧ (x.g = y.g ∨ x.g = { y.g with left := y.g.left - n }) := fun x hx => by
        rw [← e1] at hx
        obtain ⟨y, hy, h1, h2, _, h3⟩ := mem_tickC hx
        exact ⟨y, hy, h1, h2, h3⟩
      have hlen : (tickA n A).length ≤ A.length := List.length_filterMap_le _ _
      refine ⟨S.out.tbl, ⟨D, ?_, hd⟩, hg, ?_, ?_, fun x hx => ?_, fun x hx => ?_, Nat.le_trans hlen T.out.le⟩
      · have := own_tight S.out.rng.owns
        rwa [hd.size] at this
      · rw [← e1]; exact tickC_names T.out.names
      · rw [← e1]; exact tickC_blocks T.out.blocks
      · obtain ⟨y, hy, h1, _⟩ := hsub x hx
        rw [h1]; exact T.out.wf y hy
      · obtain ⟨y, hy, _, _, h3⟩ := hsub x hx
        have hi := T.out.inv y hy
        rcases h3 with h3 | h3
        · rw [h3]; exact hi
        · rw [h3]; exact ⟨hi.many, hi.reach, hi.up⟩
    · intro e w1 cnt1 he hlf hce hrg1 hlt hg1 hs1 hen
      obtain ⟨hl0, hl1⟩ := HL.out e he
      have M1 := Lib.hid ((S.out.mid T.out hg1.out).on ((Below.refl _ _).alloc (Nat.le_refl _) (.cells (nc e.n) 74)))
      have hrg2 := Lib.hid (hrg1.out.alloc (.cells (nc e.n) 74))
      have N2 := Lib.hid (NB.new w1 e.n)
      have hle0 := S.out.le
      have htd := Lib.hid (S.out.rng.owns.tidy law74)
      have HLf := Lib.hid hlf
      have hrl := hrg1.out.lt
      have hm1 := hrg1.out.owns.lt
      clear hlf hrg
      have hbl : e.b < w1.heap.size := by
        have h1 := (T.out.grams e he).lt
        omega
      have htl : tb < w1.heap.size := by have := T.out.lt; omega
      have M0 := Lib.hid (S.out.mid T.out hg1.out)
      have cl := (M0.out.grams e hce).cLeft
      have fl := (M0.out.grams e hce).free 0
      have ct : w1.cell? ⟨tb, 0, none⟩ = some (.map (some mb)) := Joins.cell_of_block M0.out.tbl 0
      clear hg1
      by_cases hle : e.g.left ≤ n
      · go_wp2_with fail
        have ct2 : (w1.alloc (.cells (nc e.n) 74)).cell? ⟨tb, 0, none⟩ = some (.map (some mb)) := Joins.cell_of_block M1.out.tbl 0
        have n0 := N2.out.c0
        have n1 := N2.out.c1
        have n2 := N2.out.c2
        have n3 := N2.out.c3
        generalize w1.alloc (.cells (nc e.n) 74) = w2 at *
        obtain ⟨w3, cnt3, hrun, hrg3, hle3, hturn⟩ := (ranges_drew hrg2.out).drop law74 Try.underlying70 (nkey (T.out.wf e he)) 0
        rw [Maps.strike_twice] at hrg3
        have S3 := Lib.hid (M1.out.drew.gone T.out hle0 he HLf.out hce hle htd.out hrg3 (kp_turned hturn))
        have HLe := Lib.hid (hrg3.left_eq)
        have HLo := Lib.hid (S.out.rng.left_eq)
        clear hrg3 hturn
        go_region
        go_wp2_with fail
        go_roundw
        case rel => exact ⟨_, _, _, S3.out⟩
        case measure => rw [HLe.out, HLo.out]; omega
      · have S2 := Lib.hid (M0.out.stays T.out hle0 he HLf.out hce hle hrg1.out)
        have S3 := Lib.hid (S2.out.of T.out ((Below.refl _ _).alloc (Nat.le_refl _) (.cells (nc e.n) 74)) (S2.out.rng.alloc _))
        have HLe := Lib.hid (S3.out.rng.left_eq)
        have HLo := Lib.hid (S.out.rng.left_eq)
        go_wp2_with fail
        go_roundw
        case rel => exact ⟨_, _, _, S3.out⟩
        case measure =>
          have e1 := HLe.out
          have e2 := HLo.out
          rw [e2]
          exact Nat.lt_of_le_of_lt (Nat.le_of_eq e1) hlt
end Go.Proofs.Ytfnmcnbiahfnfaa
