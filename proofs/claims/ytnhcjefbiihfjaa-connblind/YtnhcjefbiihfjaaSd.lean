/-
  Contract of sends (a pair's): what goes out now.
-/
import Derived.Test.YtnhcjefbiihfjaaPa
import Derived.Deep.CutBlock
namespace Go.Proofs.Ytnhcjefbiihfjaa
open Go.RowKit
open Tc (Sg gchk gv gc)
set_option linter.unusedVariables false
set_option linter.unusedSimpArgs false

theorem outL_len {k : Nat} {c : Cn} (ok : COk k c) : c.outL.length ≤ k + 3000 := by
  have ok1 : COk k { c with rst := [] } := { ok with rs := Nat.zero_le _, rn := fun n hn => by cases hn }
  have h1 := outP_len ok1
  have h2 := ok.rs
  unfold Cn.outL
  rw [List.length_append, List.length_map]
  split
  · simp; omega
  · omega
/-! What a pair does with a segment that the first, the second one sends. -/
def edgeOf (g : Sg) : Nat := (((g.ak : Int) + g.win) % 4294967296).toNat
theorem edgeOf_eq (g : Sg) : ((edgeOf g : Nat) : Int) = ((g.ak : Int) + g.win % 4294967296) % 4294967296 := by unfold edgeOf; omega
def edA (p : Pr) (g : Sg) : Pr := if g.ack = true ∧ g.rst = false ∧ (p.t0 = false ∨ Sq.dif p.e0 (edgeOf g) < 0) then { p with e0 := edgeOf g, t0 := true } else p
def edB (p : Pr) (g : Sg) : Pr := if g.ack = true ∧ g.rst = false ∧ (p.t1 = false ∨ Sq.dif p.e1 (edgeOf g) < 0) then { p with e1 := edgeOf g, t1 := true } else p
def push (p : Pr) (g : Sg) : Pr := if p.air.length < 200 then { p with air := p.air ++ [g] } else p
def sd0 (p : Pr) (g : Sg) : Pr := push (edB p g) g
def sd1 (p : Pr) (g : Sg) : Pr := push (edA p g) g
/-- It is of these two ends, in its form, and within what was let in. -/
structure Gd (u v : Nat × Int) (t : Bool) (ed : Nat) (g : Sg) : Prop where
  sa : g.sa = u.1
  sp : g.sp = u.2
  da : g.da = v.1
  dp : g.dp = v.2
  ck : gchk g = 0
  le : ¬ (t = true ∧ 0 < g.body.size ∧ Sq.dif (((ed : Int) + 1) % 4294967296) (((g.sq : Int) + g.body.size) % 4294967296) < 0)
def goes0 : Pr → List Sg → Prop
  | _, [] => True
  | p, g :: r => Gd (1, 40000) (2, 80) p.t0 p.e0 g ∧ goes0 (sd0 p g) r
def goes1 : Pr → List Sg → Prop
  | _, [] => True
  | p, g :: r => Gd (2, 80) (1, 40000) p.t1 p.e1 g ∧ goes1 (sd1 p g) r
theorem goes0_at : ∀ (p : Pr) (l : List Sg) (n : Nat) (g : Sg), goes0 p l → l[n]? = some g → Gd (1, 40000) (2, 80) ((l.take n).foldl sd0 p).t0 ((l.take n).foldl sd0 p).e0 g
  | p, [], n, g, _, h => by simp at h
  | p, a :: r, 0, g, h, hg => by
    obtain rfl : a = g := by simpa using hg
    exact h.1
  | p, a :: r, n + 1, g, h, hg => by
    have := goes0_at (sd0 p a) r n g h.2 (by simpa using hg)
    simpa using this
theorem goes1_at : ∀ (p : Pr) (l : List Sg) (n : Nat) (g : Sg), goes1 p l → l[n]? = some g → Gd (2, 80) (1, 40000) ((l.take n).foldl sd1 p).t1 ((l.take n).foldl sd1 p).e1 g
  | p, [], n, g, _, h => by simp at h
  | p, a :: r, 0, g, h, hg => by
    obtain rfl : a = g := by simpa using hg
    exact h.1
  | p, a :: r, n + 1, g, h, hg => by
    have := goes1_at (sd1 p a) r n g h.2 (by simpa using hg)
    simpa using this
theorem fold_at {f : Pr → Sg → Pr} (p : Pr) (l : List Sg) (n : Nat) (g : Sg) (h : l[n]? = some g) : (l.take (n + 1)).foldl f p = f ((l.take n).foldl f p) g := by
  rw [List.take_add_one, h]; simp
/-- While one segment is looked at: y is where it is, v the row that it is of. -/
structure SQ (w : World) (L : Pl) (p : Pr) (c e : Cn) (v : Value) (l : List Sg) (q : Sg) (y : Nat) (W : World) : Prop where
  pm : PM w L p c e W
  gb : Tc.GB y q W
  row : SRow W w.heap.size v l
  ne : ∀ k, v.ownBlock = some k → L.a.ownBlock ≠ some k
  na : L.a.ownBlock ≠ some y
  nv : v.ownBlock ≠ some y
section
variable {w W W' : World} {L : Pl} {p : Pr} {c e : Cn} {v : Value} {l : List Sg} {q : Sg} {y : Nat}
theorem SQ.keep (h : SQ w L p c e v l q y W) (u : Below W.heap.size W W') : SQ w L p c e v l q y W' := ⟨h.pm.keep u, h.gb.keep u, h.row.on u, h.ne, h.na, h.nv⟩
theorem SQ.drew (h : SQ w L p c e v l q y W) : SQ w L p c e v l q y W.drew := h.keep (Below.refl _ _).drew
theorem SQ.new (h : PM w L p c e W) (hr : SRow W w.heap.size v l) (hn : ∀ k, v.ownBlock = some k → L.a.ownBlock ≠ some k) (q : Sg) : SQ w L p c e v l q W.heap.size (segAt W q) :=
  ⟨h.keep (segAt_be W q), segAt_gb W q, hr.on (segAt_be W q), hn, fun e => by have := (h.row.lt _ e).2; omega, fun e => by have := (hr.lt _ e).2; omega⟩
theorem SQ.set (h : SQ w L p c e v l q y W) (i : Nat) (x : Value) (p' : Pr) (hq : (pac p (ptr L.b) (ptr L.d) L.a).setIfInBounds i x = pac p' (ptr L.b) (ptr L.d) L.a) (ha : p'.air = p.air) : SQ w L p' c e v l q y (W.setCell ⟨L.x, i, none⟩ x) :=
  ⟨h.pm.set i x p' hq ha, (Below.heap_setCell _ _ _ _ (fun e => ne_type h.gb h.pm.blk (by decide) e)).trans h.gb, h.row.pair h.pm.blk i x, h.ne, h.na, h.nv⟩
/-- What a segment's ends are held against. -/
def sC0 (x y : Nat) (q : Sg) (W : World) : Prop :=
  W.cell? ⟨x, 2, none⟩ = some (.int .u32 1) ∧ W.cell? ⟨x, 3, none⟩ = some (.int .i64 40000) ∧ W.cell? ⟨x, 4, none⟩ = some (.int .u32 2) ∧ W.cell? ⟨x, 5, none⟩ = some (.int .i64 80) ∧
  W.cell? ⟨y, 0, none⟩ = some (.int .u32 1) ∧ W.cell? ⟨y, 1, none⟩ = some (.int .i64 40000) ∧ W.cell? ⟨y, 2, none⟩ = some (.int .u32 2) ∧ W.cell? ⟨y, 3, none⟩ = some (.int .i64 80) ∧ Tc.GB y q W
def sC1 (x y : Nat) (q : Sg) (W : World) : Prop :=
  W.cell? ⟨x, 2, none⟩ = some (.int .u32 1) ∧ W.cell? ⟨x, 3, none⟩ = some (.int .i64 40000) ∧ W.cell? ⟨x, 4, none⟩ = some (.int .u32 2) ∧ W.cell? ⟨x, 5, none⟩ = some (.int .i64 80) ∧
  W.cell? ⟨y, 0, none⟩ = some (.int .u32 2) ∧ W.cell? ⟨y, 1, none⟩ = some (.int .i64 80) ∧ W.cell? ⟨y, 2, none⟩ = some (.int .u32 1) ∧ W.cell? ⟨y, 3, none⟩ = some (.int .i64 40000) ∧ Tc.GB y q W
theorem SQ.mid (h : SQ w L p c e v l q y W) (hg : W.grownBy W' L.a.ownBlock) : W'.cell? ⟨L.x, 6, none⟩ = some L.a ∧ W'.frozen? ⟨L.x, 6, none⟩ = false ∧ Tc.GB y q W' := by
  have hb : W'.heap[L.x]? = W.heap[L.x]? := hg.block _ h.pm.lt fun e => by
    obtain ⟨cur, hh⟩ := h.pm.row.blk e.symm
    exact ne_type hh h.pm.blk (by decide) rfl
  refine ⟨?_, ?_, (hg.block y h.gb.lt fun e => h.na e.symm).trans h.gb⟩
  · rw [World.cell?_of_block (w := W) hb]; exact h.pm.cell 6
  · rw [World.frozen?_of_block (w := W) hb]; exact h.pm.free 6
/-- It is in the air. -/
theorem SQ.air (h : SQ w L p c e v l q y W) {a' : Value} (hg : W.grownBy W' L.a.ownBlock) (own : ORow W' w.heap.size a' (p.air ++ [q])) (hob : a'.ownBlock = L.a.ownBlock ∨ ∃ k, a'.ownBlock = some k ∧ W.heap.size ≤ k) :
    SQ w { L with a := a' } { p with air := p.air ++ [q] } c e v l q y (W'.setCell ⟨L.x, 6, none⟩ a') := by
  have hk : Kp L.a.ownBlock.toList W W' := ⟨hg.os, hg.tape, hg.output, hg.size, fun k hk hn => hg.block k hk (fun e => hn (by rw [← e]; simp))⟩
  have hx : ∀ x, x ∈ L.a.ownBlock.toList → ∃ cur, W.heap[x]? = some (.cells cur 35 (0, 0)) := fun x hx => h.pm.row.blk (by simpa using hx)
  have h1 : PM w { L with a := a' } { p with air := p.air ++ [q] } c e (W'.setCell ⟨L.x, 6, none⟩ a') := by
    have hb : W'.heap[L.x]? = some (.cells (pac p (ptr L.b) (ptr L.d) L.a) 64 (0, 0)) := (hk.block _ h.pm.lt fun hm => by obtain ⟨cur, hh⟩ := hx _ hm; exact ne_type hh h.pm.blk (by decide) rfl).trans h.pm.blk
    have hr := own
    have hk2 : Kp [L.x] W' (W'.setCell ⟨L.x, 6, none⟩ a') := (Kp.refl _ _).setCell (Or.inl (by simp)) _
    have hca : CT L.b c L.P W' := h.pm.two.ca.kp hk fun x hx' hm => by obtain ⟨cur, hh⟩ := hx _ hm; exact h.pm.two.ca.no_seg hh hx'
    have hcb : CT L.d e L.Q W' := h.pm.two.cb.kp hk fun x hx' hm => by obtain ⟨cur, hh⟩ := hx _ hm; exact h.pm.two.cb.no_seg hh hx'
    refine ⟨Joins.block_setCell hb a', hr.pair hb 6 a', ⟨hca.kp hk2 fun x hx hm => ?_, hcb.kp hk2 fun x hx hm => ?_, (h.pm.two.be.grown hg h.pm.two.be.size fun j hj => (h.pm.row.lt j hj).1).setCell h.pm.lo _, h.pm.two.la, h.pm.two.lb, h.pm.two.dj⟩, h.pm.lo⟩
    · obtain rfl : x = L.x := by simpa using hm
      exact hca.no_pair hb hx
    · obtain rfl : x = L.x := by simpa using hm
      exact hcb.no_pair hb hx
  have hy : y ≠ L.x := ne_type h.gb h.pm.blk (by decide)
  have hrow : SRow W' w.heap.size v l := h.row.kp hk fun g hg' hm => h.ne g hg' (by simpa using hm)
  refine ⟨h1, ?_, hrow.kp (bs := [L.x]) ((Kp.refl _ _).setCell (Or.inl (by simp)) _) fun g hg' => ?_, fun k hk' e => ?_, fun e => ?_, h.nv⟩
  · refine (Below.heap_setCell _ _ _ _ hy).trans ((hk.block y h.gb.lt fun hm => h.na (by simpa using hm)).trans h.gb)
  · obtain ⟨cur, hh⟩ := h.row.blk hg'
    simpa using ne_type hh h.pm.blk (by decide)
  · rcases hob with e2 | ⟨k2, e2, hk2⟩
    · exact h.ne k hk' (e2.symm.trans e)
    · have := (h.row.lt k hk').2
      have : k2 = k := Option.some.inj (e2.symm.trans e)
      omega
  · rcases hob with e2 | ⟨k2, e2, hk2⟩
    · exact h.na (e2.symm.trans e)
    · have := h.gb.lt
      have : k2 = y := Option.some.inj (e2.symm.trans e)
      omega
end
section
variable {w W0 : World} {x b d k k' : Nat} {a : Value} {P Q : Pt} {p : Pr} {c e : Cn}
set_option maxRecDepth 100000 in
set_option maxHeartbeats 8000000 in
theorem sends_any (h : PM w ⟨x, a, b, P, d, Q⟩ p c e W0) (okc : COk k c) (oke : COk k' e) (hk : Few k) (hk' : Few k') (hg0 : goes0 p c.outL) (hg1 : goes1 (c.outL.foldl sd0 p) e.outL) :
    Calls Try.prog 17 #[ptr x] W0 fun r w' => r = .returned (.bool true) ∧ ∃ a' P' Q', PM w ⟨x, a', b, P', d, Q'⟩ (e.outL.foldl sd1 (c.outL.foldl sd0 p)) c.outC e.outC w' := by
  obtain ⟨i0, hi0, hz0, hz1, hz2⟩ := info_parts info_seg
  have HUs := Lib.hid Try.underlying35
  have x0 : W0.cell? ⟨x, 0, none⟩ = some (ptr b) := h.cell 0
  have x1 : W0.cell? ⟨x, 1, none⟩ = some (ptr d) := h.cell 1
  have OKC := Lib.hid okc
  have OKE := Lib.hid oke
  have HK := Lib.hid hk
  have HK' := Lib.hid hk'
  have H0 := Lib.hid hg0
  have H1 := Lib.hid hg1
  have HH := Lib.hid h
  have HI0 : ∀ W : World, (Instr.index 58 (.agg #[ptr b, ptr d]) (.int .i64 0)).run Try.prog W = .ok (ptr b) W := fun W => by kernel_rfl
  have HI1 : ∀ W : World, (Instr.index 58 (.agg #[ptr b, ptr d]) (.int .i64 1)).run Try.prog W = .ok (ptr d) W := fun W => by kernel_rfl
  clear okc oke hk hk' hg0 hg1 h
  go_enter Try.func17, Try.ntmps17
  go_wp2_with fail
  go_loopw [12] (fun i W => ∃ (a' : Value) (P' Q' : Pt) (p' : Pr) (c' e' : Cn), PM w ⟨x, a', b, P', d, Q'⟩ p' c' e' W ∧ ((i = .int .i64 0 ∧ p = p' ∧ c = c' ∧ e = e') ∨ (i = .int .i64 1 ∧ c.outL.foldl sd0 p = p' ∧ c.outC = c' ∧ e = e') ∨ (i = .int .i64 2 ∧ e.outL.foldl sd1 (c.outL.foldl sd0 p) = p' ∧ c.outC = c' ∧ e.outC = e'))) (fun i _ => 2 - (intOf i).toNat)
  case atStart => exact ⟨a, P, Q, p, c, e, HH.out, Or.inl ⟨rfl, rfl, rfl, rfl⟩⟩
  case round =>
    obtain ⟨a1, P1, Q1, p1, c1, e1, hm, hcase⟩ := hrel
    rcases hcase with ⟨rfl, rfl, rfl, rfl⟩ | ⟨rfl, rfl, rfl, rfl⟩ | ⟨rfl, rfl, rfl, rfl⟩
    · have HM := Lib.hid hm
      have HOut := Lib.hid (out_any (hm.two.ca) OKC.out HK.out)
      have hal := hm.row.lt
      have hbe := hm.be.size
      clear hm
      go_wp2_with fail
      refine HOut.out.mono ?_; rintro r w2 ⟨v, rfl, r2, P2, t2, u2⟩
      have M2 := Lib.hid (HM.out.left t2 u2)
      obtain ⟨o, g, cap, hv, hgo⟩ := r2.form
      have hne : ∀ k, v.ownBlock = some k → a1.ownBlock ≠ some k := fun k hk e => by
        have := (r2.lt k hk).1
        have := (hal k e).2
        omega
      have R2 := Lib.hid (r2.base hbe)
      subst hv
      clear r2 t2 u2 HM HOut hal
      have G0 := Lib.hid (goes0_at p c.outL)
      have HFd : Hid (∀ (n : Nat) q, c.outL[n]? = some q → (c.outL.take (n + 1)).foldl sd0 p = sd0 ((c.outL.take n).foldl sd0 p) q) := fun n q hq => fold_at _ _ n q hq
      have HTk : Hid ((c.outL.take c.outL.length).foldl sd0 p = c.outL.foldl sd0 p) := by show _ = _; rw [List.take_length]
      have HQx : ∀ n : Nat, n < c.outL.length → ∃ q, c.outL[n]? = some q := fun n hn => ⟨_, List.getElem?_eq_getElem hn⟩
      have HGo := H0
      have hle : c.outL.length ≤ 1000000000000 := by
        have h8 := outL_len OKC.out
        have h9 := HK.out
        unfold Few at h9
        omega
      generalize hlen : c.outL.length = len at *
      clear hlen
      go_wp2_with fail
      go_loopw [19] (fun j W => ∃ (n : Nat) (a2 : Value), n ≤ len ∧ j = .int .i64 (n : Int) ∧ PM w ⟨x, a2, b, P2, d, Q1⟩ ((c.outL.take n).foldl sd0 p) c.outC e W ∧ Hid (SRow W w.heap.size (.slice o len cap) c.outL) ∧ Hid (∀ k, (Value.slice o len cap).ownBlock = some k → a2.ownBlock ≠ some k)) (fun j _ => len - (intOf j).toNat)
      case atStart => exact ⟨0, a1, Nat.zero_le _, rfl, M2.out, R2, hne⟩
      case round =>
        obtain ⟨n, a2, hn, rfl, hm3, R3, NE⟩ := hrel
        have M3 := Lib.hid hm3
        clear hm3
        by_cases hlt : n < len
        · obtain ⟨q, hq⟩ := HQx n hlt
          obtain ⟨rfl, _, _⟩ := hgo (by omega)
          obtain ⟨esa, esp, eda, edp, eck, ele⟩ := G0.out n q HGo.out hq
          have HF2 := Lib.hid (HFd.out n q hq)
          have RR := Lib.hid (R3.out.range hq)
          have S4 : Hid (SQ w ⟨x, a2, b, P2, d, Q1⟩ ((c.outL.take n).foldl sd0 p) c.outC e (.slice (some ⟨g, 0, none⟩) len cap) c.outL q wr.heap.size ((wr.alloc (.cells gzc 35)).setCells wr.heap.size 0 (gcl q))) := SQ.new M3.out R3.out NE.out q
          have GB0 := Lib.hid (seg0 wr)
          have HCk : Hid (∀ W, Calls Try.prog 29 #[gv q] W fun e' w' => e' = .returned (.int .i64 0) ∧ Below W.heap.size W w') := fun W => by have := Tc.gchk_any q W; rwa [eck] at this
          have ELE := Lib.hid ele
          have hqw : Hid (0 ≤ q.win ∧ q.win ≤ 65535) := (chk_ok eck).1
          have hqs : Hid (q.body.size ≤ 1000) := (chk_ok eck).2.2
          generalize (c.outL.take n).foldl sd0 p = p2 at *
          have HS7 : Hid (∀ {W y}, SQ w ⟨x, a2, b, P2, d, Q1⟩ p2 c.outC e (.slice (some ⟨g, 0, none⟩) len cap) c.outL q y W → sC0 x y q W) := fun h => ⟨h.pm.cell 2, h.pm.cell 3, h.pm.cell 4, h.pm.cell 5, by have := h.gb.c0; rw [esa] at this; exact this, by have := h.gb.c1; rw [esp] at this; exact this, by have := h.gb.c2; rw [eda] at this; exact this, by have := h.gb.c3; rw [edp] at this; exact this, h.gb⟩
          clear HQx hgo hq M3 esa esp eda edp eck ele HFd M2 R2 hne G0
          go_upto_region 7 with (first | (refine wpList_load_mid rfl 35 _ rfl g (n * 13) rfl (gcl q) _ RR.out HUs.out rfl infoSeg ?_) | (refine wpList_store_mid rfl 35 _ _ rfl wr.heap.size 0 (gc q) rfl rfl (GB.there GB0.out) infoSeg (gc_one' q) ?_))
          generalize (wr.alloc (.cells gzc 35)).setCells wr.heap.size 0 (gcl q) = W4 at *
          generalize wr.heap.size = y at *
          clear GB0 RR
          have hw0 : IntKind.i64.wrap 0 = 0 := by rw [IntKind.wrap_i64]; rfl
          have hw1 : IntKind.i64.wrap 1 = 1 := by rw [IntKind.wrap_i64]; rfl
          simp only [Act.put]
          go_cut [48] from 23 to 48 (fun t W => t = .bool false ∧ SQ w ⟨x, a2, b, P2, d, Q1⟩ p2 c.outC e (.slice (some ⟨g, 0, none⟩) len cap) c.outL q y W)
          case first =>
            refine wp_region_held_drew (S := (sC0 x y q)) (by kernel_rfl) (HS7.out S4.out.drew) (fun hHeld => ?_)
            refine takeH (i := 0) (d := some 23) (v := ?_) rfl rfl (by kernel_rfl) (by kernel_rfl) (by kernel_rfl) (fun _ _ _ h => h) (Or.inl ⟨by rfl, ?_⟩) hHeld ?_
            rotate_left
            · intro w' hSw; (try dsimp only at hSw); go_simp; try with_reducible rfl
            simp only [Act.put, List.setIfInBounds_toArray, List.set_cons_zero, List.set_cons_succ]
            refine takeH (i := 1) (d := some 24) (v := ?_) rfl rfl (by kernel_rfl) (by kernel_rfl) (by kernel_rfl) (fun _ _ _ h => h) (Or.inl ⟨by rfl, ?_⟩) hHeld ?_
            rotate_left
            · intro w' hSw; (try dsimp only at hSw); obtain ⟨q1, q2, q3, q4, q5, q6, q7, q8, q9⟩ := hSw; clear q9; go_simp; try with_reducible rfl
            simp only [Act.put, List.setIfInBounds_toArray, List.set_cons_zero, List.set_cons_succ]
            refine takeH (i := 2) (d := some 25) (v := ?_) rfl rfl (by kernel_rfl) (by kernel_rfl) (by kernel_rfl) (fun _ _ _ h => h) (Or.inl ⟨by rfl, ?_⟩) hHeld ?_
            rotate_left
            · intro w' hSw; (try dsimp only at hSw); go_simp; try with_reducible rfl
            simp only [Act.put, List.setIfInBounds_toArray, List.set_cons_zero, List.set_cons_succ]
            refine takeH (i := 3) (d := some 26) (v := ?_) rfl rfl (by kernel_rfl) (by kernel_rfl) (by kernel_rfl) (fun _ _ _ h => h) (Or.inl ⟨by rfl, ?_⟩) hHeld ?_
            rotate_left
            · intro w' hSw; (try dsimp only at hSw); go_simp; try with_reducible rfl
            simp only [Act.put, List.setIfInBounds_toArray, List.set_cons_zero, List.set_cons_succ]
            refine takeH (i := 4) (d := some 27) (v := ?_) rfl rfl (by kernel_rfl) (by kernel_rfl) (by kernel_rfl) (fun _ _ _ h => h) (Or.inl ⟨by rfl, ?_⟩) hHeld ?_
            rotate_left
            · intro w' hSw; (try dsimp only at hSw); go_simp; try with_reducible rfl
            simp only [Act.put, List.setIfInBounds_toArray, List.set_cons_zero, List.set_cons_succ]
            refine takeH (i := 5) (d := some 28) (v := ?_) rfl rfl (by kernel_rfl) (by kernel_rfl) (by kernel_rfl) (fun _ _ _ h => h) (Or.inl ⟨by rfl, ?_⟩) hHeld ?_
            rotate_left
            · intro w' hSw; (try dsimp only at hSw); go_simp; try with_reducible rfl
            simp only [Act.put, List.setIfInBounds_toArray, List.set_cons_zero, List.set_cons_succ]
            refine takeH (i := 6) (d := some 29) (v := ?_) rfl rfl (by kernel_rfl) (by kernel_rfl) (by kernel_rfl) (fun _ _ _ h => h) (Or.inl ⟨by rfl, ?_⟩) hHeld ?_
            rotate_left
            · intro w' hSw; (try dsimp only at hSw); go_simp; try with_reducible rfl
            simp only [Act.put, List.setIfInBounds_toArray, List.set_cons_zero, List.set_cons_succ]
            refine takeH (i := 7) (d := some 30) (v := ?_) rfl rfl (by kernel_rfl) (by kernel_rfl) (by kernel_rfl) (fun _ _ _ h => h) (Or.inl ⟨by rfl, ?_⟩) hHeld ?_
            rotate_left
            · intro w' hSw; (try dsimp only at hSw); obtain ⟨q1, q2, q3, q4, q5, q6, q7, q8, q9⟩ := hSw; clear q9; go_simp; try with_reducible rfl
            simp only [Act.put, List.setIfInBounds_toArray, List.set_cons_zero, List.set_cons_succ]
            refine takeH (i := 8) (d := some 31) (v := ?_) rfl rfl (by kernel_rfl) (by kernel_rfl) (by kernel_rfl) (fun _ _ _ h => h) (Or.inl ⟨by rfl, ?_⟩) hHeld ?_
            rotate_left
            · intro w' hSw; (try dsimp only at hSw); go_simp; try with_reducible rfl
            simp only [Act.put, List.setIfInBounds_toArray, List.set_cons_zero, List.set_cons_succ]
            refine takeH (i := 9) (d := some 32) (v := ?_) rfl rfl (by kernel_rfl) (by kernel_rfl) (by kernel_rfl) (fun _ _ _ h => h) (Or.inl ⟨by rfl, ?_⟩) hHeld ?_
            rotate_left
            · intro w' hSw; (try dsimp only at hSw); go_simp; try with_reducible rfl
            simp only [Act.put, List.setIfInBounds_toArray, List.set_cons_zero, List.set_cons_succ]
            refine takeH (i := 10) (d := some 33) (v := ?_) rfl rfl (by kernel_rfl) (by kernel_rfl) (by kernel_rfl) (fun _ _ _ h => h) (Or.inl ⟨by rfl, ?_⟩) hHeld ?_
            rotate_left
            · intro w' hSw; (try dsimp only at hSw); go_simp; try with_reducible rfl
            simp only [Act.put, List.setIfInBounds_toArray, List.set_cons_zero, List.set_cons_succ]
            refine takeH (i := 11) (d := some 34) (v := ?_) rfl rfl (by kernel_rfl) (by kernel_rfl) (by kernel_rfl) (fun _ _ _ h => h) (Or.inl ⟨by rfl, ?_⟩) hHeld ?_
            rotate_left
            · intro w' hSw; (try dsimp only at hSw); obtain ⟨q1, q2, q3, q4, q5, q6, q7, q8, q9⟩ := hSw; clear q9; go_simp; try with_reducible rfl
            simp only [Act.put, List.setIfInBounds_toArray, List.set_cons_zero, List.set_cons_succ]
            refine takeH (i := 12) (d := some 35) (v := ?_) rfl rfl (by kernel_rfl) (by kernel_rfl) (by kernel_rfl) (fun _ _ _ h => h) (Or.inl ⟨by rfl, ?_⟩) hHeld ?_
            rotate_left
            · intro w' hSw; (try dsimp only at hSw); go_simp; try with_reducible rfl
            simp only [Act.put, List.setIfInBounds_toArray, List.set_cons_zero, List.set_cons_succ]
            refine takeH (i := 13) (d := some 36) (v := ?_) rfl rfl (by kernel_rfl) (by kernel_rfl) (by kernel_rfl) (fun _ _ _ h => h) (Or.inl ⟨by rfl, ?_⟩) hHeld ?_
            rotate_left
            · intro w' hSw; (try dsimp only at hSw); go_simp; try with_reducible rfl
            simp only [Act.put, List.setIfInBounds_toArray, List.set_cons_zero, List.set_cons_succ]
            refine takeH (i := 14) (d := some 37) (v := ?_) rfl rfl (by kernel_rfl) (by kernel_rfl) (by kernel_rfl) (fun _ _ _ h => h) (Or.inl ⟨by rfl, ?_⟩) hHeld ?_
            rotate_left
            · intro w' hSw; (try dsimp only at hSw); go_simp; try with_reducible rfl
            simp only [Act.put, List.setIfInBounds_toArray, List.set_cons_zero, List.set_cons_succ]
            refine takeH (i := 15) (d := some 38) (v := ?_) rfl rfl (by kernel_rfl) (by kernel_rfl) (by kernel_rfl) (fun _ _ _ h => h) (Or.inl ⟨by rfl, ?_⟩) hHeld ?_
            rotate_left
            · intro w' hSw; (try dsimp only at hSw); go_simp; try with_reducible rfl
            simp only [Act.put, List.setIfInBounds_toArray, List.set_cons_zero, List.set_cons_succ]
            refine takeH (i := 16) (d := some 39) (v := ?_) rfl rfl (by kernel_rfl) (by kernel_rfl) (by kernel_rfl) (fun _ _ _ h => h) (Or.inl ⟨by rfl, ?_⟩) hHeld ?_
            rotate_left
            · intro w' hSw; (try dsimp only at hSw); go_simp; try with_reducible rfl
            simp only [Act.put, List.setIfInBounds_toArray, List.set_cons_zero, List.set_cons_succ]
            refine takeH (i := 17) (d := some 40) (v := ?_) rfl rfl (by kernel_rfl) (by kernel_rfl) (by kernel_rfl) (fun _ _ _ h => h) (Or.inl ⟨by rfl, ?_⟩) hHeld ?_
            rotate_left
            · intro w' hSw; (try dsimp only at hSw); go_simp; try with_reducible rfl
            simp only [Act.put, List.setIfInBounds_toArray, List.set_cons_zero, List.set_cons_succ]
            refine takeH (i := 18) (d := some 41) (v := ?_) rfl rfl (by kernel_rfl) (by kernel_rfl) (by kernel_rfl) (fun _ _ _ h => h) (Or.inl ⟨by rfl, ?_⟩) hHeld ?_
            rotate_left
            · intro w' hSw; (try dsimp only at hSw); obtain ⟨q1, q2, q3, q4, q5, q6, q7, q8, q9⟩ := hSw; clear q9; go_simp; try with_reducible rfl
            simp only [Act.put, List.setIfInBounds_toArray, List.set_cons_zero, List.set_cons_succ]
            refine takeH (i := 19) (d := some 42) (v := ?_) rfl rfl (by kernel_rfl) (by kernel_rfl) (by kernel_rfl) (fun _ _ _ h => h) (Or.inl ⟨by rfl, ?_⟩) hHeld ?_
            rotate_left
            · intro w' hSw; (try dsimp only at hSw); go_simp; try with_reducible rfl
            simp only [Act.put, List.setIfInBounds_toArray, List.set_cons_zero, List.set_cons_succ]
            refine takeH (i := 20) (d := some 43) (v := ?_) rfl rfl (by kernel_rfl) (by kernel_rfl) (by kernel_rfl) (fun _ _ _ h => h) (Or.inl ⟨by rfl, ?_⟩) hHeld ?_
            rotate_left
            · intro w' hSw; (try dsimp only at hSw); go_simp; try with_reducible rfl
            simp only [Act.put, List.setIfInBounds_toArray, List.set_cons_zero, List.set_cons_succ]
            refine takeH (i := 21) (d := some 44) (v := ?_) rfl rfl (by kernel_rfl) (by kernel_rfl) (by kernel_rfl) (fun _ _ _ h => h) (Or.inl ⟨by rfl, ?_⟩) hHeld ?_
            rotate_left
            · intro w' hSw; (try dsimp only at hSw); go_simp; try with_reducible rfl
            simp only [Act.put, List.setIfInBounds_toArray, List.set_cons_zero, List.set_cons_succ]
            refine takeH (i := 22) (d := some 45) rfl rfl (by kernel_rfl) (by kernel_rfl) (by kernel_rfl) (fun _ _ _ h => h) (yieldsIf_load_mid (by rfl) _ _ rfl _ _ rfl (gcl q) _ (fun w' hSw => GB.range hSw.2.2.2.2.2.2.2.2) HUs.out rfl infoSeg) hHeld ?_
            simp only [Act.put, List.setIfInBounds_toArray, List.set_cons_zero, List.set_cons_succ]
            refine wpAnyH_ready (rs := [23]) (by kernel_rfl) (by simp) ?_
            refine AllReadyH.cons rfl (fun K hK => ?_) (AllReadyH.nil)
            go_simp
            refine (HCk.out _).mono ?_; rintro e5 w5 ⟨rfl, hb5⟩
            have S5 := Lib.hid (S4.out.drew.keep hb5)
            clear hHeld
            refine hK.out _ _ (HS7.out S5.out) (fun hHeld => ?_)
            clear hK K
            try simp only [Act.put, List.setIfInBounds_toArray, List.set_cons_zero, List.set_cons_succ]
            refine takeH (i := 24) (d := some 47) (v := ?_) rfl rfl (by kernel_rfl) (by kernel_rfl) (by kernel_rfl) (fun _ _ _ h => h) (Or.inl ⟨by rfl, ?_⟩) hHeld ?_
            rotate_left
            · intro w' hSw; (try dsimp only at hSw); go_simp; try with_reducible rfl
            simp only [Act.put, List.setIfInBounds_toArray, List.set_cons_zero, List.set_cons_succ]
            refine takeH (i := 25) (d := some 48) (v := ?_) rfl rfl (by kernel_rfl) (by kernel_rfl) (by kernel_rfl) (fun _ _ _ h => h) (Or.inl ⟨by rfl, ?_⟩) hHeld ?_
            rotate_left
            · intro w' hSw; (try dsimp only at hSw); go_simp; try with_reducible rfl
            simp only [Act.put, List.setIfInBounds_toArray, List.set_cons_zero, List.set_cons_succ]
            refine wpAnyH_done (by kernel_rfl) ?_ _
            go_wp2_with fail
            go_meet
            exact ⟨rfl, S5.out⟩
          obtain ⟨rfl, hcut⟩ := hcut
          have S8 := Lib.hid hcut
          clear hcut S4 HS7 HCk
          go_upto_region 9 with fail
          go_cut [77] from 49 to 77 (fun t W => t = .bool false ∧ SQ w ⟨x, a2, b, P2, d, Q1⟩ p2 c.outC e (.slice (some ⟨g, 0, none⟩) len cap) c.outL q y W)
          case first =>
            have u0 : wc.cell? ⟨x, 17, none⟩ = some (.bool p2.t0) := S8.out.pm.cell 17
            have u1 : wc.cell? ⟨x, 15, none⟩ = some (.int .u32 (p2.e0 : Int)) := S8.out.pm.cell 15
            have u2 := S8.out.gb.c4
            have u3 := S8.out.gb.c12
            cases ht : p2.t0 with
            | false =>
              rw [ht] at u0
              clear ht
              go_wp2_with fail
              go_quiet (fail)
              go_wp2_with fail
              go_meet
              exact ⟨rfl, S8.out.keep (below_drewN _ _)⟩
            | true =>
              rw [ht] at u0
              by_cases hz : 0 < q.body.size
              · have hl : ¬ Sq.dif (((p2.e0 : Int) + 1) % 4294967296) (((q.sq : Int) + q.body.size) % 4294967296) < 0 := fun e2 => ELE.out ⟨ht, hz, e2⟩
                have HLe : Hid (∀ W u v, u = ((p2.e0 : Int) + 1) % 4294967296 → v = ((q.sq : Int) + q.body.size) % 4294967296 → Calls Try.prog 36 #[.int .u32 u, .int .u32 v] W fun e' w' => e' = .returned (.bool false) ∧ w' = W) := fun W u v hu hv => by
                  have := Sq.less_any u v W
                  rwa [hu, hv, decide_eq_false hl, ← hu, ← hv] at this
                have z1 : decide (0 < q.body.size) = true := decide_eq_true hz
                have z2 : decide ((0 : Int) < (q.body.size : Int)) = true := decide_eq_true (by omega)
                clear ht hl
                go_wp2_with fail
                go_quiet ((go_at_call 36; exact Calls.quiet_of_same (HLe.out _ _ _ (by (try simp only [IntKind.wrap_u32]); first | done | omega) (by (try simp only [IntKind.wrap_u32]); first | done | omega))))
                go_wp2_with fail
                go_meet
                exact ⟨rfl, S8.out.keep (below_drewN _ _)⟩
              · have z1 : decide (0 < q.body.size) = false := decide_eq_false hz
                have z2 : decide ((0 : Int) < (q.body.size : Int)) = false := decide_eq_false (by omega)
                clear ht hz
                go_wp2_with fail
                go_quiet (fail)
                go_wp2_with fail
                go_meet
                exact ⟨rfl, S8.out.keep (below_drewN _ _)⟩
          obtain ⟨rfl, hcut⟩ := hcut
          have S9 := Lib.hid hcut
          clear hcut S8 ELE
          go_upto_region 11 with fail
          go_cut [84] from 78 to 84 (fun t W => t = .bool (q.ack && !q.rst) ∧ W = wc)
          case first =>
            have u5 := S9.out.gb.c7
            have u7 := S9.out.gb.c9
            cases ha : q.ack with
            | false =>
              rw [ha] at u5
              have HAk := Lib.hid ha
              clear ha
              go_wp2_with fail
              go_meet
              exact ⟨by rw [HAk.out]; rfl, rfl⟩
            | true =>
              rw [ha] at u5
              cases hr : q.rst with
              | false =>
                rw [hr] at u7
                have HAk := Lib.hid ha
                have HRk := Lib.hid hr
                clear ha hr
                go_wp2_with fail
                go_meet
                exact ⟨by rw [HAk.out, HRk.out]; rfl, rfl⟩
              | true =>
                rw [hr] at u7
                have HAk := Lib.hid ha
                have HRk := Lib.hid hr
                clear ha hr
                go_wp2_with fail
                go_meet
                exact ⟨by rw [HAk.out, HRk.out]; rfl, rfl⟩
          obtain ⟨rfl, rfl⟩ := hcut
          go_upto_if 84 with fail
          go_cut [] from 85 to 122 (fun W => SQ w ⟨x, a2, b, P2, d, Q1⟩ (edB p2 q) c.outC e (.slice (some ⟨g, 0, none⟩) len cap) c.outL q y W)
          case first =>
            have u3 : wc.cell? ⟨y, 5, none⟩ = some (.int .u32 (q.ak : Int)) := S9.out.gb.c5
            have u8 : wc.cell? ⟨y, 10, none⟩ = some (.int .i64 q.win) := S9.out.gb.c10
            have u9 : wc.cell? ⟨x, 18, none⟩ = some (.bool p2.t1) := S9.out.pm.cell 18
            have u10 : wc.cell? ⟨x, 16, none⟩ = some (.int .u32 (p2.e1 : Int)) := S9.out.pm.cell 16
            have f9 : wc.frozen? ⟨x, 18, none⟩ = false := S9.out.pm.free 18
            have f10 : wc.frozen? ⟨x, 16, none⟩ = false := S9.out.pm.free 16
            have HEd := Lib.hid (edgeOf_eq q)
            have HSt : Hid (∀ _ : Unit, q.ack = true → q.rst = false → (p2.t1 = false ∨ Sq.dif p2.e1 (edgeOf q) < 0) → SQ w ⟨x, a2, b, P2, d, Q1⟩ (edB p2 q) c.outC e (.slice (some ⟨g, 0, none⟩) len cap) c.outL q y ((wc.setCell ⟨x, 16, none⟩ (.int .u32 (edgeOf q : Int))).setCell ⟨x, 18, none⟩ (.bool true)).drew) := fun _ h1 h2 h3 => by
              have e : edB p2 q = { p2 with e1 := edgeOf q, t1 := true } := by unfold edB; rw [if_pos ⟨h1, h2, h3⟩]
              rw [e]
              exact ((S9.out.set 16 (.int .u32 (edgeOf q : Int)) { p2 with e1 := edgeOf q } rfl rfl).set 18 (.bool true) { p2 with e1 := edgeOf q, t1 := true } rfl rfl).drew
            have HNo : Hid (∀ _ : Unit, ¬ (q.ack = true ∧ q.rst = false ∧ (p2.t1 = false ∨ Sq.dif p2.e1 (edgeOf q) < 0)) → SQ w ⟨x, a2, b, P2, d, Q1⟩ (edB p2 q) c.outC e (.slice (some ⟨g, 0, none⟩) len cap) c.outL q y wc) := fun _ h => by
              have e : edB p2 q = p2 := by unfold edB; rw [if_neg h]
              rw [e]; exact S9.out
            generalize hB : (q.ack && !q.rst) = B at *
            have HBk := Lib.hid hB
            clear hB
            cases B with
            | false =>
              have HZ := Lib.hid (HNo.out () (fun e2 => by have := HBk.out; rw [e2.1, e2.2.1] at this; cases this))
              clear HSt HNo
              go_wp2_with fail
              go_meet
              exact HZ.out
            | true =>
              obtain ⟨h1, h2⟩ : q.ack = true ∧ q.rst = false := by have := HBk.out; simpa using this
              have HS2 := Lib.hid (fun h3 => HSt.out () h1 h2 h3)
              have HN2 := Lib.hid (fun (h3 : ¬ (p2.t1 = false ∨ Sq.dif p2.e1 (edgeOf q) < 0)) => HNo.out () (fun e2 => h3 e2.2.2))
              clear HSt HNo h1 h2
              go_upto_region 13 with fail
              rw [← HEd.out]
              have k9 : wc.drew.cell? ⟨x, 18, none⟩ = some (.bool p2.t1) := u9
              have k10 : wc.drew.cell? ⟨x, 16, none⟩ = some (.int .u32 (p2.e1 : Int)) := u10
              have l9 : wc.drew.frozen? ⟨x, 18, none⟩ = false := f9
              have l10 : wc.drew.frozen? ⟨x, 16, none⟩ = false := f10
              generalize edgeOf q = eg at *
              clear HEd u3 u8
              cases ht : p2.t1 with
              | false =>
                rw [ht] at u9 k9
                have HZ := Lib.hid (HS2.out (Or.inl ht))
                clear HS2 HN2 ht
                go_wp2_with fail
                refine wp_region_held_drew (S := (fun _ => True)) (by kernel_rfl) trivial (fun hHeld => ?_)
                refine takeH (i := 0) (d := some 110) (v := ?_) rfl rfl (by kernel_rfl) (by kernel_rfl) (by kernel_rfl) (fun _ _ _ h => h) (Or.inl ⟨by rfl, ?_⟩) hHeld ?_
                rotate_left
                · intro w' hSw; (try dsimp only at hSw); go_simp; try with_reducible rfl
                simp only [Act.put, List.setIfInBounds_toArray, List.set_cons_zero, List.set_cons_succ]
                refine takeH (i := 1) (d := some 111) (v := ?_) rfl rfl (by kernel_rfl) (by kernel_rfl) (by kernel_rfl) (fun _ _ _ h => h) (Or.inl ⟨by rfl, ?_⟩) hHeld ?_
                rotate_left
                · intro w' hSw; (try dsimp only at hSw); go_simp; try with_reducible rfl
                simp only [Act.put, List.setIfInBounds_toArray, List.set_cons_zero, List.set_cons_succ]
                refine takeH (i := 2) (d := some 112) (v := ?_) rfl rfl (by kernel_rfl) (by kernel_rfl) (by kernel_rfl) (fun _ _ _ h => h) (Or.inl ⟨by rfl, ?_⟩) hHeld ?_
                rotate_left
                · intro w' hSw; (try dsimp only at hSw); go_simp; try with_reducible rfl
                simp only [Act.put, List.setIfInBounds_toArray, List.set_cons_zero, List.set_cons_succ]
                refine takeH (i := 3) (d := some 113) (v := ?_) rfl rfl (by kernel_rfl) (by kernel_rfl) (by kernel_rfl) (fun _ _ _ h => h) (Or.inl ⟨by rfl, ?_⟩) hHeld ?_
                rotate_left
                · intro w' hSw; (try dsimp only at hSw); go_simp; try with_reducible rfl
                simp only [Act.put, List.setIfInBounds_toArray, List.set_cons_zero, List.set_cons_succ]
                refine takeH (i := 4) (d := some 114) (v := ?_) rfl rfl (by kernel_rfl) (by kernel_rfl) (by kernel_rfl) (fun _ _ _ h => h) (Or.inl ⟨by rfl, ?_⟩) hHeld ?_
                rotate_left
                · intro w' hSw; (try dsimp only at hSw); go_simp; try with_reducible rfl
                simp only [Act.put, List.setIfInBounds_toArray, List.set_cons_zero, List.set_cons_succ]
                refine takeH (i := 5) (d := some 115) (v := ?_) rfl rfl (by kernel_rfl) (by kernel_rfl) (by kernel_rfl) (fun _ _ _ h => h) (Or.inl ⟨by rfl, ?_⟩) hHeld ?_
                rotate_left
                · intro w' hSw; (try dsimp only at hSw); go_simp; try with_reducible rfl
                simp only [Act.put, List.setIfInBounds_toArray, List.set_cons_zero, List.set_cons_succ]
                refine takeH (i := 6) (d := some 116) (v := ?_) rfl rfl (by kernel_rfl) (by kernel_rfl) (by kernel_rfl) (fun _ _ _ h => h) (Or.inl ⟨by rfl, ?_⟩) hHeld ?_
                rotate_left
                · intro w' hSw; (try dsimp only at hSw); go_simp; try with_reducible rfl
                simp only [Act.put, List.setIfInBounds_toArray, List.set_cons_zero, List.set_cons_succ]
                refine takeH (i := 7) (d := some 117) (v := ?_) rfl rfl (by kernel_rfl) (by kernel_rfl) (by kernel_rfl) (fun _ _ _ h => h) (Or.inl ⟨by rfl, ?_⟩) hHeld ?_
                rotate_left
                · intro w' hSw; (try dsimp only at hSw); go_simp; try with_reducible rfl
                simp only [Act.put, List.setIfInBounds_toArray, List.set_cons_zero, List.set_cons_succ]
                refine takeH (i := 8) (d := some 118) (v := ?_) rfl rfl (by kernel_rfl) (by kernel_rfl) (by kernel_rfl) (fun _ _ _ h => h) (Or.inl ⟨by rfl, ?_⟩) hHeld ?_
                rotate_left
                · intro w' hSw; (try dsimp only at hSw); go_simp; try with_reducible rfl
                simp only [Act.put, List.setIfInBounds_toArray, List.set_cons_zero, List.set_cons_succ]
                refine takeH (i := 9) (d := some 119) (v := ?_) rfl rfl (by kernel_rfl) (by kernel_rfl) (by kernel_rfl) (fun _ _ _ h => h) (Or.inl ⟨by rfl, ?_⟩) hHeld ?_
                rotate_left
                · intro w' hSw; (try dsimp only at hSw); go_simp; try with_reducible rfl
                simp only [Act.put, List.setIfInBounds_toArray, List.set_cons_zero, List.set_cons_succ]
                refine takeH (i := 11) (d := some 120) (v := ?_) rfl rfl (by kernel_rfl) (by kernel_rfl) (by kernel_rfl) (fun _ _ _ h => h) (Or.inl ⟨by rfl, ?_⟩) hHeld ?_
                rotate_left
                · intro w' hSw; (try dsimp only at hSw); go_simp; try with_reducible rfl
                simp only [Act.put, List.setIfInBounds_toArray, List.set_cons_zero, List.set_cons_succ]
                refine takeH (i := 12) (d := some 121) (v := ?_) rfl rfl (by kernel_rfl) (by kernel_rfl) (by kernel_rfl) (fun _ _ _ h => h) (Or.inl ⟨by rfl, ?_⟩) hHeld ?_
                rotate_left
                · intro w' hSw; (try dsimp only at hSw); go_simp; try with_reducible rfl
                simp only [Act.put, List.setIfInBounds_toArray, List.set_cons_zero, List.set_cons_succ]
                refine wpAnyH_ready (rs := [10]) (by kernel_rfl) (by simp) ?_
                refine AllReadyH.cons rfl (fun K hK => ?_) (AllReadyH.nil)
                go_simp
                clear hHeld
                refine hK.out _ _ trivial (fun hHeld => ?_)
                clear hK K
                try simp only [Act.put, List.setIfInBounds_toArray, List.set_cons_zero, List.set_cons_succ]
                refine takeH (i := 13) (d := some 122) (v := ?_) rfl rfl (by kernel_rfl) (by kernel_rfl) (by kernel_rfl) (fun _ _ _ h => h) (Or.inl ⟨by rfl, ?_⟩) hHeld ?_
                rotate_left
                · intro w' hSw; (try dsimp only at hSw); go_simp; try with_reducible rfl
                simp only [Act.put, List.setIfInBounds_toArray, List.set_cons_zero, List.set_cons_succ]
                refine wpAnyH_ready (rs := [14]) (by kernel_rfl) (by simp) ?_
                refine AllReadyH.cons rfl (fun K hK => ?_) (AllReadyH.nil)
                go_simp
                clear hHeld
                refine hK.out _ _ trivial (fun hHeld => ?_)
                clear hK K
                try simp only [Act.put, List.setIfInBounds_toArray, List.set_cons_zero, List.set_cons_succ]
                refine wpAnyH_done (by kernel_rfl) ?_ _
                go_wp2_with fail
                go_meet
                exact HZ.out
              | true =>
                rw [ht] at u9 k9
                by_cases hl : Sq.dif p2.e1 eg < 0
                · have HZ := Lib.hid (HS2.out (Or.inr hl))
                  have HLs : Hid (∀ W, Calls Try.prog 36 #[.int .u32 (p2.e1 : Int), .int .u32 (eg : Int)] W fun e' w' => e' = .returned (.bool true) ∧ w' = W) := fun W => by
                    have := Sq.less_any p2.e1 eg W
                    rwa [decide_eq_true hl] at this
                  clear HS2 HN2 ht hl
                  go_wp2_with (refine (HLs.out _).mono ?_; rintro e' w5 ⟨rfl, rfl⟩)
                  refine wp_region_held_drew (S := (fun _ => True)) (by kernel_rfl) trivial (fun hHeld => ?_)
                  refine takeH (i := 0) (d := some 110) (v := ?_) rfl rfl (by kernel_rfl) (by kernel_rfl) (by kernel_rfl) (fun _ _ _ h => h) (Or.inl ⟨by rfl, ?_⟩) hHeld ?_
                  rotate_left
                  · intro w' hSw; (try dsimp only at hSw); go_simp; try with_reducible rfl
                  simp only [Act.put, List.setIfInBounds_toArray, List.set_cons_zero, List.set_cons_succ]
                  refine takeH (i := 1) (d := some 111) (v := ?_) rfl rfl (by kernel_rfl) (by kernel_rfl) (by kernel_rfl) (fun _ _ _ h => h) (Or.inl ⟨by rfl, ?_⟩) hHeld ?_
                  rotate_left
                  · intro w' hSw; (try dsimp only at hSw); go_simp; try with_reducible rfl
                  simp only [Act.put, List.setIfInBounds_toArray, List.set_cons_zero, List.set_cons_succ]
                  refine takeH (i := 2) (d := some 112) (v := ?_) rfl rfl (by kernel_rfl) (by kernel_rfl) (by kernel_rfl) (fun _ _ _ h => h) (Or.inl ⟨by rfl, ?_⟩) hHeld ?_
                  rotate_left
                  · intro w' hSw; (try dsimp only at hSw); go_simp; try with_reducible rfl
                  simp only [Act.put, List.setIfInBounds_toArray, List.set_cons_zero, List.set_cons_succ]
                  refine takeH (i := 3) (d := some 113) (v := ?_) rfl rfl (by kernel_rfl) (by kernel_rfl) (by kernel_rfl) (fun _ _ _ h => h) (Or.inl ⟨by rfl, ?_⟩) hHeld ?_
                  rotate_left
                  · intro w' hSw; (try dsimp only at hSw); go_simp; try with_reducible rfl
                  simp only [Act.put, List.setIfInBounds_toArray, List.set_cons_zero, List.set_cons_succ]
                  refine takeH (i := 4) (d := some 114) (v := ?_) rfl rfl (by kernel_rfl) (by kernel_rfl) (by kernel_rfl) (fun _ _ _ h => h) (Or.inl ⟨by rfl, ?_⟩) hHeld ?_
                  rotate_left
                  · intro w' hSw; (try dsimp only at hSw); go_simp; try with_reducible rfl
                  simp only [Act.put, List.setIfInBounds_toArray, List.set_cons_zero, List.set_cons_succ]
                  refine takeH (i := 5) (d := some 115) (v := ?_) rfl rfl (by kernel_rfl) (by kernel_rfl) (by kernel_rfl) (fun _ _ _ h => h) (Or.inl ⟨by rfl, ?_⟩) hHeld ?_
                  rotate_left
                  · intro w' hSw; (try dsimp only at hSw); go_simp; try with_reducible rfl
                  simp only [Act.put, List.setIfInBounds_toArray, List.set_cons_zero, List.set_cons_succ]
                  refine takeH (i := 6) (d := some 116) (v := ?_) rfl rfl (by kernel_rfl) (by kernel_rfl) (by kernel_rfl) (fun _ _ _ h => h) (Or.inl ⟨by rfl, ?_⟩) hHeld ?_
                  rotate_left
                  · intro w' hSw; (try dsimp only at hSw); go_simp; try with_reducible rfl
                  simp only [Act.put, List.setIfInBounds_toArray, List.set_cons_zero, List.set_cons_succ]
                  refine takeH (i := 7) (d := some 117) (v := ?_) rfl rfl (by kernel_rfl) (by kernel_rfl) (by kernel_rfl) (fun _ _ _ h => h) (Or.inl ⟨by rfl, ?_⟩) hHeld ?_
                  rotate_left
                  · intro w' hSw; (try dsimp only at hSw); go_simp; try with_reducible rfl
                  simp only [Act.put, List.setIfInBounds_toArray, List.set_cons_zero, List.set_cons_succ]
                  refine takeH (i := 8) (d := some 118) (v := ?_) rfl rfl (by kernel_rfl) (by kernel_rfl) (by kernel_rfl) (fun _ _ _ h => h) (Or.inl ⟨by rfl, ?_⟩) hHeld ?_
                  rotate_left
                  · intro w' hSw; (try dsimp only at hSw); go_simp; try with_reducible rfl
                  simp only [Act.put, List.setIfInBounds_toArray, List.set_cons_zero, List.set_cons_succ]
                  refine takeH (i := 9) (d := some 119) (v := ?_) rfl rfl (by kernel_rfl) (by kernel_rfl) (by kernel_rfl) (fun _ _ _ h => h) (Or.inl ⟨by rfl, ?_⟩) hHeld ?_
                  rotate_left
                  · intro w' hSw; (try dsimp only at hSw); go_simp; try with_reducible rfl
                  simp only [Act.put, List.setIfInBounds_toArray, List.set_cons_zero, List.set_cons_succ]
                  refine takeH (i := 11) (d := some 120) (v := ?_) rfl rfl (by kernel_rfl) (by kernel_rfl) (by kernel_rfl) (fun _ _ _ h => h) (Or.inl ⟨by rfl, ?_⟩) hHeld ?_
                  rotate_left
                  · intro w' hSw; (try dsimp only at hSw); go_simp; try with_reducible rfl
                  simp only [Act.put, List.setIfInBounds_toArray, List.set_cons_zero, List.set_cons_succ]
                  refine takeH (i := 12) (d := some 121) (v := ?_) rfl rfl (by kernel_rfl) (by kernel_rfl) (by kernel_rfl) (fun _ _ _ h => h) (Or.inl ⟨by rfl, ?_⟩) hHeld ?_
                  rotate_left
                  · intro w' hSw; (try dsimp only at hSw); go_simp; try with_reducible rfl
                  simp only [Act.put, List.setIfInBounds_toArray, List.set_cons_zero, List.set_cons_succ]
                  refine wpAnyH_ready (rs := [10]) (by kernel_rfl) (by simp) ?_
                  refine AllReadyH.cons rfl (fun K hK => ?_) (AllReadyH.nil)
                  go_simp
                  clear hHeld
                  refine hK.out _ _ trivial (fun hHeld => ?_)
                  clear hK K
                  try simp only [Act.put, List.setIfInBounds_toArray, List.set_cons_zero, List.set_cons_succ]
                  refine takeH (i := 13) (d := some 122) (v := ?_) rfl rfl (by kernel_rfl) (by kernel_rfl) (by kernel_rfl) (fun _ _ _ h => h) (Or.inl ⟨by rfl, ?_⟩) hHeld ?_
                  rotate_left
                  · intro w' hSw; (try dsimp only at hSw); go_simp; try with_reducible rfl
                  simp only [Act.put, List.setIfInBounds_toArray, List.set_cons_zero, List.set_cons_succ]
                  refine wpAnyH_ready (rs := [14]) (by kernel_rfl) (by simp) ?_
                  refine AllReadyH.cons rfl (fun K hK => ?_) (AllReadyH.nil)
                  go_simp
                  clear hHeld
                  refine hK.out _ _ trivial (fun hHeld => ?_)
                  clear hK K
                  try simp only [Act.put, List.setIfInBounds_toArray, List.set_cons_zero, List.set_cons_succ]
                  refine wpAnyH_done (by kernel_rfl) ?_ _
                  go_wp2_with fail
                  go_meet
                  exact HZ.out
                · have HZ := Lib.hid (HN2.out (fun e2 => by rcases e2 with e3 | e3; rw [ht] at e3; cases e3; exact hl e3))
                  have HLs : Hid (∀ W, Calls Try.prog 36 #[.int .u32 (p2.e1 : Int), .int .u32 (eg : Int)] W fun e' w' => e' = .returned (.bool false) ∧ w' = W) := fun W => by
                    have := Sq.less_any p2.e1 eg W
                    rwa [decide_eq_false hl] at this
                  clear HS2 HN2 ht hl
                  go_wp2_with (refine (HLs.out _).mono ?_; rintro e' w5 ⟨rfl, rfl⟩)
                  go_meet
                  exact HZ.out
          have S11 := Lib.hid hcut
          have HF3 : Hid ((c.outL.take (n + 1)).foldl sd0 p = push (edB p2 q) q) := HF2
          clear hcut S9 HF2
          generalize edB p2 q = p4 at *
          obtain ⟨oa, ga, offa, capa, hva, _⟩ := S11.out.pm.row.form
          subst hva
          have v6 : wc.cell? ⟨x, 6, none⟩ = some (.slice oa p4.air.length capa) := S11.out.pm.cell 6
          by_cases hl : p4.air.length < 200
          · have HP : Hid ((c.outL.take (n + 1)).foldl sd0 p = { p4 with air := p4.air ++ [q] }) := by show _ = _; rw [HF3.out]; unfold push; rw [if_pos hl]
            have hl2 : decide ((p4.air.length : Int) < 200) = true := decide_eq_true (by omega)
            have HS3 : Hid (∀ o, SQ w ⟨x, .slice oa p4.air.length capa, b, P2, d, Q1⟩ p4 c.outC e (.slice (some ⟨g, 0, none⟩) len cap) c.outL q y (wc.alloc o).drew) := fun o => (S11.out.keep ((Below.refl _ _).alloc (Nat.le_refl _) o)).drew
            have v6d : wc.drew.cell? ⟨x, 6, none⟩ = some (.slice oa p4.air.length capa) := v6
            have v6a : (wc.alloc (.cells (gc q) 35)).drew.cell? ⟨x, 6, none⟩ = some (.slice oa p4.air.length capa) := (HS3.out (.cells (gc q) 35)).pm.cell 6
            have hbs := S11.out.pm.be.size
            clear HF3
            go_wp2_with fail
            refine wp_region_held_drew (S := (Tc.GB y q)) (by kernel_rfl) S11.out.gb (fun hHeld => ?_)
            refine takeH (i := 0) (d := some 129) (v := ?_) rfl rfl (by kernel_rfl) (by kernel_rfl) (by kernel_rfl) (fun _ _ _ h => h) (Or.inl ⟨by rfl, ?_⟩) hHeld ?_
            rotate_left
            · intro w' hSw; (try dsimp only at hSw); go_simp; try with_reducible rfl
            simp only [Act.put, List.setIfInBounds_toArray, List.set_cons_zero, List.set_cons_succ]
            refine takeH (i := 1) (d := some 130) (v := ?_) rfl rfl (by kernel_rfl) (by kernel_rfl) (by kernel_rfl) (fun _ _ _ h => h) (Or.inl ⟨by rfl, ?_⟩) hHeld ?_
            rotate_left
            · intro w' hSw; (try dsimp only at hSw); go_simp; try with_reducible rfl
            simp only [Act.put, List.setIfInBounds_toArray, List.set_cons_zero, List.set_cons_succ]
            refine takeH (i := 2) (d := some 131) (v := ?_) rfl rfl (by kernel_rfl) (by kernel_rfl) (by kernel_rfl) (fun _ _ _ h => h) (Or.inl ⟨by rfl, ?_⟩) hHeld ?_
            rotate_left
            · intro w' hSw; (try dsimp only at hSw); go_simp; try with_reducible rfl
            simp only [Act.put, List.setIfInBounds_toArray, List.set_cons_zero, List.set_cons_succ]
            refine takeH (i := 3) (d := some 132) (v := ?_) rfl rfl (by kernel_rfl) (by kernel_rfl) (by kernel_rfl) (fun _ _ _ h => h) (Or.inl ⟨by rfl, ?_⟩) hHeld ?_
            rotate_left
            · intro w' hSw; (try dsimp only at hSw); go_simp; try with_reducible rfl
            simp only [Act.put, List.setIfInBounds_toArray, List.set_cons_zero, List.set_cons_succ]
            refine takeH (i := 5) (d := some 134) rfl rfl (by kernel_rfl) (by kernel_rfl) (by kernel_rfl) (fun _ _ _ h => h) (yieldsIf_load_mid (by rfl) _ _ rfl _ _ rfl (gcl q) _ (fun w' hSw => GB.range hSw) HUs.out rfl infoSeg) hHeld ?_
            simp only [Act.put, List.setIfInBounds_toArray, List.set_cons_zero, List.set_cons_succ]
            refine wpAnyH_ready (rs := [4, 6]) (by kernel_rfl) (by simp) ?_
            refine AllReadyH.cons rfl (fun K hK => ?_) (AllReadyH.cons rfl (fun K hK => ?_) (AllReadyH.nil))
            · go_simp
              clear hHeld
              refine hK.out _ _ S11.out.gb (fun hHeld => ?_)
              clear hK K
              try simp only [Act.put, List.setIfInBounds_toArray, List.set_cons_zero, List.set_cons_succ]
              refine wpAnyH_ready (rs := [6]) (by kernel_rfl) (by simp) ?_
              refine AllReadyH.cons rfl (fun K hK => ?_) (AllReadyH.nil)
              go_simp
              clear hHeld
              refine hK.out _ _ (HS3.out _).gb (fun hHeld => ?_)
              clear hK K
              try simp only [Act.put, List.setIfInBounds_toArray, List.set_cons_zero, List.set_cons_succ]
              refine wpAnyH_ready (rs := [7]) (by kernel_rfl) (by simp) ?_
              refine AllReadyH.cons rfl (fun K hK => ?_) (AllReadyH.nil)
              refine step_or _ rfl _ _ 48 rfl w.heap.size i0 _ 80 Try.underlying48 hi0 hz0 hz1 hz2 rfl (.slice oa p4.air.length capa) (some ⟨wc.heap.size, 0, none⟩) 1 (L := p4.air) q rfl rfl (HS3.out _).pm.row (src_new wc q) (by unfold maxLen; omega) (by omega) (by simp; omega) ?_
              intro v2 w2 own2 hgrow hob
              obtain ⟨o9, c9, hv9⟩ := own2.form1
              subst hv9
              obtain ⟨n1, n2, n3⟩ := (HS3.out _).mid hgrow
              have S12 := Lib.hid ((HS3.out _).air hgrow own2 hob)
              clear hHeld
              refine hK.out _ _ n3 (fun hHeld => ?_)
              clear hK K
              try simp only [Act.put, List.setIfInBounds_toArray, List.set_cons_zero, List.set_cons_succ]
              refine takeH (i := 8) (d := some 137) (v := ?_) rfl rfl (by kernel_rfl) (by kernel_rfl) (by kernel_rfl) (fun _ _ _ h => h) (Or.inl ⟨by rfl, ?_⟩) hHeld ?_
              rotate_left
              · intro w' hSw; (try dsimp only at hSw); go_simp; try with_reducible rfl
              simp only [Act.put, List.setIfInBounds_toArray, List.set_cons_zero, List.set_cons_succ]
              refine takeH (i := 9) (d := some 138) (v := ?_) rfl rfl (by kernel_rfl) (by kernel_rfl) (by kernel_rfl) (fun _ _ _ h => h) (Or.inl ⟨by rfl, ?_⟩) hHeld ?_
              rotate_left
              · intro w' hSw; (try dsimp only at hSw); go_simp; try with_reducible rfl
              simp only [Act.put, List.setIfInBounds_toArray, List.set_cons_zero, List.set_cons_succ]
              refine wpAnyH_ready (rs := [10]) (by kernel_rfl) (by simp) ?_
              refine AllReadyH.cons rfl (fun K hK => ?_) (AllReadyH.nil)
              go_simp
              clear hHeld
              refine hK.out _ _ S12.out.gb (fun hHeld => ?_)
              clear hK K
              try simp only [Act.put, List.setIfInBounds_toArray, List.set_cons_zero, List.set_cons_succ]
              refine wpAnyH_done (by kernel_rfl) ?_ _
              go_wp2_with fail
              go_roundw
              case rel => exact ⟨n + 1, .slice o9 (p4.air.length + 1) c9, hlt, by simp, by rw [HP.out]; exact S12.out.pm, Lib.hid S12.out.row, Lib.hid S12.out.ne⟩
              case measure => simp [intOf]; omega
            · go_simp
              clear hHeld
              refine hK.out _ _ (HS3.out _).gb (fun hHeld => ?_)
              clear hK K
              try simp only [Act.put, List.setIfInBounds_toArray, List.set_cons_zero, List.set_cons_succ]
              refine wpAnyH_ready (rs := [4]) (by kernel_rfl) (by simp) ?_
              refine AllReadyH.cons rfl (fun K hK => ?_) (AllReadyH.nil)
              go_simp
              clear hHeld
              refine hK.out _ _ (HS3.out (.cells (gc q) 35)).gb (fun hHeld => ?_)
              clear hK K
              try simp only [Act.put, List.setIfInBounds_toArray, List.set_cons_zero, List.set_cons_succ]
              refine wpAnyH_ready (rs := [7]) (by kernel_rfl) (by simp) ?_
              refine AllReadyH.cons rfl (fun K hK => ?_) (AllReadyH.nil)
              refine step_or _ rfl _ _ 48 rfl w.heap.size i0 _ 80 Try.underlying48 hi0 hz0 hz1 hz2 rfl (.slice oa p4.air.length capa) (some ⟨wc.heap.size, 0, none⟩) 1 (L := p4.air) q rfl rfl (HS3.out _).pm.row (src_new wc q) (by unfold maxLen; omega) (by omega) (by simp; omega) ?_
              intro v2 w2 own2 hgrow hob
              obtain ⟨o9, c9, hv9⟩ := own2.form1
              subst hv9
              obtain ⟨n1, n2, n3⟩ := (HS3.out _).mid hgrow
              have S12 := Lib.hid ((HS3.out _).air hgrow own2 hob)
              clear hHeld
              refine hK.out _ _ n3 (fun hHeld => ?_)
              clear hK K
              try simp only [Act.put, List.setIfInBounds_toArray, List.set_cons_zero, List.set_cons_succ]
              refine takeH (i := 8) (d := some 137) (v := ?_) rfl rfl (by kernel_rfl) (by kernel_rfl) (by kernel_rfl) (fun _ _ _ h => h) (Or.inl ⟨by rfl, ?_⟩) hHeld ?_
              rotate_left
              · intro w' hSw; (try dsimp only at hSw); go_simp; try with_reducible rfl
              simp only [Act.put, List.setIfInBounds_toArray, List.set_cons_zero, List.set_cons_succ]
              refine takeH (i := 9) (d := some 138) (v := ?_) rfl rfl (by kernel_rfl) (by kernel_rfl) (by kernel_rfl) (fun _ _ _ h => h) (Or.inl ⟨by rfl, ?_⟩) hHeld ?_
              rotate_left
              · intro w' hSw; (try dsimp only at hSw); go_simp; try with_reducible rfl
              simp only [Act.put, List.setIfInBounds_toArray, List.set_cons_zero, List.set_cons_succ]
              refine wpAnyH_ready (rs := [10]) (by kernel_rfl) (by simp) ?_
              refine AllReadyH.cons rfl (fun K hK => ?_) (AllReadyH.nil)
              go_simp
              clear hHeld
              refine hK.out _ _ S12.out.gb (fun hHeld => ?_)
              clear hK K
              try simp only [Act.put, List.setIfInBounds_toArray, List.set_cons_zero, List.set_cons_succ]
              refine wpAnyH_done (by kernel_rfl) ?_ _
              go_wp2_with fail
              go_roundw
              case rel => exact ⟨n + 1, .slice o9 (p4.air.length + 1) c9, hlt, by simp, by rw [HP.out]; exact S12.out.pm, Lib.hid S12.out.row, Lib.hid S12.out.ne⟩
              case measure => simp [intOf]; omega
          · have HP : Hid ((c.outL.take (n + 1)).foldl sd0 p = p4) := by show _ = _; rw [HF3.out]; unfold push; rw [if_neg hl]
            have hl2 : decide ((p4.air.length : Int) < 200) = false := decide_eq_false (by omega)
            clear HF3
            go_wp2_with fail
            go_roundw
            case rel => exact ⟨n + 1, .slice oa p4.air.length capa, hlt, by simp, by rw [HP.out]; exact S11.out.pm, Lib.hid S11.out.row, Lib.hid S11.out.ne⟩
            case measure => simp [intOf]; omega
        · have en : len = n := by omega
          subst en
          have M9 : Hid (PM w ⟨x, a2, b, P2, d, Q1⟩ (c.outL.foldl sd0 p) c.outC e wr) := by show PM _ _ _ _ _ _; rw [← HTk.out]; exact M3.out
          clear M3 M2 HTk HFd R2 R3 NE hne hgo HQx
          go_wp2_with fail
          go_roundw
          case rel => exact ⟨a2, P2, Q1, _, _, _, M9.out, Or.inr (Or.inl ⟨rfl, rfl, rfl, rfl⟩)⟩
          case measure => simp [intOf]

    · have HM := Lib.hid hm
      have HOut := Lib.hid (out_any (hm.two.cb) OKE.out HK'.out)
      have hal := hm.row.lt
      have hbe := hm.be.size
      clear hm
      go_wp2_with fail
      refine HOut.out.mono ?_; rintro r w2 ⟨v, rfl, r2, P2, t2, u2⟩
      have M2 := Lib.hid (HM.out.right t2 u2)
      obtain ⟨o, g, cap, hv, hgo⟩ := r2.form
      have hne : ∀ k, v.ownBlock = some k → a1.ownBlock ≠ some k := fun k hk e => by
        have := (r2.lt k hk).1
        have := (hal k e).2
        omega
      have R2 := Lib.hid (r2.base hbe)
      subst hv
      clear r2 t2 u2 HM HOut hal
      have G1 := Lib.hid (goes1_at (c.outL.foldl sd0 p) e.outL)
      have HFd : Hid (∀ (n : Nat) q, e.outL[n]? = some q → (e.outL.take (n + 1)).foldl sd1 (c.outL.foldl sd0 p) = sd1 ((e.outL.take n).foldl sd1 (c.outL.foldl sd0 p)) q) := fun n q hq => fold_at _ _ n q hq
      have HTk : Hid ((e.outL.take e.outL.length).foldl sd1 (c.outL.foldl sd0 p) = e.outL.foldl sd1 (c.outL.foldl sd0 p)) := by show _ = _; rw [List.take_length]
      have HQx : ∀ n : Nat, n < e.outL.length → ∃ q, e.outL[n]? = some q := fun n hn => ⟨_, List.getElem?_eq_getElem hn⟩
      have HGo := H1
      have hle : e.outL.length ≤ 1000000000000 := by
        have h8 := outL_len OKE.out
        have h9 := HK'.out
        unfold Few at h9
        omega
      generalize hlen : e.outL.length = len at *
      clear hlen
      go_wp2_with fail
      go_loopw [19] (fun j W => ∃ (n : Nat) (a2 : Value), n ≤ len ∧ j = .int .i64 (n : Int) ∧ PM w ⟨x, a2, b, P1, d, P2⟩ ((e.outL.take n).foldl sd1 (c.outL.foldl sd0 p)) c.outC e.outC W ∧ Hid (SRow W w.heap.size (.slice o len cap) e.outL) ∧ Hid (∀ k, (Value.slice o len cap).ownBlock = some k → a2.ownBlock ≠ some k)) (fun j _ => len - (intOf j).toNat)
      case atStart => exact ⟨0, a1, Nat.zero_le _, rfl, M2.out, R2, hne⟩
      case round =>
        obtain ⟨n, a2, hn, rfl, hm3, R3, NE⟩ := hrel
        have M3 := Lib.hid hm3
        clear hm3
        by_cases hlt : n < len
        · obtain ⟨q, hq⟩ := HQx n hlt
          obtain ⟨rfl, _, _⟩ := hgo (by omega)
          obtain ⟨esa, esp, eda, edp, eck, ele⟩ := G1.out n q HGo.out hq
          have HF2 := Lib.hid (HFd.out n q hq)
          have RR := Lib.hid (R3.out.range hq)
          have S4 : Hid (SQ w ⟨x, a2, b, P1, d, P2⟩ ((e.outL.take n).foldl sd1 (c.outL.foldl sd0 p)) c.outC e.outC (.slice (some ⟨g, 0, none⟩) len cap) e.outL q wr.heap.size ((wr.alloc (.cells gzc 35)).setCells wr.heap.size 0 (gcl q))) := SQ.new M3.out R3.out NE.out q
          have GB0 := Lib.hid (seg0 wr)
          have HCk : Hid (∀ W, Calls Try.prog 29 #[gv q] W fun e' w' => e' = .returned (.int .i64 0) ∧ Below W.heap.size W w') := fun W => by have := Tc.gchk_any q W; rwa [eck] at this
          have ELE := Lib.hid ele
          have hqw : Hid (0 ≤ q.win ∧ q.win ≤ 65535) := (chk_ok eck).1
          have hqs : Hid (q.body.size ≤ 1000) := (chk_ok eck).2.2
          generalize (e.outL.take n).foldl sd1 (c.outL.foldl sd0 p) = p2 at *
          have HS7 : Hid (∀ {W y}, SQ w ⟨x, a2, b, P1, d, P2⟩ p2 c.outC e.outC (.slice (some ⟨g, 0, none⟩) len cap) e.outL q y W → sC1 x y q W) := fun h => ⟨h.pm.cell 2, h.pm.cell 3, h.pm.cell 4, h.pm.cell 5, by have := h.gb.c0; rw [esa] at this; exact this, by have := h.gb.c1; rw [esp] at this; exact this, by have := h.gb.c2; rw [eda] at this; exact this, by have := h.gb.c3; rw [edp] at this; exact this, h.gb⟩
          clear HQx hgo hq M3 esa esp eda edp eck ele HFd M2 R2 hne G1
          go_upto_region 7 with (first | (refine wpList_load_mid rfl 35 _ rfl g (n * 13) rfl (gcl q) _ RR.out HUs.out rfl infoSeg ?_) | (refine wpList_store_mid rfl 35 _ _ rfl wr.heap.size 0 (gc q) rfl rfl (GB.there GB0.out) infoSeg (gc_one' q) ?_))
          generalize (wr.alloc (.cells gzc 35)).setCells wr.heap.size 0 (gcl q) = W4 at *
          generalize wr.heap.size = y at *
          clear GB0 RR
          have hw0 : IntKind.i64.wrap 0 = 0 := by rw [IntKind.wrap_i64]; rfl
          have hw1 : IntKind.i64.wrap 1 = 1 := by rw [IntKind.wrap_i64]; rfl
          simp only [Act.put]
          go_cut [48] from 23 to 48 (fun t W => t = .bool false ∧ SQ w ⟨x, a2, b, P1, d, P2⟩ p2 c.outC e.outC (.slice (some ⟨g, 0, none⟩) len cap) e.outL q y W)
          case first =>
            refine wp_region_held_drew (S := (sC1 x y q)) (by kernel_rfl) (HS7.out S4.out.drew) (fun hHeld => ?_)
            refine takeH (i := 0) (d := some 23) (v := ?_) rfl rfl (by kernel_rfl) (by kernel_rfl) (by kernel_rfl) (fun _ _ _ h => h) (Or.inl ⟨by rfl, ?_⟩) hHeld ?_
            rotate_left
            · intro w' hSw; (try dsimp only at hSw); go_simp; try with_reducible rfl
            simp only [Act.put, List.setIfInBounds_toArray, List.set_cons_zero, List.set_cons_succ]
            refine takeH (i := 1) (d := some 24) (v := ?_) rfl rfl (by kernel_rfl) (by kernel_rfl) (by kernel_rfl) (fun _ _ _ h => h) (Or.inl ⟨by rfl, ?_⟩) hHeld ?_
            rotate_left
            · intro w' hSw; (try dsimp only at hSw); obtain ⟨q1, q2, q3, q4, q5, q6, q7, q8, q9⟩ := hSw; clear q9; go_simp; try with_reducible rfl
            simp only [Act.put, List.setIfInBounds_toArray, List.set_cons_zero, List.set_cons_succ]
            refine takeH (i := 2) (d := some 25) (v := ?_) rfl rfl (by kernel_rfl) (by kernel_rfl) (by kernel_rfl) (fun _ _ _ h => h) (Or.inl ⟨by rfl, ?_⟩) hHeld ?_
            rotate_left
            · intro w' hSw; (try dsimp only at hSw); go_simp; try with_reducible rfl
            simp only [Act.put, List.setIfInBounds_toArray, List.set_cons_zero, List.set_cons_succ]
            refine takeH (i := 3) (d := some 26) (v := ?_) rfl rfl (by kernel_rfl) (by kernel_rfl) (by kernel_rfl) (fun _ _ _ h => h) (Or.inl ⟨by rfl, ?_⟩) hHeld ?_
            rotate_left
            · intro w' hSw; (try dsimp only at hSw); go_simp; try with_reducible rfl
            simp only [Act.put, List.setIfInBounds_toArray, List.set_cons_zero, List.set_cons_succ]
            refine takeH (i := 4) (d := some 27) (v := ?_) rfl rfl (by kernel_rfl) (by kernel_rfl) (by kernel_rfl) (fun _ _ _ h => h) (Or.inl ⟨by rfl, ?_⟩) hHeld ?_
            rotate_left
            · intro w' hSw; (try dsimp only at hSw); go_simp; try with_reducible rfl
            simp only [Act.put, List.setIfInBounds_toArray, List.set_cons_zero, List.set_cons_succ]
            refine takeH (i := 5) (d := some 28) (v := ?_) rfl rfl (by kernel_rfl) (by kernel_rfl) (by kernel_rfl) (fun _ _ _ h => h) (Or.inl ⟨by rfl, ?_⟩) hHeld ?_
            rotate_left
            · intro w' hSw; (try dsimp only at hSw); go_simp; try with_reducible rfl
            simp only [Act.put, List.setIfInBounds_toArray, List.set_cons_zero, List.set_cons_succ]
            refine takeH (i := 6) (d := some 29) (v := ?_) rfl rfl (by kernel_rfl) (by kernel_rfl) (by kernel_rfl) (fun _ _ _ h => h) (Or.inl ⟨by rfl, ?_⟩) hHeld ?_
            rotate_left
            · intro w' hSw; (try dsimp only at hSw); go_simp; try with_reducible rfl
            simp only [Act.put, List.setIfInBounds_toArray, List.set_cons_zero, List.set_cons_succ]
            refine takeH (i := 7) (d := some 30) (v := ?_) rfl rfl (by kernel_rfl) (by kernel_rfl) (by kernel_rfl) (fun _ _ _ h => h) (Or.inl ⟨by rfl, ?_⟩) hHeld ?_
            rotate_left
            · intro w' hSw; (try dsimp only at hSw); obtain ⟨q1, q2, q3, q4, q5, q6, q7, q8, q9⟩ := hSw; clear q9; go_simp; try with_reducible rfl
            simp only [Act.put, List.setIfInBounds_toArray, List.set_cons_zero, List.set_cons_succ]
            refine takeH (i := 8) (d := some 31) (v := ?_) rfl rfl (by kernel_rfl) (by kernel_rfl) (by kernel_rfl) (fun _ _ _ h => h) (Or.inl ⟨by rfl, ?_⟩) hHeld ?_
            rotate_left
            · intro w' hSw; (try dsimp only at hSw); go_simp; try with_reducible rfl
            simp only [Act.put, List.setIfInBounds_toArray, List.set_cons_zero, List.set_cons_succ]
            refine takeH (i := 9) (d := some 32) (v := ?_) rfl rfl (by kernel_rfl) (by kernel_rfl) (by kernel_rfl) (fun _ _ _ h => h) (Or.inl ⟨by rfl, ?_⟩) hHeld ?_
            rotate_left
            · intro w' hSw; (try dsimp only at hSw); go_simp; try with_reducible rfl
            simp only [Act.put, List.setIfInBounds_toArray, List.set_cons_zero, List.set_cons_succ]
            refine takeH (i := 10) (d := some 33) (v := ?_) rfl rfl (by kernel_rfl) (by kernel_rfl) (by kernel_rfl) (fun _ _ _ h => h) (Or.inl ⟨by rfl, ?_⟩) hHeld ?_
            rotate_left
            · intro w' hSw; (try dsimp only at hSw); go_simp; try with_reducible rfl
            simp only [Act.put, List.setIfInBounds_toArray, List.set_cons_zero, List.set_cons_succ]
            refine takeH (i := 11) (d := some 34) (v := ?_) rfl rfl (by kernel_rfl) (by kernel_rfl) (by kernel_rfl) (fun _ _ _ h => h) (Or.inl ⟨by rfl, ?_⟩) hHeld ?_
            rotate_left
            · intro w' hSw; (try dsimp only at hSw); obtain ⟨q1, q2, q3, q4, q5, q6, q7, q8, q9⟩ := hSw; clear q9; go_simp; try with_reducible rfl
            simp only [Act.put, List.setIfInBounds_toArray, List.set_cons_zero, List.set_cons_succ]
            refine takeH (i := 12) (d := some 35) (v := ?_) rfl rfl (by kernel_rfl) (by kernel_rfl) (by kernel_rfl) (fun _ _ _ h => h) (Or.inl ⟨by rfl, ?_⟩) hHeld ?_
            rotate_left
            · intro w' hSw; (try dsimp only at hSw); go_simp; try with_reducible rfl
            simp only [Act.put, List.setIfInBounds_toArray, List.set_cons_zero, List.set_cons_succ]
            refine takeH (i := 13) (d := some 36) (v := ?_) rfl rfl (by kernel_rfl) (by kernel_rfl) (by kernel_rfl) (fun _ _ _ h => h) (Or.inl ⟨by rfl, ?_⟩) hHeld ?_
            rotate_left
            · intro w' hSw; (try dsimp only at hSw); go_simp; try with_reducible rfl
            simp only [Act.put, List.setIfInBounds_toArray, List.set_cons_zero, List.set_cons_succ]
            refine takeH (i := 14) (d := some 37) (v := ?_) rfl rfl (by kernel_rfl) (by kernel_rfl) (by kernel_rfl) (fun _ _ _ h => h) (Or.inl ⟨by rfl, ?_⟩) hHeld ?_
            rotate_left
            · intro w' hSw; (try dsimp only at hSw); go_simp; try with_reducible rfl
            simp only [Act.put, List.setIfInBounds_toArray, List.set_cons_zero, List.set_cons_succ]
            refine takeH (i := 15) (d := some 38) (v := ?_) rfl rfl (by kernel_rfl) (by kernel_rfl) (by kernel_rfl) (fun _ _ _ h => h) (Or.inl ⟨by rfl, ?_⟩) hHeld ?_
            rotate_left
            · intro w' hSw; (try dsimp only at hSw); go_simp; try with_reducible rfl
            simp only [Act.put, List.setIfInBounds_toArray, List.set_cons_zero, List.set_cons_succ]
            refine takeH (i := 16) (d := some 39) (v := ?_) rfl rfl (by kernel_rfl) (by kernel_rfl) (by kernel_rfl) (fun _ _ _ h => h) (Or.inl ⟨by rfl, ?_⟩) hHeld ?_
            rotate_left
            · intro w' hSw; (try dsimp only at hSw); go_simp; try with_reducible rfl
            simp only [Act.put, List.setIfInBounds_toArray, List.set_cons_zero, List.set_cons_succ]
            refine takeH (i := 17) (d := some 40) (v := ?_) rfl rfl (by kernel_rfl) (by kernel_rfl) (by kernel_rfl) (fun _ _ _ h => h) (Or.inl ⟨by rfl, ?_⟩) hHeld ?_
            rotate_left
            · intro w' hSw; (try dsimp only at hSw); go_simp; try with_reducible rfl
            simp only [Act.put, List.setIfInBounds_toArray, List.set_cons_zero, List.set_cons_succ]
            refine takeH (i := 18) (d := some 41) (v := ?_) rfl rfl (by kernel_rfl) (by kernel_rfl) (by kernel_rfl) (fun _ _ _ h => h) (Or.inl ⟨by rfl, ?_⟩) hHeld ?_
            rotate_left
            · intro w' hSw; (try dsimp only at hSw); obtain ⟨q1, q2, q3, q4, q5, q6, q7, q8, q9⟩ := hSw; clear q9; go_simp; try with_reducible rfl
            simp only [Act.put, List.setIfInBounds_toArray, List.set_cons_zero, List.set_cons_succ]
            refine takeH (i := 19) (d := some 42) (v := ?_) rfl rfl (by kernel_rfl) (by kernel_rfl) (by kernel_rfl) (fun _ _ _ h => h) (Or.inl ⟨by rfl, ?_⟩) hHeld ?_
            rotate_left
            · intro w' hSw; (try dsimp only at hSw); go_simp; try with_reducible rfl
            simp only [Act.put, List.setIfInBounds_toArray, List.set_cons_zero, List.set_cons_succ]
            refine takeH (i := 20) (d := some 43) (v := ?_) rfl rfl (by kernel_rfl) (by kernel_rfl) (by kernel_rfl) (fun _ _ _ h => h) (Or.inl ⟨by rfl, ?_⟩) hHeld ?_
            rotate_left
            · intro w' hSw; (try dsimp only at hSw); go_simp; try with_reducible rfl
            simp only [Act.put, List.setIfInBounds_toArray, List.set_cons_zero, List.set_cons_succ]
            refine takeH (i := 21) (d := some 44) (v := ?_) rfl rfl (by kernel_rfl) (by kernel_rfl) (by kernel_rfl) (fun _ _ _ h => h) (Or.inl ⟨by rfl, ?_⟩) hHeld ?_
            rotate_left
            · intro w' hSw; (try dsimp only at hSw); go_simp; try with_reducible rfl
            simp only [Act.put, List.setIfInBounds_toArray, List.set_cons_zero, List.set_cons_succ]
            refine takeH (i := 22) (d := some 45) rfl rfl (by kernel_rfl) (by kernel_rfl) (by kernel_rfl) (fun _ _ _ h => h) (yieldsIf_load_mid (by rfl) _ _ rfl _ _ rfl (gcl q) _ (fun w' hSw => GB.range hSw.2.2.2.2.2.2.2.2) HUs.out rfl infoSeg) hHeld ?_
            simp only [Act.put, List.setIfInBounds_toArray, List.set_cons_zero, List.set_cons_succ]
            refine wpAnyH_ready (rs := [23]) (by kernel_rfl) (by simp) ?_
            refine AllReadyH.cons rfl (fun K hK => ?_) (AllReadyH.nil)
            go_simp
            refine (HCk.out _).mono ?_; rintro e5 w5 ⟨rfl, hb5⟩
            have S5 := Lib.hid (S4.out.drew.keep hb5)
            clear hHeld
            refine hK.out _ _ (HS7.out S5.out) (fun hHeld => ?_)
            clear hK K
            try simp only [Act.put, List.setIfInBounds_toArray, List.set_cons_zero, List.set_cons_succ]
            refine takeH (i := 24) (d := some 47) (v := ?_) rfl rfl (by kernel_rfl) (by kernel_rfl) (by kernel_rfl) (fun _ _ _ h => h) (Or.inl ⟨by rfl, ?_⟩) hHeld ?_
            rotate_left
            · intro w' hSw; (try dsimp only at hSw); go_simp; try with_reducible rfl
            simp only [Act.put, List.setIfInBounds_toArray, List.set_cons_zero, List.set_cons_succ]
            refine takeH (i := 25) (d := some 48) (v := ?_) rfl rfl (by kernel_rfl) (by kernel_rfl) (by kernel_rfl) (fun _ _ _ h => h) (Or.inl ⟨by rfl, ?_⟩) hHeld ?_
            rotate_left
            · intro w' hSw; (try dsimp only at hSw); go_simp; try with_reducible rfl
            simp only [Act.put, List.setIfInBounds_toArray, List.set_cons_zero, List.set_cons_succ]
            refine wpAnyH_done (by kernel_rfl) ?_ _
            go_wp2_with fail
            go_meet
            exact ⟨rfl, S5.out⟩
          obtain ⟨rfl, hcut⟩ := hcut
          have S8 := Lib.hid hcut
          clear hcut S4 HS7 HCk
          go_upto_region 9 with fail
          go_cut [77] from 49 to 77 (fun t W => t = .bool false ∧ SQ w ⟨x, a2, b, P1, d, P2⟩ p2 c.outC e.outC (.slice (some ⟨g, 0, none⟩) len cap) e.outL q y W)
          case first =>
            have u0 : wc.cell? ⟨x, 18, none⟩ = some (.bool p2.t1) := S8.out.pm.cell 18
            have u1 : wc.cell? ⟨x, 16, none⟩ = some (.int .u32 (p2.e1 : Int)) := S8.out.pm.cell 16
            have u2 := S8.out.gb.c4
            have u3 := S8.out.gb.c12
            cases ht : p2.t1 with
            | false =>
              rw [ht] at u0
              clear ht
              go_wp2_with fail
              go_quiet (fail)
              go_wp2_with fail
              go_meet
              exact ⟨rfl, S8.out.keep (below_drewN _ _)⟩
            | true =>
              rw [ht] at u0
              by_cases hz : 0 < q.body.size
              · have hl : ¬ Sq.dif (((p2.e1 : Int) + 1) % 4294967296) (((q.sq : Int) + q.body.size) % 4294967296) < 0 := fun e2 => ELE.out ⟨ht, hz, e2⟩
                have HLe : Hid (∀ W u v, u = ((p2.e1 : Int) + 1) % 4294967296 → v = ((q.sq : Int) + q.body.size) % 4294967296 → Calls Try.prog 36 #[.int .u32 u, .int .u32 v] W fun e' w' => e' = .returned (.bool false) ∧ w' = W) := fun W u v hu hv => by
                  have := Sq.less_any u v W
                  rwa [hu, hv, decide_eq_false hl, ← hu, ← hv] at this
                have z1 : decide (0 < q.body.size) = true := decide_eq_true hz
                have z2 : decide ((0 : Int) < (q.body.size : Int)) = true := decide_eq_true (by omega)
                clear ht hl
                go_wp2_with fail
                go_quiet ((go_at_call 36; exact Calls.quiet_of_same (HLe.out _ _ _ (by (try simp only [IntKind.wrap_u32]); first | done | omega) (by (try simp only [IntKind.wrap_u32]); first | done | omega))))
                go_wp2_with fail
                go_meet
                exact ⟨rfl, S8.out.keep (below_drewN _ _)⟩
              · have z1 : decide (0 < q.body.size) = false := decide_eq_false hz
                have z2 : decide ((0 : Int) < (q.body.size : Int)) = false := decide_eq_false (by omega)
                clear ht hz
                go_wp2_with fail
                go_quiet (fail)
                go_wp2_with fail
                go_meet
                exact ⟨rfl, S8.out.keep (below_drewN _ _)⟩
          obtain ⟨rfl, hcut⟩ := hcut
          have S9 := Lib.hid hcut
          clear hcut S8 ELE
          go_upto_region 11 with fail
          go_cut [84] from 78 to 84 (fun t W => t = .bool (q.ack && !q.rst) ∧ W = wc)
          case first =>
            have u5 := S9.out.gb.c7
            have u7 := S9.out.gb.c9
            cases ha : q.ack with
            | false =>
              rw [ha] at u5
              have HAk := Lib.hid ha
              clear ha
              go_wp2_with fail
              go_meet
              exact ⟨by rw [HAk.out]; rfl, rfl⟩
            | true =>
              rw [ha] at u5
              cases hr : q.rst with
              | false =>
                rw [hr] at u7
                have HAk := Lib.hid ha
                have HRk := Lib.hid hr
                clear ha hr
                go_wp2_with fail
                go_meet
                exact ⟨by rw [HAk.out, HRk.out]; rfl, rfl⟩
              | true =>
                rw [hr] at u7
                have HAk := Lib.hid ha
                have HRk := Lib.hid hr
                clear ha hr
                go_wp2_with fail
                go_meet
                exact ⟨by rw [HAk.out, HRk.out]; rfl, rfl⟩
          obtain ⟨rfl, rfl⟩ := hcut
          go_upto_if 84 with fail
          go_cut [] from 85 to 122 (fun W => SQ w ⟨x, a2, b, P1, d, P2⟩ (edA p2 q) c.outC e.outC (.slice (some ⟨g, 0, none⟩) len cap) e.outL q y W)
          case first =>
            have u3 : wc.cell? ⟨y, 5, none⟩ = some (.int .u32 (q.ak : Int)) := S9.out.gb.c5
            have u8 : wc.cell? ⟨y, 10, none⟩ = some (.int .i64 q.win) := S9.out.gb.c10
            have u9 : wc.cell? ⟨x, 17, none⟩ = some (.bool p2.t0) := S9.out.pm.cell 17
            have u10 : wc.cell? ⟨x, 15, none⟩ = some (.int .u32 (p2.e0 : Int)) := S9.out.pm.cell 15
            have f9 : wc.frozen? ⟨x, 17, none⟩ = false := S9.out.pm.free 17
            have f10 : wc.frozen? ⟨x, 15, none⟩ = false := S9.out.pm.free 15
            have HEd := Lib.hid (edgeOf_eq q)
            have HSt : Hid (∀ _ : Unit, q.ack = true → q.rst = false → (p2.t0 = false ∨ Sq.dif p2.e0 (edgeOf q) < 0) → SQ w ⟨x, a2, b, P1, d, P2⟩ (edA p2 q) c.outC e.outC (.slice (some ⟨g, 0, none⟩) len cap) e.outL q y ((wc.setCell ⟨x, 15, none⟩ (.int .u32 (edgeOf q : Int))).setCell ⟨x, 17, none⟩ (.bool true)).drew) := fun _ h1 h2 h3 => by
              have e : edA p2 q = { p2 with e0 := edgeOf q, t0 := true } := by unfold edA; rw [if_pos ⟨h1, h2, h3⟩]
              rw [e]
              exact ((S9.out.set 15 (.int .u32 (edgeOf q : Int)) { p2 with e0 := edgeOf q } rfl rfl).set 17 (.bool true) { p2 with e0 := edgeOf q, t0 := true } rfl rfl).drew
            have HNo : Hid (∀ _ : Unit, ¬ (q.ack = true ∧ q.rst = false ∧ (p2.t0 = false ∨ Sq.dif p2.e0 (edgeOf q) < 0)) → SQ w ⟨x, a2, b, P1, d, P2⟩ (edA p2 q) c.outC e.outC (.slice (some ⟨g, 0, none⟩) len cap) e.outL q y wc) := fun _ h => by
              have e : edA p2 q = p2 := by unfold edA; rw [if_neg h]
              rw [e]; exact S9.out
            generalize hB : (q.ack && !q.rst) = B at *
            have HBk := Lib.hid hB
            clear hB
            cases B with
            | false =>
              have HZ := Lib.hid (HNo.out () (fun e2 => by have := HBk.out; rw [e2.1, e2.2.1] at this; cases this))
              clear HSt HNo
              go_wp2_with fail
              go_meet
              exact HZ.out
            | true =>
              obtain ⟨h1, h2⟩ : q.ack = true ∧ q.rst = false := by have := HBk.out; simpa using this
              have HS2 := Lib.hid (fun h3 => HSt.out () h1 h2 h3)
              have HN2 := Lib.hid (fun (h3 : ¬ (p2.t0 = false ∨ Sq.dif p2.e0 (edgeOf q) < 0)) => HNo.out () (fun e2 => h3 e2.2.2))
              clear HSt HNo h1 h2
              go_upto_region 13 with fail
              rw [← HEd.out]
              have k9 : wc.drew.cell? ⟨x, 17, none⟩ = some (.bool p2.t0) := u9
              have k10 : wc.drew.cell? ⟨x, 15, none⟩ = some (.int .u32 (p2.e0 : Int)) := u10
              have l9 : wc.drew.frozen? ⟨x, 17, none⟩ = false := f9
              have l10 : wc.drew.frozen? ⟨x, 15, none⟩ = false := f10
              generalize edgeOf q = eg at *
              clear HEd u3 u8
              cases ht : p2.t0 with
              | false =>
                rw [ht] at u9 k9
                have HZ := Lib.hid (HS2.out (Or.inl ht))
                clear HS2 HN2 ht
                go_wp2_with fail
                refine wp_region_held_drew (S := (fun _ => True)) (by kernel_rfl) trivial (fun hHeld => ?_)
                refine takeH (i := 0) (d := some 110) (v := ?_) rfl rfl (by kernel_rfl) (by kernel_rfl) (by kernel_rfl) (fun _ _ _ h => h) (Or.inl ⟨by rfl, ?_⟩) hHeld ?_
                rotate_left
                · intro w' hSw; (try dsimp only at hSw); go_simp; try with_reducible rfl
                simp only [Act.put, List.setIfInBounds_toArray, List.set_cons_zero, List.set_cons_succ]
                refine takeH (i := 1) (d := some 111) (v := ?_) rfl rfl (by kernel_rfl) (by kernel_rfl) (by kernel_rfl) (fun _ _ _ h => h) (Or.inl ⟨by rfl, ?_⟩) hHeld ?_
                rotate_left
                · intro w' hSw; (try dsimp only at hSw); go_simp; try with_reducible rfl
                simp only [Act.put, List.setIfInBounds_toArray, List.set_cons_zero, List.set_cons_succ]
                refine takeH (i := 2) (d := some 112) (v := ?_) rfl rfl (by kernel_rfl) (by kernel_rfl) (by kernel_rfl) (fun _ _ _ h => h) (Or.inl ⟨by rfl, ?_⟩) hHeld ?_
                rotate_left
                · intro w' hSw; (try dsimp only at hSw); go_simp; try with_reducible rfl
                simp only [Act.put, List.setIfInBounds_toArray, List.set_cons_zero, List.set_cons_succ]
                refine takeH (i := 3) (d := some 113) (v := ?_) rfl rfl (by kernel_rfl) (by kernel_rfl) (by kernel_rfl) (fun _ _ _ h => h) (Or.inl ⟨by rfl, ?_⟩) hHeld ?_
                rotate_left
                · intro w' hSw; (try dsimp only at hSw); go_simp; try with_reducible rfl
                simp only [Act.put, List.setIfInBounds_toArray, List.set_cons_zero, List.set_cons_succ]
                refine takeH (i := 4) (d := some 114) (v := ?_) rfl rfl (by kernel_rfl) (by kernel_rfl) (by kernel_rfl) (fun _ _ _ h => h) (Or.inl ⟨by rfl, ?_⟩) hHeld ?_
                rotate_left
                · intro w' hSw; (try dsimp only at hSw); go_simp; try with_reducible rfl
                simp only [Act.put, List.setIfInBounds_toArray, List.set_cons_zero, List.set_cons_succ]
                refine takeH (i := 5) (d := some 115) (v := ?_) rfl rfl (by kernel_rfl) (by kernel_rfl) (by kernel_rfl) (fun _ _ _ h => h) (Or.inl ⟨by rfl, ?_⟩) hHeld ?_
                rotate_left
                · intro w' hSw; (try dsimp only at hSw); go_simp; try with_reducible rfl
                simp only [Act.put, List.setIfInBounds_toArray, List.set_cons_zero, List.set_cons_succ]
                refine takeH (i := 6) (d := some 116) (v := ?_) rfl rfl (by kernel_rfl) (by kernel_rfl) (by kernel_rfl) (fun _ _ _ h => h) (Or.inl ⟨by rfl, ?_⟩) hHeld ?_
                rotate_left
                · intro w' hSw; (try dsimp only at hSw); go_simp; try with_reducible rfl
                simp only [Act.put, List.setIfInBounds_toArray, List.set_cons_zero, List.set_cons_succ]
                refine takeH (i := 7) (d := some 117) (v := ?_) rfl rfl (by kernel_rfl) (by kernel_rfl) (by kernel_rfl) (fun _ _ _ h => h) (Or.inl ⟨by rfl, ?_⟩) hHeld ?_
                rotate_left
                · intro w' hSw; (try dsimp only at hSw); go_simp; try with_reducible rfl
                simp only [Act.put, List.setIfInBounds_toArray, List.set_cons_zero, List.set_cons_succ]
                refine takeH (i := 8) (d := some 118) (v := ?_) rfl rfl (by kernel_rfl) (by kernel_rfl) (by kernel_rfl) (fun _ _ _ h => h) (Or.inl ⟨by rfl, ?_⟩) hHeld ?_
                rotate_left
                · intro w' hSw; (try dsimp only at hSw); go_simp; try with_reducible rfl
                simp only [Act.put, List.setIfInBounds_toArray, List.set_cons_zero, List.set_cons_succ]
                refine takeH (i := 9) (d := some 119) (v := ?_) rfl rfl (by kernel_rfl) (by kernel_rfl) (by kernel_rfl) (fun _ _ _ h => h) (Or.inl ⟨by rfl, ?_⟩) hHeld ?_
                rotate_left
                · intro w' hSw; (try dsimp only at hSw); go_simp; try with_reducible rfl
                simp only [Act.put, List.setIfInBounds_toArray, List.set_cons_zero, List.set_cons_succ]
                refine takeH (i := 11) (d := some 120) (v := ?_) rfl rfl (by kernel_rfl) (by kernel_rfl) (by kernel_rfl) (fun _ _ _ h => h) (Or.inl ⟨by rfl, ?_⟩) hHeld ?_
                rotate_left
                · intro w' hSw; (try dsimp only at hSw); go_simp; try with_reducible rfl
                simp only [Act.put, List.setIfInBounds_toArray, List.set_cons_zero, List.set_cons_succ]
                refine takeH (i := 12) (d := some 121) (v := ?_) rfl rfl (by kernel_rfl) (by kernel_rfl) (by kernel_rfl) (fun _ _ _ h => h) (Or.inl ⟨by rfl, ?_⟩) hHeld ?_
                rotate_left
                · intro w' hSw; (try dsimp only at hSw); go_simp; try with_reducible rfl
                simp only [Act.put, List.setIfInBounds_toArray, List.set_cons_zero, List.set_cons_succ]
                refine wpAnyH_ready (rs := [10]) (by kernel_rfl) (by simp) ?_
                refine AllReadyH.cons rfl (fun K hK => ?_) (AllReadyH.nil)
                go_simp
                clear hHeld
                refine hK.out _ _ trivial (fun hHeld => ?_)
                clear hK K
                try simp only [Act.put, List.setIfInBounds_toArray, List.set_cons_zero, List.set_cons_succ]
                refine takeH (i := 13) (d := some 122) (v := ?_) rfl rfl (by kernel_rfl) (by kernel_rfl) (by kernel_rfl) (fun _ _ _ h => h) (Or.inl ⟨by rfl, ?_⟩) hHeld ?_
                rotate_left
                · intro w' hSw; (try dsimp only at hSw); go_simp; try with_reducible rfl
                simp only [Act.put, List.setIfInBounds_toArray, List.set_cons_zero, List.set_cons_succ]
                refine wpAnyH_ready (rs := [14]) (by kernel_rfl) (by simp) ?_
                refine AllReadyH.cons rfl (fun K hK => ?_) (AllReadyH.nil)
                go_simp
                clear hHeld
                refine hK.out _ _ trivial (fun hHeld => ?_)
                clear hK K
                try simp only [Act.put, List.setIfInBounds_toArray, List.set_cons_zero, List.set_cons_succ]
                refine wpAnyH_done (by kernel_rfl) ?_ _
                go_wp2_with fail
                go_meet
                exact HZ.out
              | true =>
                rw [ht] at u9 k9
                by_cases hl : Sq.dif p2.e0 eg < 0
                · have HZ := Lib.hid (HS2.out (Or.inr hl))
                  have HLs : Hid (∀ W, Calls Try.prog 36 #[.int .u32 (p2.e0 : Int), .int .u32 (eg : Int)] W fun e' w' => e' = .returned (.bool true) ∧ w' = W) := fun W => by
                    have := Sq.less_any p2.e0 eg W
                    rwa [decide_eq_true hl] at this
                  clear HS2 HN2 ht hl
                  go_wp2_with (refine (HLs.out _).mono ?_; rintro e' w5 ⟨rfl, rfl⟩)
                  refine wp_region_held_drew (S := (fun _ => True)) (by kernel_rfl) trivial (fun hHeld => ?_)
                  refine takeH (i := 0) (d := some 110) (v := ?_) rfl rfl (by kernel_rfl) (by kernel_rfl) (by kernel_rfl) (fun _ _ _ h => h) (Or.inl ⟨by rfl, ?_⟩) hHeld ?_
                  rotate_left
                  · intro w' hSw; (try dsimp only at hSw); go_simp; try with_reducible rfl
                  simp only [Act.put, List.setIfInBounds_toArray, List.set_cons_zero, List.set_cons_succ]
                  refine takeH (i := 1) (d := some 111) (v := ?_) rfl rfl (by kernel_rfl) (by kernel_rfl) (by kernel_rfl) (fun _ _ _ h => h) (Or.inl ⟨by rfl, ?_⟩) hHeld ?_
                  rotate_left
                  · intro w' hSw; (try dsimp only at hSw); go_simp; try with_reducible rfl
                  simp only [Act.put, List.setIfInBounds_toArray, List.set_cons_zero, List.set_cons_succ]
                  refine takeH (i := 2) (d := some 112) (v := ?_) rfl rfl (by kernel_rfl) (by kernel_rfl) (by kernel_rfl) (fun _ _ _ h => h) (Or.inl ⟨by rfl, ?_⟩) hHeld ?_
                  rotate_left
                  · intro w' hSw; (try dsimp only at hSw); go_simp; try with_reducible rfl
                  simp only [Act.put, List.setIfInBounds_toArray, List.set_cons_zero, List.set_cons_succ]
                  refine takeH (i := 3) (d := some 113) (v := ?_) rfl rfl (by kernel_rfl) (by kernel_rfl) (by kernel_rfl) (fun _ _ _ h => h) (Or.inl ⟨by rfl, ?_⟩) hHeld ?_
                  rotate_left
                  · intro w' hSw; (try dsimp only at hSw); go_simp; try with_reducible rfl
                  simp only [Act.put, List.setIfInBounds_toArray, List.set_cons_zero, List.set_cons_succ]
                  refine takeH (i := 4) (d := some 114) (v := ?_) rfl rfl (by kernel_rfl) (by kernel_rfl) (by kernel_rfl) (fun _ _ _ h => h) (Or.inl ⟨by rfl, ?_⟩) hHeld ?_
                  rotate_left
                  · intro w' hSw; (try dsimp only at hSw); go_simp; try with_reducible rfl
                  simp only [Act.put, List.setIfInBounds_toArray, List.set_cons_zero, List.set_cons_succ]
                  refine takeH (i := 5) (d := some 115) (v := ?_) rfl rfl (by kernel_rfl) (by kernel_rfl) (by kernel_rfl) (fun _ _ _ h => h) (Or.inl ⟨by rfl, ?_⟩) hHeld ?_
                  rotate_left
                  · intro w' hSw; (try dsimp only at hSw); go_simp; try with_reducible rfl
                  simp only [Act.put, List.setIfInBounds_toArray, List.set_cons_zero, List.set_cons_succ]
                  refine takeH (i := 6) (d := some 116) (v := ?_) rfl rfl (by kernel_rfl) (by kernel_rfl) (by kernel_rfl) (fun _ _ _ h => h) (Or.inl ⟨by rfl, ?_⟩) hHeld ?_
                  rotate_left
                  · intro w' hSw; (try dsimp only at hSw); go_simp; try with_reducible rfl
                  simp only [Act.put, List.setIfInBounds_toArray, List.set_cons_zero, List.set_cons_succ]
                  refine takeH (i := 7) (d := some 117) (v := ?_) rfl rfl (by kernel_rfl) (by kernel_rfl) (by kernel_rfl) (fun _ _ _ h => h) (Or.inl ⟨by rfl, ?_⟩) hHeld ?_
                  rotate_left
                  · intro w' hSw; (try dsimp only at hSw); go_simp; try with_reducible rfl
                  simp only [Act.put, List.setIfInBounds_toArray, List.set_cons_zero, List.set_cons_succ]
                  refine takeH (i := 8) (d := some 118) (v := ?_) rfl rfl (by kernel_rfl) (by kernel_rfl) (by kernel_rfl) (fun _ _ _ h => h) (Or.inl ⟨by rfl, ?_⟩) hHeld ?_
                  rotate_left
                  · intro w' hSw; (try dsimp only at hSw); go_simp; try with_reducible rfl
                  simp only [Act.put, List.setIfInBounds_toArray, List.set_cons_zero, List.set_cons_succ]
                  refine takeH (i := 9) (d := some 119) (v := ?_) rfl rfl (by kernel_rfl) (by kernel_rfl) (by kernel_rfl) (fun _ _ _ h => h) (Or.inl ⟨by rfl, ?_⟩) hHeld ?_
                  rotate_left
                  · intro w' hSw; (try dsimp only at hSw); go_simp; try with_reducible rfl
                  simp only [Act.put, List.setIfInBounds_toArray, List.set_cons_zero, List.set_cons_succ]
                  refine takeH (i := 11) (d := some 120) (v := ?_) rfl rfl (by kernel_rfl) (by kernel_rfl) (by kernel_rfl) (fun _ _ _ h => h) (Or.inl ⟨by rfl, ?_⟩) hHeld ?_
                  rotate_left
                  · intro w' hSw; (try dsimp only at hSw); go_simp; try with_reducible rfl
                  simp only [Act.put, List.setIfInBounds_toArray, List.set_cons_zero, List.set_cons_succ]
                  refine takeH (i := 12) (d := some 121) (v := ?_) rfl rfl (by kernel_rfl) (by kernel_rfl) (by kernel_rfl) (fun _ _ _ h => h) (Or.inl ⟨by rfl, ?_⟩) hHeld ?_
                  rotate_left
                  · intro w' hSw; (try dsimp only at hSw); go_simp; try with_reducible rfl
                  simp only [Act.put, List.setIfInBounds_toArray, List.set_cons_zero, List.set_cons_succ]
                  refine wpAnyH_ready (rs := [10]) (by kernel_rfl) (by simp) ?_
                  refine AllReadyH.cons rfl (fun K hK => ?_) (AllReadyH.nil)
                  go_simp
                  clear hHeld
                  refine hK.out _ _ trivial (fun hHeld => ?_)
                  clear hK K
                  try simp only [Act.put, List.setIfInBounds_toArray, List.set_cons_zero, List.set_cons_succ]
                  refine takeH (i := 13) (d := some 122) (v := ?_) rfl rfl (by kernel_rfl) (by kernel_rfl) (by kernel_rfl) (fun _ _ _ h => h) (Or.inl ⟨by rfl, ?_⟩) hHeld ?_
                  rotate_left
                  · intro w' hSw; (try dsimp only at hSw); go_simp; try with_reducible rfl
                  simp only [Act.put, List.setIfInBounds_toArray, List.set_cons_zero, List.set_cons_succ]
                  refine wpAnyH_ready (rs := [14]) (by kernel_rfl) (by simp) ?_
                  refine AllReadyH.cons rfl (fun K hK => ?_) (AllReadyH.nil)
                  go_simp
                  clear hHeld
                  refine hK.out _ _ trivial (fun hHeld => ?_)
                  clear hK K
                  try simp only [Act.put, List.setIfInBounds_toArray, List.set_cons_zero, List.set_cons_succ]
                  refine wpAnyH_done (by kernel_rfl) ?_ _
                  go_wp2_with fail
                  go_meet
                  exact HZ.out
                · have HZ := Lib.hid (HN2.out (fun e2 => by rcases e2 with e3 | e3; rw [ht] at e3; cases e3; exact hl e3))
                  have HLs : Hid (∀ W, Calls Try.prog 36 #[.int .u32 (p2.e0 : Int), .int .u32 (eg : Int)] W fun e' w' => e' = .returned (.bool false) ∧ w' = W) := fun W => by
                    have := Sq.less_any p2.e0 eg W
                    rwa [decide_eq_false hl] at this
                  clear HS2 HN2 ht hl
                  go_wp2_with (refine (HLs.out _).mono ?_; rintro e' w5 ⟨rfl, rfl⟩)
                  go_meet
                  exact HZ.out
          have S11 := Lib.hid hcut
          have HF3 : Hid ((e.outL.take (n + 1)).foldl sd1 (c.outL.foldl sd0 p) = push (edA p2 q) q) := HF2
          clear hcut S9 HF2
          generalize edA p2 q = p4 at *
          obtain ⟨oa, ga, offa, capa, hva, _⟩ := S11.out.pm.row.form
          subst hva
          have v6 : wc.cell? ⟨x, 6, none⟩ = some (.slice oa p4.air.length capa) := S11.out.pm.cell 6
          by_cases hl : p4.air.length < 200
          · have HP : Hid ((e.outL.take (n + 1)).foldl sd1 (c.outL.foldl sd0 p) = { p4 with air := p4.air ++ [q] }) := by show _ = _; rw [HF3.out]; unfold push; rw [if_pos hl]
            have hl2 : decide ((p4.air.length : Int) < 200) = true := decide_eq_true (by omega)
            have HS3 : Hid (∀ o, SQ w ⟨x, .slice oa p4.air.length capa, b, P1, d, P2⟩ p4 c.outC e.outC (.slice (some ⟨g, 0, none⟩) len cap) e.outL q y (wc.alloc o).drew) := fun o => (S11.out.keep ((Below.refl _ _).alloc (Nat.le_refl _) o)).drew
            have v6d : wc.drew.cell? ⟨x, 6, none⟩ = some (.slice oa p4.air.length capa) := v6
            have v6a : (wc.alloc (.cells (gc q) 35)).drew.cell? ⟨x, 6, none⟩ = some (.slice oa p4.air.length capa) := (HS3.out (.cells (gc q) 35)).pm.cell 6
            have hbs := S11.out.pm.be.size
            clear HF3
            go_wp2_with fail
            refine wp_region_held_drew (S := (Tc.GB y q)) (by kernel_rfl) S11.out.gb (fun hHeld => ?_)
            refine takeH (i := 0) (d := some 129) (v := ?_) rfl rfl (by kernel_rfl) (by kernel_rfl) (by kernel_rfl) (fun _ _ _ h => h) (Or.inl ⟨by rfl, ?_⟩) hHeld ?_
            rotate_left
            · intro w' hSw; (try dsimp only at hSw); go_simp; try with_reducible rfl
            simp only [Act.put, List.setIfInBounds_toArray, List.set_cons_zero, List.set_cons_succ]
            refine takeH (i := 1) (d := some 130) (v := ?_) rfl rfl (by kernel_rfl) (by kernel_rfl) (by kernel_rfl) (fun _ _ _ h => h) (Or.inl ⟨by rfl, ?_⟩) hHeld ?_
            rotate_left
            · intro w' hSw; (try dsimp only at hSw); go_simp; try with_reducible rfl
            simp only [Act.put, List.setIfInBounds_toArray, List.set_cons_zero, List.set_cons_succ]
            refine takeH (i := 2) (d := some 131) (v := ?_) rfl rfl (by kernel_rfl) (by kernel_rfl) (by kernel_rfl) (fun _ _ _ h => h) (Or.inl ⟨by rfl, ?_⟩) hHeld ?_
            rotate_left
            · intro w' hSw; (try dsimp only at hSw); go_simp; try with_reducible rfl
            simp only [Act.put, List.setIfInBounds_toArray, List.set_cons_zero, List.set_cons_succ]
            refine takeH (i := 3) (d := some 132) (v := ?_) rfl rfl (by kernel_rfl) (by kernel_rfl) (by kernel_rfl) (fun _ _ _ h => h) (Or.inl ⟨by rfl, ?_⟩) hHeld ?_
            rotate_left
            · intro w' hSw; (try dsimp only at hSw); go_simp; try with_reducible rfl
            simp only [Act.put, List.setIfInBounds_toArray, List.set_cons_zero, List.set_cons_succ]
            refine takeH (i := 5) (d := some 134) rfl rfl (by kernel_rfl) (by kernel_rfl) (by kernel_rfl) (fun _ _ _ h => h) (yieldsIf_load_mid (by rfl) _ _ rfl _ _ rfl (gcl q) _ (fun w' hSw => GB.range hSw) HUs.out rfl infoSeg) hHeld ?_
            simp only [Act.put, List.setIfInBounds_toArray, List.set_cons_zero, List.set_cons_succ]
            refine wpAnyH_ready (rs := [4, 6]) (by kernel_rfl) (by simp) ?_
            refine AllReadyH.cons rfl (fun K hK => ?_) (AllReadyH.cons rfl (fun K hK => ?_) (AllReadyH.nil))
            · go_simp
              clear hHeld
              refine hK.out _ _ S11.out.gb (fun hHeld => ?_)
              clear hK K
              try simp only [Act.put, List.setIfInBounds_toArray, List.set_cons_zero, List.set_cons_succ]
              refine wpAnyH_ready (rs := [6]) (by kernel_rfl) (by simp) ?_
              refine AllReadyH.cons rfl (fun K hK => ?_) (AllReadyH.nil)
              go_simp
              clear hHeld
              refine hK.out _ _ (HS3.out _).gb (fun hHeld => ?_)
              clear hK K
              try simp only [Act.put, List.setIfInBounds_toArray, List.set_cons_zero, List.set_cons_succ]
              refine wpAnyH_ready (rs := [7]) (by kernel_rfl) (by simp) ?_
              refine AllReadyH.cons rfl (fun K hK => ?_) (AllReadyH.nil)
              refine step_or _ rfl _ _ 48 rfl w.heap.size i0 _ 80 Try.underlying48 hi0 hz0 hz1 hz2 rfl (.slice oa p4.air.length capa) (some ⟨wc.heap.size, 0, none⟩) 1 (L := p4.air) q rfl rfl (HS3.out _).pm.row (src_new wc q) (by unfold maxLen; omega) (by omega) (by simp; omega) ?_
              intro v2 w2 own2 hgrow hob
              obtain ⟨o9, c9, hv9⟩ := own2.form1
              subst hv9
              obtain ⟨n1, n2, n3⟩ := (HS3.out _).mid hgrow
              have S12 := Lib.hid ((HS3.out _).air hgrow own2 hob)
              clear hHeld
              refine hK.out _ _ n3 (fun hHeld => ?_)
              clear hK K
              try simp only [Act.put, List.setIfInBounds_toArray, List.set_cons_zero, List.set_cons_succ]
              refine takeH (i := 8) (d := some 137) (v := ?_) rfl rfl (by kernel_rfl) (by kernel_rfl) (by kernel_rfl) (fun _ _ _ h => h) (Or.inl ⟨by rfl, ?_⟩) hHeld ?_
              rotate_left
              · intro w' hSw; (try dsimp only at hSw); go_simp; try with_reducible rfl
              simp only [Act.put, List.setIfInBounds_toArray, List.set_cons_zero, List.set_cons_succ]
              refine takeH (i := 9) (d := some 138) (v := ?_) rfl rfl (by kernel_rfl) (by kernel_rfl) (by kernel_rfl) (fun _ _ _ h => h) (Or.inl ⟨by rfl, ?_⟩) hHeld ?_
              rotate_left
              · intro w' hSw; (try dsimp only at hSw); go_simp; try with_reducible rfl
              simp only [Act.put, List.setIfInBounds_toArray, List.set_cons_zero, List.set_cons_succ]
              refine wpAnyH_ready (rs := [10]) (by kernel_rfl) (by simp) ?_
              refine AllReadyH.cons rfl (fun K hK => ?_) (AllReadyH.nil)
              go_simp
              clear hHeld
              refine hK.out _ _ S12.out.gb (fun hHeld => ?_)
              clear hK K
              try simp only [Act.put, List.setIfInBounds_toArray, List.set_cons_zero, List.set_cons_succ]
              refine wpAnyH_done (by kernel_rfl) ?_ _
              go_wp2_with fail
              go_roundw
              case rel => exact ⟨n + 1, .slice o9 (p4.air.length + 1) c9, hlt, by simp, by rw [HP.out]; exact S12.out.pm, Lib.hid S12.out.row, Lib.hid S12.out.ne⟩
              case measure => simp [intOf]; omega
            · go_simp
              clear hHeld
              refine hK.out _ _ (HS3.out _).gb (fun hHeld => ?_)
              clear hK K
              try simp only [Act.put, List.setIfInBounds_toArray, List.set_cons_zero, List.set_cons_succ]
              refine wpAnyH_ready (rs := [4]) (by kernel_rfl) (by simp) ?_
              refine AllReadyH.cons rfl (fun K hK => ?_) (AllReadyH.nil)
              go_simp
              clear hHeld
              refine hK.out _ _ (HS3.out (.cells (gc q) 35)).gb (fun hHeld => ?_)
              clear hK K
              try simp only [Act.put, List.setIfInBounds_toArray, List.set_cons_zero, List.set_cons_succ]
              refine wpAnyH_ready (rs := [7]) (by kernel_rfl) (by simp) ?_
              refine AllReadyH.cons rfl (fun K hK => ?_) (AllReadyH.nil)
              refine step_or _ rfl _ _ 48 rfl w.heap.size i0 _ 80 Try.underlying48 hi0 hz0 hz1 hz2 rfl (.slice oa p4.air.length capa) (some ⟨wc.heap.size, 0, none⟩) 1 (L := p4.air) q rfl rfl (HS3.out _).pm.row (src_new wc q) (by unfold maxLen; omega) (by omega) (by simp; omega) ?_
              intro v2 w2 own2 hgrow hob
              obtain ⟨o9, c9, hv9⟩ := own2.form1
              subst hv9
              obtain ⟨n1, n2, n3⟩ := (HS3.out _).mid hgrow
              have S12 := Lib.hid ((HS3.out _).air hgrow own2 hob)
              clear hHeld
              refine hK.out _ _ n3 (fun hHeld => ?_)
              clear hK K
              try simp only [Act.put, List.setIfInBounds_toArray, List.set_cons_zero, List.set_cons_succ]
              refine takeH (i := 8) (d := some 137) (v := ?_) rfl rfl (by kernel_rfl) (by kernel_rfl) (by kernel_rfl) (fun _ _ _ h => h) (Or.inl ⟨by rfl, ?_⟩) hHeld ?_
              rotate_left
              · intro w' hSw; (try dsimp only at hSw); go_simp; try with_reducible rfl
              simp only [Act.put, List.setIfInBounds_toArray, List.set_cons_zero, List.set_cons_succ]
              refine takeH (i := 9) (d := some 138) (v := ?_) rfl rfl (by kernel_rfl) (by kernel_rfl) (by kernel_rfl) (fun _ _ _ h => h) (Or.inl ⟨by rfl, ?_⟩) hHeld ?_
              rotate_left
              · intro w' hSw; (try dsimp only at hSw); go_simp; try with_reducible rfl
              simp only [Act.put, List.setIfInBounds_toArray, List.set_cons_zero, List.set_cons_succ]
              refine wpAnyH_ready (rs := [10]) (by kernel_rfl) (by simp) ?_
              refine AllReadyH.cons rfl (fun K hK => ?_) (AllReadyH.nil)
              go_simp
              clear hHeld
              refine hK.out _ _ S12.out.gb (fun hHeld => ?_)
              clear hK K
              try simp only [Act.put, List.setIfInBounds_toArray, List.set_cons_zero, List.set_cons_succ]
              refine wpAnyH_done (by kernel_rfl) ?_ _
              go_wp2_with fail
              go_roundw
              case rel => exact ⟨n + 1, .slice o9 (p4.air.length + 1) c9, hlt, by simp, by rw [HP.out]; exact S12.out.pm, Lib.hid S12.out.row, Lib.hid S12.out.ne⟩
              case measure => simp [intOf]; omega
          · have HP : Hid ((e.outL.take (n + 1)).foldl sd1 (c.outL.foldl sd0 p) = p4) := by show _ = _; rw [HF3.out]; unfold push; rw [if_neg hl]
            have hl2 : decide ((p4.air.length : Int) < 200) = false := decide_eq_false (by omega)
            clear HF3
            go_wp2_with fail
            go_roundw
            case rel => exact ⟨n + 1, .slice oa p4.air.length capa, hlt, by simp, by rw [HP.out]; exact S11.out.pm, Lib.hid S11.out.row, Lib.hid S11.out.ne⟩
            case measure => simp [intOf]; omega
        · have en : len = n := by omega
          subst en
          have M9 : Hid (PM w ⟨x, a2, b, P1, d, P2⟩ (e.outL.foldl sd1 (c.outL.foldl sd0 p)) c.outC e.outC wr) := by show PM _ _ _ _ _ _; rw [← HTk.out]; exact M3.out
          clear M3 M2 HTk HFd R2 R3 NE hne hgo HQx
          go_wp2_with fail
          go_roundw
          case rel => exact ⟨a2, P1, P2, _, _, _, M9.out, Or.inr (Or.inr ⟨rfl, rfl, rfl, rfl⟩)⟩
          case measure => simp [intOf]

    · have HM := Lib.hid hm
      clear hm
      go_wp2_with fail
      go_ret
      exact ⟨rfl, a1, P1, Q1, HM.out⟩
end
end Go.Proofs.Ytnhcjefbiihfjaa
