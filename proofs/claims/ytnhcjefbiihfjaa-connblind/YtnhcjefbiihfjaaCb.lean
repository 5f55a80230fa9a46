/-
  A connection in memory: its block, its queues, its window, its timer, the Rsts that were asked for.
-/
import Derived.Test.YtnhcjefbiihfjaaMo
namespace Go.Proofs.Ytnhcjefbiihfjaa
open Go.RowKit
open Tc (Sg gchk)
set_option linter.unusedVariables false
set_option linter.unusedSimpArgs false

/-- What a connection's pieces of memory are: the queue of what goes out, its row, that of what comes in, the window, the timer, the row of Rsts. -/
structure Pt where
  po : Nat
  ov : Value
  pi : Nat
  pw : Nat
  pt : Nat
  rv : Value
abbrev ptr (b : Nat) : Value := .pointer (some ⟨b, 0, none⟩)
def inV (c : Cn) (P : Pt) : Value := match c.i with | none => .pointer none | some _ => ptr P.pi
def rcl (l : List Nat) : List Value := l.map fun (n : Nat) => Value.int .u32 (n : Int)
theorem rcl_append (l m : List Nat) : rcl (l ++ m) = rcl l ++ rcl m := by simp [rcl]
theorem rcl_length (l : List Nat) : (rcl l).length = l.length := by simp [rcl]
theorem rcl_one (l : List Nat) : ∀ v ∈ rcl l, v.oneCell' = true := by
  intro v hv
  obtain ⟨n, _, rfl⟩ := List.mem_map.1 hv
  rfl
abbrev ccs (c : Cn) (P : Pt) : Array Value := #[.int .u32 (c.la : Int), .int .i64 c.lp, .int .u32 (c.ra : Int), .int .i64 c.rp, .int .u32 (c.iss : Int), .int .u32 (c.irs : Int), .int .i64 c.st, .int .i64 c.why, .int .i64 c.told, .int .i64 c.mss, ptr P.po, .bool c.o.sh, inV c P, .int .i64 c.wnd, .int .i64 c.wp, ptr P.pw, ptr P.pt, .int .i64 c.time, .bool c.run, .int .i64 c.beg, .int .i64 c.gone, .int .i64 c.wts, .int .i64 c.beh, .int .i64 c.snc, .int .i64 c.same, P.rv, .bool c.again, .bool c.probe, .bool c.ack]
structure CT (b : Nat) (c : Cn) (P : Pt) (W : World) : Prop where
  blk : W.heap[b]? = some (.cells (ccs c P) 80 (0, 0))
  out : Oq.OT P.po P.ov c.o W
  inn : ∀ t, c.i = some t → Iq.OT P.pi t W
  win : Cw.TB P.pw c.cw W
  tim : Rt.TB P.pt c.tm W
  rst : W.ownsRow 0 22 1 P.rv c.rst.length (rcl c.rst)
  pi0 : c.i = none → P.pi = b
/-- All its blocks. -/
def fp (b : Nat) (P : Pt) : List Nat := b :: P.po :: P.pi :: P.pw :: P.pt :: (rw' P.ov ++ rw' P.rv)
/-- What becomes of memory: its own blocks alone are turned; it has these and new ones. -/
structure Up (b : Nat) (P P' : Pt) (w w' : World) : Prop where
  kp : Kp (fp b P) w w'
  fr : ∀ x ∈ fp b P', x ∈ fp b P ∨ w.heap.size ≤ x
theorem Up.refl (b : Nat) (P : Pt) (w : World) : Up b P P w w := ⟨Kp.refl _ _, fun x h => Or.inl h⟩
theorem Up.trans {b : Nat} {P P1 P2 : Pt} {w w1 w2 : World} (h : Up b P P1 w w1) (k : Up b P1 P2 w1 w2) : Up b P P2 w w2 :=
  ⟨h.kp.trans k.kp h.fr, fun x hx => by
    rcases k.fr x hx with e | e
    · exact h.fr x e
    · exact Or.inr (Nat.le_trans h.kp.size e)⟩
theorem Up.of {b : Nat} {P : Pt} {w w' : World} (h : Kp (fp b P) w w') : Up b P P w w' := ⟨h, fun x h => Or.inl h⟩
theorem Up.below {b : Nat} {P : Pt} {w w' : World} (h : Below w.heap.size w w') : Up b P P w w' := Up.of (Kp.ofBelow h)
theorem Up.then {b : Nat} {P P1 : Pt} {w w1 w2 : World} (h : Up b P P1 w w1) (k : Below w1.heap.size w1 w2) : Up b P P1 w w2 := h.trans (Up.below k)
theorem Up.set {b : Nat} {P P1 : Pt} {w w1 : World} (h : Up b P P1 w w1) (i : Nat) (v : Value) : Up b P P1 w (w1.setCell ⟨b, i, none⟩ v) := h.trans (Up.of ((Kp.refl _ _).setCell (Or.inl (by simp [fp])) _))
theorem ne_type {W : World} {a b : Nat} {x y : Array Value} {t u : TypeId} {m n : Nat × Nat} (h1 : W.heap[a]? = some (.cells x t m)) (h2 : W.heap[b]? = some (.cells y u n)) (ht : t ≠ u) : a ≠ b := by
  rintro rfl
  rw [h1] at h2
  injection h2 with h2
  injection h2 with _ h2
  exact ht h2
theorem own_kp {w w' : World} {base e size n : Nat} {v : Value} {xs : List Value} {bs : List Nat} (h : w.ownsRow base e size v n xs) (hk : Kp bs w w') (hn : ∀ g, v.ownBlock = some g → g ∉ bs) : w'.ownsRow base e size v n xs := by
  refine ⟨h.1, ?_⟩
  rcases h.2 with h2 | ⟨g, cap, cur, hv, hg, hh, r⟩
  · exact Or.inl h2
  · exact Or.inr ⟨g, cap, cur, hv, hg, (hk.block g (lt_of_heap hh) (hn g (by rw [hv]; rfl))).trans hh, r⟩
theorem Iq.OT.blk' {b : Nat} {t : Iq.St} {W : World} (h : Iq.OT b t W) : ∃ a, W.heap[b]? = some (.cells a 123 (0, 0)) := by obtain ⟨q, ⟨a, ha, _⟩, _⟩ := h; exact ⟨a, ha⟩
section
variable {b : Nat} {c : Cn} {P : Pt} {W W' : World}
theorem CT.lt (h : CT b c P W) : b < W.heap.size := lt_of_heap h.blk
theorem CT.fp_lt (h : CT b c P W) : ∀ x ∈ fp b P, x < W.heap.size := by
  intro x hx
  have hb := h.lt
  simp only [fp, List.mem_cons, List.mem_append] at hx
  rcases hx with rfl | rfl | rfl | rfl | rfl | hx | hx
  · exact hb
  · exact h.out.lt
  · rcases hi : c.i with _ | t
    · rw [h.pi0 hi]; exact hb
    · exact (h.inn t hi).lt
  · exact h.win.lt
  · exact h.tim.lt
  · obtain ⟨cur, hc⟩ := own_block h.out.own (show P.ov.ownBlock = some x by simpa [rw'] using hx)
    exact lt_of_heap hc
  · obtain ⟨cur, hc⟩ := own_block h.rst (show P.rv.ownBlock = some x by simpa [rw'] using hx)
    exact lt_of_heap hc
theorem CT.kp {bs : List Nat} (h : CT b c P W) (hk : Kp bs W W') (hn : ∀ x ∈ fp b P, x ∉ bs) : CT b c P W' := by
  have hm : ∀ x, x ∈ b :: P.po :: P.pi :: P.pw :: P.pt :: (rw' P.ov ++ rw' P.rv) → x ∉ bs := hn
  refine ⟨(hk.block b h.lt (hm b (by simp))).trans h.blk, ?_, fun t ht => (h.inn t ht).kp hk (hm _ (by simp)), h.win.kp hk (hm _ (by simp)), h.tim.kp hk (hm _ (by simp)), own_kp h.rst hk fun g hg => hm g (by simp [rw', hg]), h.pi0⟩
  exact Oq.QR.kp h.out hk (hm _ (by simp)) fun g hg => hm g (by simp [rw', hg])
theorem CT.keep (h : CT b c P W) (hb : Below W.heap.size W W') : CT b c P W' := h.kp (bs := []) (Kp.ofBelow hb) (by simp)
theorem CT.drewN (h : CT b c P W) (n : Nat) : CT b c P (W.drewN n) := h.keep (below_drewN W n)
theorem CT.drew (h : CT b c P W) : CT b c P W.drew := h.keep ((Below.refl _ _).drew)
theorem CT.alloc (h : CT b c P W) (o : Obj) : CT b c P (W.alloc o) := h.keep ((Below.refl _ _).alloc (Nat.le_refl _) _)
theorem CT.free (h : CT b c P W) (i : Nat) : W.frozen? ⟨b, i, none⟩ = false := Joins.unfrozen_of_block h.blk i
/-- What is no block of it: whatever has another type. -/
theorem CT.ne_po (h : CT b c P W) : b ≠ P.po := ne_type h.blk h.out.blk (by decide)
theorem CT.ne_pw (h : CT b c P W) : b ≠ P.pw := ne_type h.blk h.win (by decide)
theorem CT.ne_pt (h : CT b c P W) : b ≠ P.pt := ne_type h.blk h.tim (by decide)
theorem CT.ne_pi (h : CT b c P W) {t : Iq.St} (ht : c.i = some t) : b ≠ P.pi := by obtain ⟨a, ha⟩ := (h.inn t ht).blk'; exact ne_type h.blk ha (by decide)
theorem CT.ne_ov (h : CT b c P W) {g : Nat} (hg : P.ov.ownBlock = some g) {k : Nat} {cs : Array Value} {t : TypeId} (hk : W.heap[k]? = some (.cells cs t (0, 0))) (ht : t ≠ 5) : g ≠ k := by
  obtain ⟨cur, hc⟩ := own_block h.out.own hg
  exact ne_type hc hk (Ne.symm ht)
theorem CT.ne_rv (h : CT b c P W) {g : Nat} (hg : P.rv.ownBlock = some g) {k : Nat} {cs : Array Value} {t : TypeId} (hk : W.heap[k]? = some (.cells cs t (0, 0))) (ht : t ≠ 22) : g ≠ k := by
  obtain ⟨cur, hc⟩ := own_block h.rst hg
  exact ne_type hc hk (Ne.symm ht)
theorem CT.set (h : CT b c P W) (i : Nat) (v : Value) (c' : Cn) (hc : (ccs c P).setIfInBounds i v = ccs c' P) (e1 : c'.o = c.o) (e2 : c'.i = c.i) (e3 : c'.cw = c.cw) (e4 : c'.tm = c.tm) (e5 : c'.rst = c.rst) : CT b c' P (W.setCell ⟨b, i, none⟩ v) := by
  have hk : Kp [b] W (W.setCell ⟨b, i, none⟩ v) := (Kp.refl _ _).setCell (Or.inl (by simp)) _
  refine ⟨?_, ?_, fun t ht => ?_, ?_, ?_, ?_, fun hi => h.pi0 (by rw [← e2]; exact hi)⟩
  · rw [← hc]; exact Joins.block_setCell h.blk v
  · rw [e1]; exact Oq.QR.kp h.out hk (by simpa using h.ne_po.symm) fun g hg => by simpa using h.ne_ov hg h.blk (by decide)
  · rw [e2] at ht; exact (h.inn t ht).kp hk (by simpa using (h.ne_pi ht).symm)
  · rw [e3]; exact h.win.kp hk (by simpa using h.ne_pw.symm)
  · rw [e4]; exact h.tim.kp hk (by simpa using h.ne_pt.symm)
  · rw [e5]; exact own_kp h.rst hk fun g hg => by simpa using h.ne_rv hg h.blk (by decide)
theorem CT.c0 (h : CT b c P W) : W.cell? ⟨b, 0, none⟩ = some (.int .u32 (c.la : Int)) := Joins.cell_of_block h.blk 0
theorem CT.c1 (h : CT b c P W) : W.cell? ⟨b, 1, none⟩ = some (.int .i64 c.lp) := Joins.cell_of_block h.blk 1
theorem CT.c2 (h : CT b c P W) : W.cell? ⟨b, 2, none⟩ = some (.int .u32 (c.ra : Int)) := Joins.cell_of_block h.blk 2
theorem CT.c3 (h : CT b c P W) : W.cell? ⟨b, 3, none⟩ = some (.int .i64 c.rp) := Joins.cell_of_block h.blk 3
theorem CT.c4 (h : CT b c P W) : W.cell? ⟨b, 4, none⟩ = some (.int .u32 (c.iss : Int)) := Joins.cell_of_block h.blk 4
theorem CT.c5 (h : CT b c P W) : W.cell? ⟨b, 5, none⟩ = some (.int .u32 (c.irs : Int)) := Joins.cell_of_block h.blk 5
theorem CT.c6 (h : CT b c P W) : W.cell? ⟨b, 6, none⟩ = some (.int .i64 c.st) := Joins.cell_of_block h.blk 6
theorem CT.c7 (h : CT b c P W) : W.cell? ⟨b, 7, none⟩ = some (.int .i64 c.why) := Joins.cell_of_block h.blk 7
theorem CT.c8 (h : CT b c P W) : W.cell? ⟨b, 8, none⟩ = some (.int .i64 c.told) := Joins.cell_of_block h.blk 8
theorem CT.c9 (h : CT b c P W) : W.cell? ⟨b, 9, none⟩ = some (.int .i64 c.mss) := Joins.cell_of_block h.blk 9
theorem CT.c10 (h : CT b c P W) : W.cell? ⟨b, 10, none⟩ = some (ptr P.po) := Joins.cell_of_block h.blk 10
theorem CT.c11 (h : CT b c P W) : W.cell? ⟨b, 11, none⟩ = some (.bool c.o.sh) := Joins.cell_of_block h.blk 11
theorem CT.c12 (h : CT b c P W) : W.cell? ⟨b, 12, none⟩ = some (inV c P) := Joins.cell_of_block h.blk 12
theorem CT.c13 (h : CT b c P W) : W.cell? ⟨b, 13, none⟩ = some (.int .i64 c.wnd) := Joins.cell_of_block h.blk 13
theorem CT.c14 (h : CT b c P W) : W.cell? ⟨b, 14, none⟩ = some (.int .i64 c.wp) := Joins.cell_of_block h.blk 14
theorem CT.c15 (h : CT b c P W) : W.cell? ⟨b, 15, none⟩ = some (ptr P.pw) := Joins.cell_of_block h.blk 15
theorem CT.c16 (h : CT b c P W) : W.cell? ⟨b, 16, none⟩ = some (ptr P.pt) := Joins.cell_of_block h.blk 16
theorem CT.c17 (h : CT b c P W) : W.cell? ⟨b, 17, none⟩ = some (.int .i64 c.time) := Joins.cell_of_block h.blk 17
theorem CT.c18 (h : CT b c P W) : W.cell? ⟨b, 18, none⟩ = some (.bool c.run) := Joins.cell_of_block h.blk 18
theorem CT.c19 (h : CT b c P W) : W.cell? ⟨b, 19, none⟩ = some (.int .i64 c.beg) := Joins.cell_of_block h.blk 19
theorem CT.c20 (h : CT b c P W) : W.cell? ⟨b, 20, none⟩ = some (.int .i64 c.gone) := Joins.cell_of_block h.blk 20
theorem CT.c21 (h : CT b c P W) : W.cell? ⟨b, 21, none⟩ = some (.int .i64 c.wts) := Joins.cell_of_block h.blk 21
theorem CT.c22 (h : CT b c P W) : W.cell? ⟨b, 22, none⟩ = some (.int .i64 c.beh) := Joins.cell_of_block h.blk 22
theorem CT.c23 (h : CT b c P W) : W.cell? ⟨b, 23, none⟩ = some (.int .i64 c.snc) := Joins.cell_of_block h.blk 23
theorem CT.c24 (h : CT b c P W) : W.cell? ⟨b, 24, none⟩ = some (.int .i64 c.same) := Joins.cell_of_block h.blk 24
theorem CT.c25 (h : CT b c P W) : W.cell? ⟨b, 25, none⟩ = some (P.rv) := Joins.cell_of_block h.blk 25
theorem CT.c26 (h : CT b c P W) : W.cell? ⟨b, 26, none⟩ = some (.bool c.again) := Joins.cell_of_block h.blk 26
theorem CT.c27 (h : CT b c P W) : W.cell? ⟨b, 27, none⟩ = some (.bool c.probe) := Joins.cell_of_block h.blk 27
theorem CT.c28 (h : CT b c P W) : W.cell? ⟨b, 28, none⟩ = some (.bool c.ack) := Joins.cell_of_block h.blk 28
theorem CT.s0 (h : CT b c P W) (x : Nat) : CT b { c with la := x } P (W.setCell ⟨b, 0, none⟩ (.int .u32 (x : Int))) := h.set 0 _ _ rfl rfl rfl rfl rfl rfl
theorem CT.s1 (h : CT b c P W) (x : Int) : CT b { c with lp := x } P (W.setCell ⟨b, 1, none⟩ (.int .i64 x)) := h.set 1 _ _ rfl rfl rfl rfl rfl rfl
theorem CT.s2 (h : CT b c P W) (x : Nat) : CT b { c with ra := x } P (W.setCell ⟨b, 2, none⟩ (.int .u32 (x : Int))) := h.set 2 _ _ rfl rfl rfl rfl rfl rfl
theorem CT.s3 (h : CT b c P W) (x : Int) : CT b { c with rp := x } P (W.setCell ⟨b, 3, none⟩ (.int .i64 x)) := h.set 3 _ _ rfl rfl rfl rfl rfl rfl
theorem CT.s4 (h : CT b c P W) (x : Nat) : CT b { c with iss := x } P (W.setCell ⟨b, 4, none⟩ (.int .u32 (x : Int))) := h.set 4 _ _ rfl rfl rfl rfl rfl rfl
theorem CT.s5 (h : CT b c P W) (x : Nat) : CT b { c with irs := x } P (W.setCell ⟨b, 5, none⟩ (.int .u32 (x : Int))) := h.set 5 _ _ rfl rfl rfl rfl rfl rfl
theorem CT.s6 (h : CT b c P W) (x : Int) : CT b { c with st := x } P (W.setCell ⟨b, 6, none⟩ (.int .i64 x)) := h.set 6 _ _ rfl rfl rfl rfl rfl rfl
theorem CT.s7 (h : CT b c P W) (x : Int) : CT b { c with why := x } P (W.setCell ⟨b, 7, none⟩ (.int .i64 x)) := h.set 7 _ _ rfl rfl rfl rfl rfl rfl
theorem CT.s8 (h : CT b c P W) (x : Int) : CT b { c with told := x } P (W.setCell ⟨b, 8, none⟩ (.int .i64 x)) := h.set 8 _ _ rfl rfl rfl rfl rfl rfl
theorem CT.s9 (h : CT b c P W) (x : Int) : CT b { c with mss := x } P (W.setCell ⟨b, 9, none⟩ (.int .i64 x)) := h.set 9 _ _ rfl rfl rfl rfl rfl rfl
theorem CT.s13 (h : CT b c P W) (x : Int) : CT b { c with wnd := x } P (W.setCell ⟨b, 13, none⟩ (.int .i64 x)) := h.set 13 _ _ rfl rfl rfl rfl rfl rfl
theorem CT.s14 (h : CT b c P W) (x : Int) : CT b { c with wp := x } P (W.setCell ⟨b, 14, none⟩ (.int .i64 x)) := h.set 14 _ _ rfl rfl rfl rfl rfl rfl
theorem CT.s17 (h : CT b c P W) (x : Int) : CT b { c with time := x } P (W.setCell ⟨b, 17, none⟩ (.int .i64 x)) := h.set 17 _ _ rfl rfl rfl rfl rfl rfl
theorem CT.s18 (h : CT b c P W) (x : Bool) : CT b { c with run := x } P (W.setCell ⟨b, 18, none⟩ (.bool x)) := h.set 18 _ _ rfl rfl rfl rfl rfl rfl
theorem CT.s19 (h : CT b c P W) (x : Int) : CT b { c with beg := x } P (W.setCell ⟨b, 19, none⟩ (.int .i64 x)) := h.set 19 _ _ rfl rfl rfl rfl rfl rfl
theorem CT.s20 (h : CT b c P W) (x : Int) : CT b { c with gone := x } P (W.setCell ⟨b, 20, none⟩ (.int .i64 x)) := h.set 20 _ _ rfl rfl rfl rfl rfl rfl
theorem CT.s21 (h : CT b c P W) (x : Int) : CT b { c with wts := x } P (W.setCell ⟨b, 21, none⟩ (.int .i64 x)) := h.set 21 _ _ rfl rfl rfl rfl rfl rfl
theorem CT.s22 (h : CT b c P W) (x : Int) : CT b { c with beh := x } P (W.setCell ⟨b, 22, none⟩ (.int .i64 x)) := h.set 22 _ _ rfl rfl rfl rfl rfl rfl
theorem CT.s23 (h : CT b c P W) (x : Int) : CT b { c with snc := x } P (W.setCell ⟨b, 23, none⟩ (.int .i64 x)) := h.set 23 _ _ rfl rfl rfl rfl rfl rfl
theorem CT.s24 (h : CT b c P W) (x : Int) : CT b { c with same := x } P (W.setCell ⟨b, 24, none⟩ (.int .i64 x)) := h.set 24 _ _ rfl rfl rfl rfl rfl rfl
theorem CT.s26 (h : CT b c P W) (x : Bool) : CT b { c with again := x } P (W.setCell ⟨b, 26, none⟩ (.bool x)) := h.set 26 _ _ rfl rfl rfl rfl rfl rfl
theorem CT.s27 (h : CT b c P W) (x : Bool) : CT b { c with probe := x } P (W.setCell ⟨b, 27, none⟩ (.bool x)) := h.set 27 _ _ rfl rfl rfl rfl rfl rfl
theorem CT.s28 (h : CT b c P W) (x : Bool) : CT b { c with ack := x } P (W.setCell ⟨b, 28, none⟩ (.bool x)) := h.set 28 _ _ rfl rfl rfl rfl rfl rfl
/-- The queue of what goes out was turned. -/
theorem CT.putO (h : CT b c P W) {o' : Oq.St} {v' : Value} (ho : Oq.OT P.po v' o' W') (hk : Kp (P.po :: rw' P.ov) W W') (hsh : o'.sh = c.o.sh) : CT b { c with o := o' } { P with ov := v' } W' := by
  have hm : ∀ {k : Nat} {cs : Array Value} {t : TypeId}, W.heap[k]? = some (.cells cs t (0, 0)) → t ≠ 5 → t ≠ 97 → k ∉ P.po :: rw' P.ov := fun hk h1 h2 hm => by
    rcases List.mem_cons.1 hm with e | e
    · exact ne_type hk h.out.blk h2 e
    · exact h.ne_ov (by simpa [rw'] using e) hk h1 rfl
  refine ⟨?_, ho, fun t ht => ?_, h.win.kp hk (hm h.win (by decide) (by decide)), h.tim.kp hk (hm h.tim (by decide) (by decide)), own_kp h.rst hk fun g hg => ?_, h.pi0⟩
  · have := (hk.block b h.lt (hm h.blk (by decide) (by decide))).trans h.blk
    rw [this]
    show some (Obj.cells (ccs c P) _ _) = some (Obj.cells (ccs { c with o := o' } { P with ov := v' }) _ _)
    simp only [ccs, hsh]
    rfl
  · obtain ⟨a, ha⟩ := (h.inn t ht).blk'
    exact (h.inn t ht).kp hk (hm ha (by decide) (by decide))
  · obtain ⟨cur, hc⟩ := own_block h.rst hg
    exact hm hc (by decide) (by decide)
theorem CT.putI (h : CT b c P W) {t t' : Iq.St} (ht : c.i = some t) (ho : Iq.OT P.pi t' W') (hk : Kp [P.pi] W W') : CT b { c with i := some t' } P W' := by
  obtain ⟨a, ha⟩ := (h.inn t ht).blk'
  have hm : ∀ {k : Nat} {cs : Array Value} {t : TypeId}, W.heap[k]? = some (.cells cs t (0, 0)) → t ≠ 123 → k ∉ [P.pi] := fun hk h1 hm => ne_type hk ha h1 (by simpa using hm)
  refine ⟨?_, Oq.QR.kp h.out hk (hm h.out.blk (by decide)) fun g hg => ?_, fun t ht => ?_, h.win.kp hk (hm h.win (by decide)), h.tim.kp hk (hm h.tim (by decide)), own_kp h.rst hk fun g hg => ?_, fun hi => by cases hi⟩
  · have := (hk.block b h.lt (hm h.blk (by decide))).trans h.blk
    rw [this]
    show some (Obj.cells (ccs c P) _ _) = some (Obj.cells (ccs { c with i := some t' } P) _ _)
    simp only [ccs, inV, ht]
  · obtain ⟨cur, hc⟩ := own_block h.out.own hg
    exact hm hc (by decide)
  · cases ht; exact ho
  · obtain ⟨cur, hc⟩ := own_block h.rst hg
    exact hm hc (by decide)
theorem CT.putW (h : CT b c P W) {t' : Cw.Wn} (ho : Cw.TB P.pw t' W') (hk : Kp [P.pw] W W') : CT b { c with cw := t' } P W' := by
  have hm : ∀ {k : Nat} {cs : Array Value} {t : TypeId}, W.heap[k]? = some (.cells cs t (0, 0)) → t ≠ 109 → k ∉ [P.pw] := fun hk h1 hm => ne_type hk h.win h1 (by simpa using hm)
  refine ⟨(hk.block b h.lt (hm h.blk (by decide))).trans h.blk, Oq.QR.kp h.out hk (hm h.out.blk (by decide)) fun g hg => ?_, fun t ht => ?_, ho, h.tim.kp hk (hm h.tim (by decide)), own_kp h.rst hk fun g hg => ?_, h.pi0⟩
  · obtain ⟨cur, hc⟩ := own_block h.out.own hg
    exact hm hc (by decide)
  · obtain ⟨a, ha⟩ := (h.inn t ht).blk'
    exact (h.inn t ht).kp hk (hm ha (by decide))
  · obtain ⟨cur, hc⟩ := own_block h.rst hg
    exact hm hc (by decide)
theorem CT.putT (h : CT b c P W) {t' : Rt.Tm} (ho : Rt.TB P.pt t' W') (hk : Kp [P.pt] W W') : CT b { c with tm := t' } P W' := by
  have hm : ∀ {k : Nat} {cs : Array Value} {t : TypeId}, W.heap[k]? = some (.cells cs t (0, 0)) → t ≠ 93 → k ∉ [P.pt] := fun hk h1 hm => ne_type hk h.tim h1 (by simpa using hm)
  refine ⟨(hk.block b h.lt (hm h.blk (by decide))).trans h.blk, Oq.QR.kp h.out hk (hm h.out.blk (by decide)) fun g hg => ?_, fun t ht => ?_, h.win.kp hk (hm h.win (by decide)), ho, own_kp h.rst hk fun g hg => ?_, h.pi0⟩
  · obtain ⟨cur, hc⟩ := own_block h.out.own hg
    exact hm hc (by decide)
  · obtain ⟨a, ha⟩ := (h.inn t ht).blk'
    exact (h.inn t ht).kp hk (hm ha (by decide))
  · obtain ⟨cur, hc⟩ := own_block h.rst hg
    exact hm hc (by decide)
/-- Another queue, another window: new ones, both. -/
theorem CT.newI (h : CT b c P W) {p : Nat} {t' : Iq.St} (ho : Iq.OT p t' W) : CT b { c with i := some t' } { P with pi := p } (W.setCell ⟨b, 12, none⟩ (ptr p)) := by
  have hk : Kp [b] W (W.setCell ⟨b, 12, none⟩ (ptr p)) := (Kp.refl _ _).setCell (Or.inl (by simp)) _
  refine ⟨?_, ?_, fun t ht => ?_, ?_, ?_, ?_, fun hi => by cases hi⟩
  · exact Joins.block_setCell h.blk (ptr p)
  · exact Oq.QR.kp h.out hk (by simpa using h.ne_po.symm) fun g hg => by simpa using h.ne_ov hg h.blk (by decide)
  · cases ht
    obtain ⟨a, ha⟩ := Iq.OT.blk' ho
    exact ho.kp hk (by simpa using ne_type ha h.blk (by decide))
  · exact h.win.kp hk (by simpa using h.ne_pw.symm)
  · exact h.tim.kp hk (by simpa using h.ne_pt.symm)
  · exact own_kp h.rst hk fun g hg => by simpa using h.ne_rv hg h.blk (by decide)
theorem CT.newW (h : CT b c P W) {p : Nat} {t' : Cw.Wn} (ho : Cw.TB p t' W) : CT b { c with cw := t' } { P with pw := p } (W.setCell ⟨b, 15, none⟩ (ptr p)) := by
  have hk : Kp [b] W (W.setCell ⟨b, 15, none⟩ (ptr p)) := (Kp.refl _ _).setCell (Or.inl (by simp)) _
  refine ⟨?_, ?_, fun t ht => ?_, ?_, ?_, ?_, h.pi0⟩
  · exact Joins.block_setCell h.blk (ptr p)
  · exact Oq.QR.kp h.out hk (by simpa using h.ne_po.symm) fun g hg => by simpa using h.ne_ov hg h.blk (by decide)
  · exact (h.inn t ht).kp hk (by simpa using (h.ne_pi ht).symm)
  · exact ho.kp hk (by simpa using ne_type ho h.blk (by decide))
  · exact h.tim.kp hk (by simpa using h.ne_pt.symm)
  · exact own_kp h.rst hk fun g hg => by simpa using h.ne_rv hg h.blk (by decide)
/-- What goes out has ended. -/
theorem CT.shut (h : CT b c P W) (ho : Oq.OT P.po P.ov (Oq.cl c.o) W') (hk : Kp [P.po] W W') : CT b { c with o := Oq.cl c.o } P (W'.setCell ⟨b, 11, none⟩ (.bool true)) := by
  have hm : ∀ {k : Nat} {cs : Array Value} {t : TypeId}, W.heap[k]? = some (.cells cs t (0, 0)) → t ≠ 97 → k ∉ [P.po] := fun hk h1 hm => ne_type hk h.out.blk h1 (by simpa using hm)
  have hb : W'.heap[b]? = some (.cells (ccs c P) 80 (0, 0)) := (hk.block b h.lt (hm h.blk (by decide))).trans h.blk
  have hk2 : Kp [b] W' (W'.setCell ⟨b, 11, none⟩ (.bool true)) := (Kp.refl _ _).setCell (Or.inl (by simp)) _
  refine ⟨Joins.block_setCell hb (.bool true), Oq.QR.kp ho hk2 (by simpa using (ne_type hb ho.blk (by decide)).symm) fun g hg => ?_, fun t ht => ?_, ?_, ?_, ?_, h.pi0⟩
  · obtain ⟨cur, hc⟩ := own_block ho.own hg
    simpa using ne_type hc hb (by decide)
  · obtain ⟨a, ha⟩ := (h.inn t ht).blk'
    exact ((h.inn t ht).kp hk (hm ha (by decide))).kp hk2 (by simpa using (h.ne_pi ht).symm)
  · exact (h.win.kp hk (hm h.win (by decide))).kp hk2 (by simpa using h.ne_pw.symm)
  · exact (h.tim.kp hk (hm h.tim (by decide))).kp hk2 (by simpa using h.ne_pt.symm)
  · refine own_kp (own_kp h.rst hk fun g hg => ?_) hk2 fun g hg => ?_
    · obtain ⟨cur, hc⟩ := own_block h.rst hg
      exact hm hc (by decide)
    · simpa using h.ne_rv hg h.blk (by decide)
/-- The Rsts were stored anew. -/
theorem CT.putR (h : CT b c P W) {v' : Value} {l : List Nat} (hown : W'.ownsRow 0 22 1 v' l.length (rcl l)) (hk : Kp (rw' P.rv) W W') : CT b { c with rst := l } { P with rv := v' } (W'.setCell ⟨b, 25, none⟩ v') := by
  have hm : ∀ {k : Nat} {cs : Array Value} {t : TypeId}, W.heap[k]? = some (.cells cs t (0, 0)) → t ≠ 22 → k ∉ rw' P.rv := fun hk h1 hm => h.ne_rv (by simpa [rw'] using hm) hk h1 rfl
  have hb : W'.heap[b]? = some (.cells (ccs c P) 80 (0, 0)) := (hk.block b h.lt (hm h.blk (by decide))).trans h.blk
  have hk2 : Kp [b] W' (W'.setCell ⟨b, 25, none⟩ v') := (Kp.refl _ _).setCell (Or.inl (by simp)) _
  refine ⟨Joins.block_setCell hb v', ?_, fun t ht => ?_, ?_, ?_, own_kp hown hk2 fun g hg => ?_, h.pi0⟩
  · have h1 : Oq.OT P.po P.ov c.o W' := Oq.QR.kp h.out hk (hm h.out.blk (by decide)) fun g hg => by
      obtain ⟨cur, hc⟩ := own_block h.out.own hg
      exact hm hc (by decide)
    exact Oq.QR.kp h1 hk2 (by simpa using h.ne_po.symm) fun g hg => by simpa using h.ne_ov hg h.blk (by decide)
  · obtain ⟨a, ha⟩ := (h.inn t ht).blk'
    exact ((h.inn t ht).kp hk (hm ha (by decide))).kp hk2 (by simpa using (h.ne_pi ht).symm)
  · exact (h.win.kp hk (hm h.win (by decide))).kp hk2 (by simpa using h.ne_pw.symm)
  · exact (h.tim.kp hk (hm h.tim (by decide))).kp hk2 (by simpa using h.ne_pt.symm)
  · obtain ⟨cur, hc⟩ := own_block hown hg
    simpa using ne_type hc hb (by decide)
/-- Up, by what was turned. -/
theorem CT.upO (h : CT b c P W) {v' : Value} (hk : Kp (P.po :: rw' P.ov) W W') (hn : Nw W P.ov v') : Up b P { P with ov := v' } W W' :=
  ⟨hk.mono (fun x hx => by simp [fp] at hx ⊢; rcases hx with e | e <;> simp [e]), fun x hx => by
    simp only [fp, List.mem_cons, List.mem_append] at hx ⊢
    rcases hx with e | e | e | e | e | e | e
    · exact Or.inl (Or.inl e)
    · exact Or.inl (Or.inr (Or.inl e))
    · exact Or.inl (Or.inr (Or.inr (Or.inl e)))
    · exact Or.inl (Or.inr (Or.inr (Or.inr (Or.inl e))))
    · exact Or.inl (Or.inr (Or.inr (Or.inr (Or.inr (Or.inl e)))))
    · rcases hn x (by simpa [rw'] using e) with e2 | e2
      · exact Or.inl (Or.inr (Or.inr (Or.inr (Or.inr (Or.inr (Or.inl (by simpa [rw'] using e2)))))))
      · exact Or.inr e2
    · exact Or.inl (Or.inr (Or.inr (Or.inr (Or.inr (Or.inr (Or.inr e))))))⟩
theorem CT.upR (h : CT b c P W) {v' : Value} (hk : Kp (rw' P.rv) W W') (hn : Nw W P.rv v') : Up b P { P with rv := v' } W (W'.setCell ⟨b, 25, none⟩ v') :=
  ⟨(hk.mono (cs := fp b P) (fun x hx => by simp [fp, hx])).setCell (Or.inl (by simp [fp])) _, fun x hx => by
    simp only [fp, List.mem_cons, List.mem_append] at hx ⊢
    rcases hx with e | e | e | e | e | e | e
    · exact Or.inl (Or.inl e)
    · exact Or.inl (Or.inr (Or.inl e))
    · exact Or.inl (Or.inr (Or.inr (Or.inl e)))
    · exact Or.inl (Or.inr (Or.inr (Or.inr (Or.inl e))))
    · exact Or.inl (Or.inr (Or.inr (Or.inr (Or.inr (Or.inl e)))))
    · exact Or.inl (Or.inr (Or.inr (Or.inr (Or.inr (Or.inr (Or.inl e))))))
    · rcases hn x (by simpa [rw'] using e) with e2 | e2
      · exact Or.inl (Or.inr (Or.inr (Or.inr (Or.inr (Or.inr (Or.inr (by simpa [rw'] using e2)))))))
      · exact Or.inr e2⟩
theorem CT.upI (h : CT b c P W) {p : Nat} (hp : W.heap.size ≤ p) (v : Value) (hk : Below W.heap.size W W') (i : Nat) : Up b P { P with pi := p } W (W'.setCell ⟨b, i, none⟩ v) :=
  ⟨(Kp.ofBelow hk).setCell (Or.inl (by simp [fp])) _, fun x hx => by
    simp only [fp, List.mem_cons, List.mem_append] at hx ⊢
    rcases hx with e | e | e | e | e | e | e
    · exact Or.inl (Or.inl e)
    · exact Or.inl (Or.inr (Or.inl e))
    · exact Or.inr (by rw [e]; exact hp)
    · exact Or.inl (Or.inr (Or.inr (Or.inr (Or.inl e))))
    · exact Or.inl (Or.inr (Or.inr (Or.inr (Or.inr (Or.inl e)))))
    · exact Or.inl (Or.inr (Or.inr (Or.inr (Or.inr (Or.inr (Or.inl e))))))
    · exact Or.inl (Or.inr (Or.inr (Or.inr (Or.inr (Or.inr (Or.inr e))))))⟩
theorem CT.upW (h : CT b c P W) {p : Nat} (hp : W.heap.size ≤ p) (v : Value) (hk : Below W.heap.size W W') (i : Nat) : Up b P { P with pw := p } W (W'.setCell ⟨b, i, none⟩ v) :=
  ⟨(Kp.ofBelow hk).setCell (Or.inl (by simp [fp])) _, fun x hx => by
    simp only [fp, List.mem_cons, List.mem_append] at hx ⊢
    rcases hx with e | e | e | e | e | e | e
    · exact Or.inl (Or.inl e)
    · exact Or.inl (Or.inr (Or.inl e))
    · exact Or.inl (Or.inr (Or.inr (Or.inl e)))
    · exact Or.inr (by rw [e]; exact hp)
    · exact Or.inl (Or.inr (Or.inr (Or.inr (Or.inr (Or.inl e)))))
    · exact Or.inl (Or.inr (Or.inr (Or.inr (Or.inr (Or.inr (Or.inl e))))))
    · exact Or.inl (Or.inr (Or.inr (Or.inr (Or.inr (Or.inr (Or.inr e))))))⟩
theorem up1 {bs : List Nat} (hk : Kp bs W W') (hs : ∀ x ∈ bs, x ∈ fp b P) : Up b P P W W' := Up.of (hk.mono hs)
end
end Go.Proofs.Ytnhcjefbiihfjaa
