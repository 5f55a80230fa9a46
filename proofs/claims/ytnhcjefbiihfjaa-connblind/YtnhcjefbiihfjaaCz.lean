/-
  Contract of takePieces (package conn).
-/
import Derived.Test.YtnhcjefbiihfjaaCy
import Derived.Deep.CutBlock
namespace Go.Proofs.Ytnhcjefbiihfjaa
open Go.RowKit
open Tc (Sg gchk gv gc)
set_option linter.unusedVariables false
set_option linter.unusedSimpArgs false
section
variable {b k bx : Nat} {c : Cn} {P : Pt} {g : Sg} {w : World}
end
open Oq (Pc pcl pcs pvv PB)
/-- A connection's memory holds nothing of another type. -/
theorem CT.no_type {b : Nat} {c : Cn} {P : Pt} {W : World} (h : CT b c P W) {g : Nat} {cs : Array Value} {t : TypeId} {m : Nat × Nat} (hg : W.heap[g]? = some (.cells cs t m)) (h1 : t ≠ 80) (h2 : t ≠ 97) (h3 : t ≠ 123) (h4 : t ≠ 109) (h5 : t ≠ 93) (h6 : t ≠ 5) (h7 : t ≠ 22) : g ∉ fp b P := by
  intro hm
  simp only [fp, List.mem_cons, List.mem_append] at hm
  rcases hm with rfl | rfl | rfl | rfl | rfl | hm | hm
  · exact ne_type hg h.blk h1 rfl
  · exact ne_type hg h.out.blk h2 rfl
  · rcases hi : c.i with _ | t'
    · rw [h.pi0 hi] at hg; exact ne_type hg h.blk h1 rfl
    · obtain ⟨a, ha⟩ := (h.inn t' hi).blk'; exact ne_type hg ha h3 rfl
  · exact ne_type hg h.win h4 rfl
  · exact ne_type hg h.tim h5 rfl
  · obtain ⟨cur, hc⟩ := own_block h.out.own (show P.ov.ownBlock = some g by simpa [rw'] using hm)
    exact ne_type hg hc h6 rfl
  · obtain ⟨cur, hc⟩ := own_block h.rst (show P.rv.ownBlock = some g by simpa [rw'] using hm)
    exact ne_type hg hc h7 rfl
/-- While pieces go out: the connection, and the row of segments so far. -/
structure LQ (w : World) (b : Nat) (c : Cn) (P : Pt) (v : Value) (acc : List Sg) (W : World) : Prop where
  ct : CT b c P W
  up : Up b P P w W
  row : SRow W w.heap.size v acc
section
variable {w W W' : World} {b k bp : Nat} {c c' : Cn} {P : Pt} {v v' : Value} {acc : List Sg} {p : Pc}
theorem LQ.keep (h : LQ w b c P v acc W) (hb : Below W.heap.size W W') : LQ w b c P v acc W' := ⟨h.ct.keep hb, h.up.then hb, h.row.on hb⟩
theorem LQ.drew (h : LQ w b c P v acc W) : LQ w b c P v acc W.drew := h.keep (Below.refl _ _).drew
theorem LQ.to (h : LQ w b c P v acc W) (h' : CT b c' P W') (u : Up b P P W W') : LQ w b c' P v acc W' := ⟨h', h.up.trans u, h.row.up h.ct u⟩
/-- A piece that is told. -/
structure PY (w : World) (bp : Nat) (p : Pc) (W : World) : Prop where
  pb : PB bp p W
  lo : w.heap.size ≤ bp
theorem LQ.nf (h : LQ w b c P v acc W) (hp : PB bp p W) : bp ∉ fp b P := h.ct.no_type hp (by decide) (by decide) (by decide) (by decide) (by decide) (by decide) (by decide)
theorem LQ.cells (h : LQ w b c P v acc W) (hp : PY w bp p W) (vs : List Value) : LQ w b c P v acc (W.setCells bp 0 vs) := by
  have hk : Kp [bp] W (W.setCells bp 0 vs) := (Kp.refl _ _).setCells (Or.inl (by simp)) _ _
  have hn := h.nf hp.pb
  refine ⟨h.ct.kp hk (fun x hx => by simp; intro e; exact hn (e ▸ hx)), ⟨h.up.kp.setCells (Or.inr hp.lo) _ _, h.up.fr⟩, h.row.kp hk fun g hg => ?_⟩
  obtain ⟨cur, hh⟩ := h.row.blk hg
  simp
  exact ne_type hh hp.pb (by decide)
theorem PY.new (h : LQ w b c P v acc W) : PY w W.heap.size Oq.pc0 (W.alloc (.cells (pcs Oq.pc0) 99)) := ⟨PB.new W Oq.pc0, h.up.kp.size⟩
theorem PY.put (h : PY w bp p W) (q : Pc) : PY w bp q (W.setCells bp 0 (pcl q)) := ⟨h.pb.put q, h.lo⟩
theorem PY.keep (h : PY w bp p W) (hb : Below W.heap.size W W') : PY w bp p W' := ⟨h.pb.keep hb, h.lo⟩
theorem PY.up (h : PY w bp p W) (hl : LQ w b c P v acc W) (u : Up b P P W W') : PY w bp p W' := ⟨(u.kp.block bp h.pb.lt (hl.nf h.pb)).trans h.pb, h.lo⟩
theorem LQ.grow (h : LQ w b c P v acc W) {g : Sg} (hg : W.grownBy W' v.ownBlock) (own : W'.ownsRow w.heap.size 35 13 v' (acc.length + 1) (scells acc ++ gcl g)) : LQ w b c P v' (acc ++ [g]) W' := by
  have hk : Kp v.ownBlock.toList W W' := ⟨hg.os, hg.tape, hg.output, hg.size, fun k hk hn => hg.block k hk (fun e => hn (by rw [← e]; simp))⟩
  refine ⟨h.ct.kp hk fun x hx hm => ?_, ⟨h.up.kp.trans hk fun x hx => Or.inr (h.row.lt x (by simpa using hx)).1, h.up.fr⟩, row_add own⟩
  obtain ⟨cur, hh⟩ := h.row.blk (show v.ownBlock = some x by simpa using hm)
  exact h.ct.no_seg hh hx
theorem LQ.prb (h : LQ w b c P v acc W) : LQ w b { c with probe := false } P v acc (W.setCell ⟨b, 27, none⟩ (.bool false)) := h.to (h.ct.s27 false) ((Up.refl _ _ _).set _ _)
theorem LQ.akn (h : LQ w b c P v acc W) : LQ w b { c with ack := false } P v acc (W.setCell ⟨b, 28, none⟩ (.bool false)) := h.to (h.ct.s28 false) ((Up.refl _ _ _).set _ _)
/-- One more piece goes out of the queue. -/
theorem LQ.nx (h : LQ w b c P v acc W) {o' : Oq.St} (ho : Oq.OT P.po P.ov o' W') (hk : Kp [P.po] W W') (hs : o'.sh = c.o.sh) : CT b { c with o := o' } P W' ∧ Up b P P W W' :=
  ⟨h.ct.putO (v' := P.ov) ho (hk.mono (fun x hx => by simp at hx; simp [hx])) hs, Up.of (hk.mono (fun x hx => by simp at hx; simp [fp, hx]))⟩
theorem py_pos (A : ByteArray) (sh : Bool) (a lim mss : Int) (ha : 0 ≤ a) (hg : Oq.go? ((A.size : Int) + 1) sh a lim mss) : 1 ≤ Oq.plen (Oq.py A sh a lim mss) := by
  obtain ⟨e0, e1⟩ := Oq.en_le ((A.size : Int) + 1) sh
  have hg' := hg
  obtain ⟨g1, g2⟩ := hg
  unfold Oq.py Oq.pz
  rw [if_pos hg']
  split
  · decide
  · rename_i h0
    have hz : (A.extract (a - 1).toNat (Oq.bh ((A.size : Int) + 1) a lim mss - 1).toNat).size = (Oq.bh ((A.size : Int) + 1) a lim mss - a).toNat := by
      unfold Oq.bh; simp; omega
    unfold Oq.plen
    dsimp only
    rw [hz]
    by_cases hl : a < (A.size : Int) + 1
    · have e5 : min lim (Oq.en ((A.size : Int) + 1) sh) ≤ lim := Int.min_le_left _ _
      have : a + 1 ≤ Oq.bh ((A.size : Int) + 1) a lim mss := by unfold Oq.bh; omega
      split <;> split <;> omega
    · have hs : sh = true := Oq.en_shut (l := (A.size : Int) + 1) (by omega)
      have e : Oq.en ((A.size : Int) + 1) sh = (A.size : Int) + 2 := by unfold Oq.en; rw [if_pos hs]; omega
      have e2 : Oq.bh ((A.size : Int) + 1) a lim mss = (A.size : Int) + 1 := by unfold Oq.bh; omega
      have h6 : (A.size : Int) + 1 < lim := by have : min lim (Oq.en ((A.size : Int) + 1) sh) ≤ lim := Int.min_le_left _ _; omega
      have hc : (sh && decide (Oq.bh ((A.size : Int) + 1) a lim mss = (A.size : Int) + 1) && decide (Oq.bh ((A.size : Int) + 1) a lim mss < lim)) = true := by rw [e2, hs, decide_eq_true rfl, decide_eq_true h6]; rfl
      rw [if_pos hc]
      split <;> omega
theorem nx_no (ok : COk k c) {lim : Int} (h : Oq.nxG c.o lim c.mss = false) : ({ c with o := Oq.nx c.o lim c.mss } : Cn) = c := by
  have hg : ¬ Oq.go? ((c.o.A.size : Int) + 1) c.o.sh c.o.c lim c.mss := of_decide_eq_false h
  have e1 : Oq.nxP c.o lim c.mss = Oq.pc0 := by unfold Oq.nxP Oq.py Oq.pz; rw [if_neg hg]
  have e2 : Oq.nxC c.o lim c.mss = c.o.c := by unfold Oq.nxC; rw [e1]; show c.o.c + 0 = c.o.c; omega
  have h2 := ok.o.cs
  have e3 : Oq.nx c.o lim c.mss = c.o := by
    unfold Oq.nx
    rw [e2, show max c.o.s c.o.c = c.o.s by omega]
  rw [e3]
theorem piece_o (c : Cn) (lim : Int) : (c.piece lim).o = Oq.nx c.o lim c.mss ∧ (c.piece lim).mss = c.mss := by
  unfold Cn.piece Cn.measure
  dsimp only
  split
  · split <;> exact ⟨rfl, rfl⟩
  · exact ⟨rfl, rfl⟩
theorem left_piece (ok : COk k c) {lim : Int} (hm : c.more lim = true) : (c.piece lim).left + 1 ≤ c.left ∧ Oq.enI (c.piece lim).o = Oq.enI c.o ∧ c.o.c < (c.piece lim).o.c ∧ (c.piece lim).o.c ≤ Oq.enI c.o := by
  have hg : Oq.go? ((c.o.A.size : Int) + 1) c.o.sh c.o.c lim c.mss := of_decide_eq_true hm
  have h0 := ok.o.u0; have h1 := ok.o.uc; have h2 := ok.o.cs; have h3 := ok.o.se
  have hp := py_pos c.o.A c.o.sh c.o.c lim c.mss (by omega) hg
  have hq := (Oq.py_plen c.o.A c.o.sh c.o.c lim c.mss (by omega) (by unfold Oq.lst at h3; omega)).2.1
  have e : Oq.enI (c.piece lim).o = Oq.enI c.o := by rw [(piece_o c lim).1]; rfl
  have e2 : (c.piece lim).o.c = c.o.c + Oq.plen (Oq.py c.o.A c.o.sh c.o.c lim c.mss) := by rw [(piece_o c lim).1]; rfl
  have e3 : Oq.enI c.o = Oq.en ((c.o.A.size : Int) + 1) c.o.sh := rfl
  refine ⟨?_, e, by omega, by omega⟩
  unfold Cn.left
  rw [e]; omega
theorem left_le (ok : COk k c) : c.left ≤ 2051 := by
  have h1 := ok.o.uc; have h2 := ok.o.kk; have h0 := ok.o.u0
  rw [Oq.kept_size] at h2
  obtain ⟨e0, e1⟩ := Oq.en_le ((c.o.A.size : Int) + 1) c.o.sh
  have e3 : Oq.enI c.o = Oq.en ((c.o.A.size : Int) + 1) c.o.sh := rfl
  unfold Cn.left
  omega
theorem pieces_yes {lim : Int} {f : Nat} {l : List Sg} (h : c.more lim = true) : Cn.pieces lim (f + 1) c l = Cn.pieces lim f (c.piece lim) (l ++ [(c.piece lim).carry (Oq.nxP c.o lim c.mss)]) := by
  show (if c.more lim then _ else _) = _
  rw [if_pos h]
theorem pieces_no {lim : Int} {f : Nat} {l : List Sg} (h : c.more lim = false) : Cn.pieces lim (f + 1) c l = (l, c) := by
  show (if c.more lim then _ else _) = _
  rw [if_neg (by rw [h]; decide)]
theorem piece_is {lim : Int} (h : (Oq.nxP c.o lim c.mss).at' = c.o.s) : c.piece lim = ({ c with o := Oq.nx c.o lim c.mss } : Cn).measure := by unfold Cn.piece; dsimp only; rw [if_pos h]
theorem piece_not {lim : Int} (h : ¬ (Oq.nxP c.o lim c.mss).at' = c.o.s) : c.piece lim = { c with o := Oq.nx c.o lim c.mss } := by unfold Cn.piece; dsimp only; rw [if_neg h]
theorem firsts_le (c : Cn) : c.firsts.length ≤ 1 := by unfold Cn.firsts; split <;> simp
theorem outP_ack (h : c.outs.1 = [] ∧ c.outs.2.ack = true) : c.outP = ([({ c.outs.2 with probe := false } : Cn).carry ⟨c.outs.2.o.s, false, false, ⟨#[]⟩⟩], { c.outs.2 with probe := false, ack := false }) := by
  unfold Cn.outP; dsimp only; rw [if_pos h]
theorem outP_no (h : ¬ (c.outs.1 = [] ∧ c.outs.2.ack = true)) : c.outP = (c.outs.1, { c.outs.2 with probe := false, ack := false }) := by
  unfold Cn.outP; dsimp only; rw [if_neg h]
set_option maxRecDepth 100000 in
set_option maxHeartbeats 4000000 in
theorem takePieces_any (h : CT b c P w) (ok : COk k c) (hk : Few k) :
    Calls Try.prog 28 #[ptr b] w fun e w' => ∃ v, e = .returned v ∧ LQ w b c.outP.2 P v c.outP.1 w' := by
  obtain ⟨i0, hi0, hz0, hz1, hz2⟩ := info_parts info_seg
  have HF : Hid (Calls Try.prog 48 #[ptr b] w fun e w' => ∃ v, e = .returned v ∧ LQ w b { c with again := false } P v c.firsts w') := (takeFirst_any h ok hk).mono fun e w' ⟨v, h1, h2, h3, h4⟩ => ⟨v, h1, h3, h4, h2⟩
  have ok0 : COk k { c with again := false } := { ok with }
  have HM : Hid (∀ (v : Value) acc W, LQ w b { c with again := false } P v acc W → Calls Try.prog 49 #[ptr b] W fun e w' => e = .returned (.int .i64 c.limit) ∧ LQ w b { c with again := false } P v acc w') := fun v acc W h' => (limit_any h'.ct ok0 hk).mono fun e w' ⟨h1, m, h2⟩ => ⟨h1, h2 ▸ h'.keep (below_drewN W m)⟩
  have HST : Hid (Cn.pieces c.limit c.left { c with again := false } c.firsts = c.outs) := rfl
  have hl0 : c.firsts.length + c.left ≤ 3000 := by have := left_le ok; have := firsts_le c; omega
  have HO0 := Lib.hid ok0
  have hp1 : ∀ c1 : Cn, COk k c1 → 1 ≤ c1.left := fun c1 _ => by unfold Cn.left; omega
  have HUp := Lib.hid Try.underlying99
  have HR := Lib.hid (@outP_ack c)
  have HRn := Lib.hid (@outP_no c)
  clear h ok ok0
  generalize c.limit = lim at *
  generalize c.outs = R at *
  have HLE : Hid (({ c with again := false } : Cn).left = c.left) := rfl
  have HEN : Hid (Oq.enI ({ c with again := false } : Cn).o = Oq.enI c.o) := rfl
  generalize ({ c with again := false } : Cn) = c0 at *
  generalize c.firsts = l0 at *
  generalize c.left = f0 at *
  generalize hN : (Oq.enI c.o).toNat = N at *
  have HN0 : Hid ((Oq.enI c0.o).toNat = N) := by show _ = _; rw [HEN.out, hN]
  clear hN HEN
  go_enter Try.func28, Try.ntmps28
  go_wp2_with fail
  refine HF.out.mono ?_; rintro e w1 ⟨v0, rfl, l1⟩
  go_wp2_with fail
  refine (HM.out _ _ _ l1).mono ?_; rintro e w2 ⟨rfl, l2⟩
  clear HF HM l1
  go_wp2_with fail
  go_loopw [3] (fun v W => ∃ (f : Nat) (c1 : Cn) (acc : List Sg), Hid (Cn.pieces lim f c1 acc = R) ∧ c1.left ≤ f ∧ acc.length + f ≤ 3000 ∧ Hid (COk k c1) ∧ Hid ((Oq.enI c1.o).toNat = N) ∧ LQ w b c1 P v acc W) (fun _ W => N - (match W.cell? ⟨P.po, 4, none⟩ with | some x => (intOf x).toNat | none => 0))
  case atStart => exact ⟨f0, c0, l0, HST, by rw [HLE.out]; omega, hl0, HO0, HN0, l2⟩
  case round =>
    obtain ⟨f, c1, acc, HP, hf, hacc, OK1, HN1, hl1⟩ := hrel
    have HL1 := Lib.hid hl1
    obtain ⟨f, rfl⟩ : ∃ f', f = f' + 1 := ⟨f - 1, by have := hp1 c1 OK1.out; omega⟩
    have HS1 : Hid (∀ {v acc W}, LQ w b c1 P v acc W → W.cell? ⟨b, 10, none⟩ = some (ptr P.po) ∧ W.cell? ⟨b, 9, none⟩ = some (.int .i64 c1.mss)) := fun h' => ⟨h'.ct.c10, h'.ct.c9⟩
    have HS2 : Hid (∀ {v acc W}, LQ w b { c1 with o := Oq.nx c1.o lim c1.mss } P v acc W → W.cell? ⟨b, 10, none⟩ = some (ptr P.po) ∧ W.cell? ⟨b, 9, none⟩ = some (.int .i64 c1.mss)) := fun h' => ⟨h'.ct.c10, h'.ct.c9⟩
    have HSt : Hid (∀ W, LQ w b c1 P u3 acc W → Calls Try.prog 34 #[ptr P.po] W fun e w' => e = .returned (.int .i64 c1.o.s) ∧ w' = W) := fun W h' => Oq.q_sent h'.ct.out
    have HN : Hid (∀ {W}, LQ w b c1 P u3 acc W → Calls Try.prog 50 #[ptr P.po, .int .i64 lim, .int .i64 c1.mss] W fun e w' => e = .returned (.tuple #[pvv (Oq.nxP c1.o lim c1.mss), .bool (Oq.nxG c1.o lim c1.mss)]) ∧ LQ w b { c1 with o := Oq.nx c1.o lim c1.mss } P u3 acc w' ∧ ∀ bp p, PY w bp p W → PY w bp p w') := fun {W} h' =>
      (Oq.q_next lim c1.mss h'.ct.out OK1.out.o (by have := OK1.out.oA' hk; omega) (by have := OK1.out.ms; omega)).mono fun e w' ⟨h1, h2, h3⟩ => by
        obtain ⟨n1, n2⟩ := h'.nx h2 h3 rfl
        exact ⟨h1, h'.to n1 n2, fun bp p hp => hp.up h' n2⟩
    have HLF := Lib.hid (@left_piece k c1 OK1.out lim)
    have HYE := Lib.hid (@pieces_yes c1 lim f acc)
    have HNO := Lib.hid (@pieces_no c1 lim f acc)
    have HPI := Lib.hid (@piece_is c1 lim)
    have HPN := Lib.hid (@piece_not c1 lim)
    have HC1 := hl1.ct.out.c4
    have x10 := hl1.ct.c10
    have OKp := Lib.hid (OK1.out.piece hk lim)
    have HNX := Lib.hid (@nx_no k c1 OK1.out lim)
    have hmo : c1.more lim = Oq.nxG c1.o lim c1.mss := rfl
    rw [hmo] at HLF HYE HNO
    clear hl1 hp1
    generalize Oq.nxG c1.o lim c1.mss = g1 at *
    generalize Oq.nxP c1.o lim c1.mss = p1 at *
    go_wp2_with fail
    refine (HSt.out _ HL1.out).mono ?_; rintro e w3 ⟨rfl, rfl⟩
    go_wp2_with fail
    go_cut [6, 7] from 17 to 31 (fun bp r W => ∃ q : Nat, bp = ptr q ∧ r = .bool g1 ∧ LQ w b { c1 with o := Oq.nx c1.o lim c1.mss } P u3 acc W ∧ PY w q p1 W)
    case first =>
      refine wp_region_held_drew (S := (fun W' => W'.cell? ⟨b, 10, none⟩ = some (ptr P.po) ∧ W'.cell? ⟨b, 9, none⟩ = some (.int .i64 c1.mss))) (by kernel_rfl) (HS1.out HL1.out.drew) (fun hHeld => ?_)
      refine takeH (i := 0) (d := some 18) (v := ?_) rfl rfl (by kernel_rfl) (by kernel_rfl) (by kernel_rfl) (fun _ _ _ h => h) (Or.inl ⟨by rfl, ?_⟩) hHeld ?_
      rotate_left
      · intro w' hSw; (try dsimp only at hSw); go_simp; try with_reducible rfl
      simp only [Act.put, List.setIfInBounds_toArray, List.set_cons_zero, List.set_cons_succ]
      refine takeH (i := 1) (d := some 19) (v := ?_) rfl rfl (by kernel_rfl) (by kernel_rfl) (by kernel_rfl) (fun _ _ _ h => h) (Or.inl ⟨by rfl, ?_⟩) hHeld ?_
      rotate_left
      · intro w' hSw; (try dsimp only at hSw); go_simp; try with_reducible rfl
      simp only [Act.put, List.setIfInBounds_toArray, List.set_cons_zero, List.set_cons_succ]
      refine takeH (i := 2) (d := some 20) (v := ?_) rfl rfl (by kernel_rfl) (by kernel_rfl) (by kernel_rfl) (fun _ _ _ h => h) (Or.inl ⟨by rfl, ?_⟩) hHeld ?_
      rotate_left
      · intro w' hSw; (try dsimp only at hSw); go_simp; try with_reducible rfl
      simp only [Act.put, List.setIfInBounds_toArray, List.set_cons_zero, List.set_cons_succ]
      refine takeH (i := 3) (d := some 21) (v := ?_) rfl rfl (by kernel_rfl) (by kernel_rfl) (by kernel_rfl) (fun _ _ _ h => h) (Or.inl ⟨by rfl, ?_⟩) hHeld ?_
      rotate_left
      · intro w' hSw; (try dsimp only at hSw); obtain ⟨q1, q2⟩ := hSw; go_simp; try with_reducible rfl
      simp only [Act.put, List.setIfInBounds_toArray, List.set_cons_zero, List.set_cons_succ]
      refine takeH (i := 4) (d := some 22) (v := ?_) rfl rfl (by kernel_rfl) (by kernel_rfl) (by kernel_rfl) (fun _ _ _ h => h) (Or.inl ⟨by rfl, ?_⟩) hHeld ?_
      rotate_left
      · intro w' hSw; (try dsimp only at hSw); go_simp; try with_reducible rfl
      simp only [Act.put, List.setIfInBounds_toArray, List.set_cons_zero, List.set_cons_succ]
      refine takeH (i := 5) (d := some 23) (v := ?_) rfl rfl (by kernel_rfl) (by kernel_rfl) (by kernel_rfl) (fun _ _ _ h => h) (Or.inl ⟨by rfl, ?_⟩) hHeld ?_
      rotate_left
      · intro w' hSw; (try dsimp only at hSw); go_simp; try with_reducible rfl
      simp only [Act.put, List.setIfInBounds_toArray, List.set_cons_zero, List.set_cons_succ]
      refine takeH (i := 6) (d := some 24) (v := ?_) rfl rfl (by kernel_rfl) (by kernel_rfl) (by kernel_rfl) (fun _ _ _ h => h) (Or.inl ⟨by rfl, ?_⟩) hHeld ?_
      rotate_left
      · intro w' hSw; (try dsimp only at hSw); go_simp; try with_reducible rfl
      simp only [Act.put, List.setIfInBounds_toArray, List.set_cons_zero, List.set_cons_succ]
      refine takeH (i := 7) (d := some 25) (v := ?_) rfl rfl (by kernel_rfl) (by kernel_rfl) (by kernel_rfl) (fun _ _ _ h => h) (Or.inl ⟨by rfl, ?_⟩) hHeld ?_
      rotate_left
      · intro w' hSw; (try dsimp only at hSw); go_simp; try with_reducible rfl
      simp only [Act.put, List.setIfInBounds_toArray, List.set_cons_zero, List.set_cons_succ]
      refine takeH (i := 8) (d := some 26) (v := ?_) rfl rfl (by kernel_rfl) (by kernel_rfl) (by kernel_rfl) (fun _ _ _ h => h) (Or.inl ⟨by rfl, ?_⟩) hHeld ?_
      rotate_left
      · intro w' hSw; (try dsimp only at hSw); obtain ⟨q1, q2⟩ := hSw; go_simp; try with_reducible rfl
      simp only [Act.put, List.setIfInBounds_toArray, List.set_cons_zero, List.set_cons_succ]
      refine wpAnyH_ready (rs := [9, 13]) (by kernel_rfl) (by simp) ?_
      refine AllReadyH.cons rfl (fun K hK => ?_) (AllReadyH.cons rfl (fun K hK => ?_) (AllReadyH.nil))
      · go_simp
        refine (HN.out HL1.out.drew).mono ?_; rintro e w2 ⟨rfl, l2, hp2⟩
        have L2 := Lib.hid l2
        clear l2 hp2
        clear hHeld
        refine hK.out _ _ (HS2.out L2.out) (fun hHeld => ?_)
        clear hK K
        try simp only [Act.put, List.setIfInBounds_toArray, List.set_cons_zero, List.set_cons_succ]
        refine takeH (i := 10) (d := some 17) (v := ?_) rfl rfl (by kernel_rfl) (by kernel_rfl) (by kernel_rfl) (fun _ _ _ h => h) (Or.inl ⟨by rfl, ?_⟩) hHeld ?_
        rotate_left
        · intro w' hSw; (try dsimp only at hSw); go_simp; try with_reducible rfl
        simp only [Act.put, List.setIfInBounds_toArray, List.set_cons_zero, List.set_cons_succ]
        refine takeH (i := 11) (d := some 28) (v := ?_) rfl rfl (by kernel_rfl) (by kernel_rfl) (by kernel_rfl) (fun _ _ _ h => h) (Or.inl ⟨by rfl, ?_⟩) hHeld ?_
        rotate_left
        · intro w' hSw; (try dsimp only at hSw); go_simp; try with_reducible rfl
        simp only [Act.put, List.setIfInBounds_toArray, List.set_cons_zero, List.set_cons_succ]
        refine takeH (i := 12) (d := some 29) (v := ?_) rfl rfl (by kernel_rfl) (by kernel_rfl) (by kernel_rfl) (fun _ _ _ h => h) (Or.inl ⟨by rfl, ?_⟩) hHeld ?_
        rotate_left
        · intro w' hSw; (try dsimp only at hSw); go_simp; try with_reducible rfl
        simp only [Act.put, List.setIfInBounds_toArray, List.set_cons_zero, List.set_cons_succ]
        refine wpAnyH_ready (rs := [13]) (by kernel_rfl) (by simp) ?_
        refine AllReadyH.cons rfl (fun K hK => ?_) (AllReadyH.nil)
        go_simp
        have L1 := Lib.hid (LQ.keep L2.out ((Below.refl _ _).alloc (Nat.le_refl _) (.cells (pcs Oq.pc0) 99)))
        have Y1 := Lib.hid (PY.new L2.out)
        clear hHeld
        refine hK.out _ _ (HS2.out L1.out) (fun hHeld => ?_)
        clear hK K
        try simp only [Act.put, List.setIfInBounds_toArray, List.set_cons_zero, List.set_cons_succ]
        refine wpAnyH_ready (rs := [14]) (by kernel_rfl) (by simp) ?_
        refine AllReadyH.cons rfl (fun K hK => ?_) (AllReadyH.nil)
        rw [if_pos (by rfl)]
        refine wp_store_mid _ _ _ rfl _ _ (pcs p1) rfl rfl (PB.there Y1.out.pb) Oq.info46 (Oq.pcs_one _) ?_
        have L3 := Lib.hid (LQ.cells L1.out Y1.out (pcl p1))
        have Y3 := Lib.hid (PY.put Y1.out p1)
        clear hHeld
        refine hK.out _ _ (HS2.out L3.out) (fun hHeld => ?_)
        clear hK K
        try simp only [Act.put, List.setIfInBounds_toArray, List.set_cons_zero, List.set_cons_succ]
        refine takeH (i := 15) (d := some 7) (v := ?_) rfl rfl (by kernel_rfl) (by kernel_rfl) (by kernel_rfl) (fun _ _ _ h => h) (Or.inl ⟨by rfl, ?_⟩) hHeld ?_
        rotate_left
        · intro w' hSw; (try dsimp only at hSw); go_simp; try with_reducible rfl
        simp only [Act.put, List.setIfInBounds_toArray, List.set_cons_zero, List.set_cons_succ]
        refine wpAnyH_done (by kernel_rfl) ?_ _
        go_wp2_with fail
        go_meet
        exact ⟨_, rfl, rfl, L3.out, Y3.out⟩
      · go_simp
        have L1 := Lib.hid (LQ.keep HL1.out.drew ((Below.refl _ _).alloc (Nat.le_refl _) (.cells (pcs Oq.pc0) 99)))
        have Y1 := Lib.hid (PY.new HL1.out.drew)
        clear hHeld
        refine hK.out _ _ (HS1.out L1.out) (fun hHeld => ?_)
        clear hK K
        try simp only [Act.put, List.setIfInBounds_toArray, List.set_cons_zero, List.set_cons_succ]
        refine wpAnyH_ready (rs := [9]) (by kernel_rfl) (by simp) ?_
        refine AllReadyH.cons rfl (fun K hK => ?_) (AllReadyH.nil)
        go_simp
        refine (HN.out L1.out).mono ?_; rintro e w2 ⟨rfl, l2, hp2⟩
        have L2 := Lib.hid l2
        have Y2 := Lib.hid (hp2 _ _ Y1.out)
        clear l2 hp2
        clear hHeld
        refine hK.out _ _ (HS2.out L2.out) (fun hHeld => ?_)
        clear hK K
        try simp only [Act.put, List.setIfInBounds_toArray, List.set_cons_zero, List.set_cons_succ]
        refine takeH (i := 10) (d := some 17) (v := ?_) rfl rfl (by kernel_rfl) (by kernel_rfl) (by kernel_rfl) (fun _ _ _ h => h) (Or.inl ⟨by rfl, ?_⟩) hHeld ?_
        rotate_left
        · intro w' hSw; (try dsimp only at hSw); go_simp; try with_reducible rfl
        simp only [Act.put, List.setIfInBounds_toArray, List.set_cons_zero, List.set_cons_succ]
        refine takeH (i := 11) (d := some 28) (v := ?_) rfl rfl (by kernel_rfl) (by kernel_rfl) (by kernel_rfl) (fun _ _ _ h => h) (Or.inl ⟨by rfl, ?_⟩) hHeld ?_
        rotate_left
        · intro w' hSw; (try dsimp only at hSw); go_simp; try with_reducible rfl
        simp only [Act.put, List.setIfInBounds_toArray, List.set_cons_zero, List.set_cons_succ]
        refine takeH (i := 12) (d := some 29) (v := ?_) rfl rfl (by kernel_rfl) (by kernel_rfl) (by kernel_rfl) (fun _ _ _ h => h) (Or.inl ⟨by rfl, ?_⟩) hHeld ?_
        rotate_left
        · intro w' hSw; (try dsimp only at hSw); go_simp; try with_reducible rfl
        simp only [Act.put, List.setIfInBounds_toArray, List.set_cons_zero, List.set_cons_succ]
        refine wpAnyH_ready (rs := [14]) (by kernel_rfl) (by simp) ?_
        refine AllReadyH.cons rfl (fun K hK => ?_) (AllReadyH.nil)
        rw [if_pos (by rfl)]
        refine wp_store_mid _ _ _ rfl _ _ (pcs p1) rfl rfl (PB.there Y2.out.pb) Oq.info46 (Oq.pcs_one _) ?_
        have L3 := Lib.hid (LQ.cells L2.out Y2.out (pcl p1))
        have Y3 := Lib.hid (PY.put Y2.out p1)
        clear hHeld
        refine hK.out _ _ (HS2.out L3.out) (fun hHeld => ?_)
        clear hK K
        try simp only [Act.put, List.setIfInBounds_toArray, List.set_cons_zero, List.set_cons_succ]
        refine takeH (i := 15) (d := some 7) (v := ?_) rfl rfl (by kernel_rfl) (by kernel_rfl) (by kernel_rfl) (fun _ _ _ h => h) (Or.inl ⟨by rfl, ?_⟩) hHeld ?_
        rotate_left
        · intro w' hSw; (try dsimp only at hSw); go_simp; try with_reducible rfl
        simp only [Act.put, List.setIfInBounds_toArray, List.set_cons_zero, List.set_cons_succ]
        refine wpAnyH_done (by kernel_rfl) ?_ _
        go_wp2_with fail
        go_meet
        exact ⟨_, rfl, rfl, L3.out, Y3.out⟩
    obtain ⟨q, rfl, rfl, l3, y3⟩ := hcut
    have L3 := Lib.hid l3
    have Y3 := Lib.hid y3
    clear l3 y3 HS1 HS2 HN HSt HL1
    cases g1 with
    | false =>
      have hR := HP.out
      rw [HNO.out rfl] at hR
      have HR1 := Lib.hid (show R.1 = acc by rw [← hR])
      have HR2 := Lib.hid (show R.2 = c1 by rw [← hR])
      have hk1 := OK1.out
      have L4 := L3.out
      rw [HNX.out rfl] at L4
      have hN1 := HRn.out
      have hY1 := HR.out
      rw [HR1.out, HR2.out] at hN1 hY1
      clear hR HP HLF HYE HNO HPI HPN OKp L3 HR HRn HR1 HR2
      obtain ⟨o, gg, cap, hv, _⟩ := L4.row.form
      subst hv
      have c27 := L4.ct.c27
      have c28 := L4.ct.c28
      have y27 := L4.ct.free 27
      have y28 := L4.ct.free 28
      have L5 := Lib.hid L4.prb
      have L6 := Lib.hid L4.prb.akn
      have HSt : Hid (∀ {W v acc}, LQ w b { c1 with probe := false } P v acc W → W.cell? ⟨b, 10, none⟩ = some (ptr P.po) ∧ Calls Try.prog 34 #[ptr P.po] W fun e w' => e = .returned (.int .i64 c1.o.s) ∧ w' = W) := fun h' => ⟨h'.ct.c10, Oq.q_sent h'.ct.out⟩
      have HCa : Hid (∀ {W v acc}, LQ w b { c1 with probe := false } P v acc W → Calls Try.prog 52 #[ptr b, pvv ⟨c1.o.s, false, false, ⟨#[]⟩⟩] W fun e w' => e = .returned (gv (({ c1 with probe := false } : Cn).carry ⟨c1.o.s, false, false, ⟨#[]⟩⟩)) ∧ Below W.heap.size W w') := fun h' => carry_any h'.ct (show COk k { c1 with probe := false } from { hk1 with }) hk _
      clear L4 hk1 HNX HN1
      by_cases ha : acc = []
      · subst ha
        cases hc : c1.ack with
        | true =>
          rw [hc] at c28
          have HY := Lib.hid (hY1 ⟨rfl, hc⟩)
          obtain ⟨x10, hs⟩ := HSt.out L5.out
          have HS := Lib.hid hs
          clear hN1 hY1 hc L6 hs
          go_wp2_with fail
          refine HS.out.mono ?_; rintro e w4 ⟨rfl, rfl⟩
          go_wp2_with fail
          refine (HCa.out L5.out).mono ?_; rintro e w5 ⟨rfl, hb5⟩
          generalize ({ c1 with probe := false } : Cn).carry ⟨c1.o.s, false, false, ⟨#[]⟩⟩ = gq at *
          have L7 := Lib.hid (L5.out.keep hb5)
          have L8 := Lib.hid (L7.out.keep ((Below.refl _ _).alloc (Nat.le_refl _) (.cells (gc gq) 35)))
          have hs5 := L8.out.up.kp.size
          go_wp2_with (at_builtin; refine wpList_src _ rfl _ _ 48 rfl w.heap.size 35 i0 _ 13 80 Try.underlying48 hi0 hz0 hz1 hz2 rfl (by decide) _ (some ⟨w5.heap.size, 0, none⟩) 0 1 1 [] (gcl gq) rfl rfl L8.out.row (src_one (heap_alloc_new _ _)) (fun e => absurd e (by simp)) (by unfold maxLen; omega) (by omega) hs5 ?_; intro v7 w7 own7 hgrow hob; have L9 := L8.out.grow (acc := []) hgrow own7; have c28' := L9.ct.c28; have y28' := L9.ct.free 28; have L10 := Lib.hid L9.akn; clear L9 c28 y28 c27 y27)
          go_ret
          exact ⟨_, rfl, by rw [HY.out]; exact L10.out⟩
        | false =>
          rw [hc] at c28
          have HY := Lib.hid (hN1 (fun e => by rw [hc] at e; cases e.2))
          clear hN1 hY1 hc
          go_wp2_with fail
          go_ret
          exact ⟨_, rfl, by rw [HY.out]; exact L6.out⟩
      · have HY := Lib.hid (hN1 (fun e => ha e.1))
        have h0 : ((acc.length : Int) == 0) = false := by
          have : acc.length ≠ 0 := fun e => ha (List.length_eq_zero_iff.1 e)
          simp; exact ha
        have h0' : ¬ acc.length = 0 := fun e => ha (List.length_eq_zero_iff.1 e)
        clear hN1 hY1
        go_wp2_with fail
        go_ret
        exact ⟨_, rfl, by rw [HY.out]; exact L6.out⟩
    | true =>
      obtain ⟨le1, le2, le3, le4⟩ := HLF.out rfl
      have HP2 : Hid (Cn.pieces lim f (c1.piece lim) (acc ++ [(c1.piece lim).carry p1]) = R) := by show _ = _; rw [← HYE.out rfl]; exact HP.out
      have HC2 : Hid (∀ {W v acc}, LQ w b (c1.piece lim) P v acc W → Calls Try.prog 52 #[ptr b, pvv p1] W fun e w' => e = .returned (gv ((c1.piece lim).carry p1)) ∧ Below W.heap.size W w') := fun h' => carry_any h'.ct OKp.out hk _
      have HN3 : Hid ((Oq.enI (c1.piece lim).o).toNat = N) := by show _ = _; rw [le2]; exact HN1.out
      have HPI' : Hid (p1.at' = c1.o.s → ∀ W, LQ w b { c1 with o := Oq.nx c1.o lim c1.mss } P u3 acc W → PY w q p1 W → Calls Try.prog 51 #[ptr b] W fun e w' => e = .returned (.tuple #[]) ∧ LQ w b (c1.piece lim) P u3 acc w' ∧ PY w q p1 w')   := fun he W h' y' => (measure_any h'.ct).mono fun e w' ⟨h1, h2, h3⟩ => by
        rw [HPI.out he]
        exact ⟨h1, h'.to h2 h3, y'.up h' h3⟩
      have HPN' : Hid (¬ p1.at' = c1.o.s → LQ w b { c1 with o := Oq.nx c1.o lim c1.mss } P u3 acc wc → LQ w b (c1.piece lim) P u3 acc wc) := fun he h' => by rw [HPN.out he]; exact h'
      have hlen : Hid ((acc ++ [(c1.piece lim).carry p1]).length = acc.length + 1) := by show _ = _; simp
      have HC3 : Hid (∀ {W v acc}, LQ w b (c1.piece lim) P v acc W → W.cell? ⟨P.po, 4, none⟩ = some (.int .i64 (c1.piece lim).o.c)) := fun h' => h'.ct.out.c4
      have b0 := OK1.out.o.u0
      have b1 := OK1.out.o.uc
      have y0 := Y3.out.pb.c0
      clear HLF HYE HNO HPI HPN HP le2 HR HRn
      generalize (c1.piece lim).carry p1 = gq at *
      generalize c1.piece lim = c2 at *
      by_cases he : p1.at' = c1.o.s
      · have de : (p1.at' == c1.o.s) = true := by simpa using he
        have HPI2 := Lib.hid (HPI'.out he)
        clear he HPI' HPN'
        go_wp2_with fail
        refine (HPI2.out _ L3.out Y3.out).mono ?_; rintro e w4 ⟨rfl, l4, y4⟩
        have L4 := Lib.hid l4
        have Y4 := Lib.hid y4
        clear l4 y4
        go_wp2_with (refine wpList_load_mid rfl _ _ rfl _ _ rfl (pcl p1) _ Y4.out.pb.range HUp.out rfl Oq.info46 ?_)
        refine (HC2.out L4.out).mono ?_; rintro e w5 ⟨rfl, hb5⟩
        have L5 := Lib.hid (L4.out.keep hb5)
        have L6 := Lib.hid (L5.out.keep ((Below.refl _ _).alloc (Nat.le_refl _) (.cells (gc gq) 35)))
        have hs5 := L6.out.up.kp.size
        go_wp2_with (at_builtin; refine wpList_src _ rfl _ _ 48 rfl w.heap.size 35 i0 _ 13 80 Try.underlying48 hi0 hz0 hz1 hz2 rfl (by decide) u3 (some ⟨w5.heap.size, 0, none⟩) acc.length 1 1 (scells acc) (gcl gq) rfl rfl L6.out.row (src_one (heap_alloc_new _ _)) (fun e => absurd e (by simp)) (by unfold maxLen; omega) (by omega) hs5 ?_; intro v7 w7 own7 hgrow hob)
        have L7 := L6.out.grow hgrow own7
        have c7 := HC3.out L7
        have L7 := Lib.hid L7
        go_roundw
        case rel => exact ⟨f, c2, acc ++ [gq], HP2, by omega, by rw [hlen.out]; omega, OKp, HN3, L7.out⟩
        case measure =>
          have := HN1.out
          have e3 : c1.o.c.toNat < c2.o.c.toNat := (Int.toNat_lt_toNat (by omega)).2 le3
          have e4 : c1.o.c.toNat < N := by rw [← this]; exact (Int.toNat_lt_toNat (by omega)).2 (by omega)
          simp [HC1, c7, intOf]; exact Nat.sub_lt_sub_left e4 e3
      · have de : (p1.at' == c1.o.s) = false := by simpa using he
        have L4 := Lib.hid (HPN'.out he L3.out)
        have Y4 := Y3
        clear he HPI' HPN'
        go_wp2_with (refine wpList_load_mid rfl _ _ rfl _ _ rfl (pcl p1) _ Y4.out.pb.range HUp.out rfl Oq.info46 ?_)
        refine (HC2.out L4.out).mono ?_; rintro e w5 ⟨rfl, hb5⟩
        have L5 := Lib.hid (L4.out.keep hb5)
        have L6 := Lib.hid (L5.out.keep ((Below.refl _ _).alloc (Nat.le_refl _) (.cells (gc gq) 35)))
        have hs5 := L6.out.up.kp.size
        go_wp2_with (at_builtin; refine wpList_src _ rfl _ _ 48 rfl w.heap.size 35 i0 _ 13 80 Try.underlying48 hi0 hz0 hz1 hz2 rfl (by decide) u3 (some ⟨w5.heap.size, 0, none⟩) acc.length 1 1 (scells acc) (gcl gq) rfl rfl L6.out.row (src_one (heap_alloc_new _ _)) (fun e => absurd e (by simp)) (by unfold maxLen; omega) (by omega) hs5 ?_; intro v7 w7 own7 hgrow hob)
        have L7 := L6.out.grow hgrow own7
        have c7 := HC3.out L7
        have L7 := Lib.hid L7
        go_roundw
        case rel => exact ⟨f, c2, acc ++ [gq], HP2, by omega, by rw [hlen.out]; omega, OKp, HN3, L7.out⟩
        case measure =>
          have := HN1.out
          have e3 : c1.o.c.toNat < c2.o.c.toNat := (Int.toNat_lt_toNat (by omega)).2 le3
          have e4 : c1.o.c.toNat < N := by rw [← this]; exact (Int.toNat_lt_toNat (by omega)).2 (by omega)
          simp [HC1, c7, intOf]; exact Nat.sub_lt_sub_left e4 e3
end
end Go.Proofs.Ytnhcjefbiihfjaa
