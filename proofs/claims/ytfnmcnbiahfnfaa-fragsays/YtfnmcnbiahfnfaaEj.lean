/-
  The document's In: what is put together of fragments.
-/
import Derived.Test.YtfnmcnbiahfnfaaEi
namespace Go.Proofs.Ytfnmcnbiahfnfaa
open Go.RowKit
set_option linter.unusedVariables false
set_option linter.unusedSimpArgs false

/-- Where it ends, by the fragments so far. -/
def endB (g : Gm) (l : List Pk) : Int := if l.any (fun q => !q.more) then (g.reach : Int) else -1
theorem gstr_ext {g : Gm} {q : Pk} {m : Nat} (h1 : osn q ≤ m) (h2 : m < osn q + q.body.size) (hb : ∀ i, i < q.body.size → g.bytes (osn q + i) = q.body.data.toList.getD i 0) :
    gstr g m ++ q.body.extract (m - osn q) q.body.size = gstr g (osn q + q.body.size) := by
  have hs : q.body.data.toList.length = q.body.size := (Lib.size_eq q.body).symm
  obtain ⟨r, hr⟩ : ∃ r, osn q + q.body.size = m + r := ⟨osn q + q.body.size - m, by omega⟩
  rw [hr]
  apply ByteArray.ext
  rw [ByteArray.data_append, ByteArray.data_extract]
  apply Array.ext'
  rw [Array.toList_append, Array.toList_extract, List.extract_eq_take_drop]
  unfold gstr
  rw [List.range_add, List.map_append]
  congr 1
  rw [List.map_map]
  refine List.ext_getElem (by simp; omega) fun i h3 h4 => ?_
  simp only [List.getElem_take, List.getElem_drop, List.getElem_map, List.getElem_range, Function.comp]
  have hi : i < r := by simpa using h4
  have := hb (m - osn q + i) (by omega)
  rw [show osn q + (m - osn q + i) = m + i from by omega] at this
  rw [this, List.getD_eq_getElem?_getD, List.getElem?_eq_getElem (by omega), Option.getD_some]
section
variable {n : Nm} {g : Gm} {l : List Pk} {q : Pk} {m j : Nat}
theorem SE.endS (h : SE n g l) (hq : l[j]? = some q) : endB g (l.take (j + 1)) = if q.more then endB g (l.take j) else (g.reach : Int) := by
  unfold endB
  rw [List.take_add_one, hq, List.any_append]
  cases hm : q.more <;> simp [hm]
theorem SE.endE (h : SE n g l) : endB g l = if g.closed then (g.reach : Int) else -1 := by
  unfold endB
  have : l.any (fun q => !q.more) = g.closed := by
    rw [Bool.eq_iff_iff, h.closed, List.any_eq_true]
    constructor
    · rintro ⟨q, hq, h1⟩; exact ⟨q, hq, by simpa using h1⟩
    · rintro ⟨q, hq, h1⟩; exact ⟨q, hq, by simpa using h1⟩
  rw [this]
theorem SE.mle (h : SE n g l) (hm : ∀ j, j < m → g.there j = true) : m ≤ g.reach := by
  rcases Nat.eq_zero_or_pos m with h0 | h0
  · omega
  · have := h.inv.up (m - 1) (hm _ (by omega)); omega
theorem SE.ext (h : SE n g l) (hq : q ∈ l) (h1 : osn q ≤ m) (hm : ∀ j, j < m → g.there j = true) : ∀ j, j < osn q + q.body.size → g.there j = true := fun j hj => by
  rcases Nat.lt_or_ge j m with h2 | h2
  · exact hm j h2
  · have := (h.here q hq (j - osn q) (by omega)).1
    rwa [show osn q + (j - osn q) = j from by omega] at this
theorem SE.wholeT (h : SE n g l) (hc : g.closed = true) (hm : ∀ j, j < m → g.there j = true) (he : g.reach ≤ m) : gwhole g = true :=
  (whole_iff h.inv).2 ⟨hc, fun i hi => hm i (by omega)⟩
theorem SE.wholeF (h : SE n g l) (hm : m < g.reach) (hn : ∀ q ∈ l, ¬ (osn q ≤ m ∧ m < osn q + q.body.size)) : gwhole g = false := by
  cases hw : gwhole g with
  | false => rfl
  | true =>
    obtain ⟨_, h2⟩ := (whole_iff h.inv).1 hw
    obtain ⟨q, hq, h3⟩ := h.some_ m (h2 m hm)
    exact absurd h3 (hn q hq)
theorem SE.open_ (h : SE n g l) (hc : g.closed = false) : gwhole g = false := by unfold gwhole; rw [hc]; rfl
theorem SE.rpos (h : SE n g l) (hl : l ≠ []) : 0 < g.reach := by
  obtain ⟨q, l', rfl⟩ := List.exists_cons_of_ne_nil hl
  have h1 := h.reach q (by simp)
  have h2 := (h.fg q (by simp)).pos
  omega
/-- The fragment that tells the rest. -/
def fstP (l : List Pk) : Pk := (l.find? (fun q => decide (q.off = 0))).getD pz
def outP (l : List Pk) (m : Nat) : Pk := if m = 0 then pz else fstP l
theorem fst_at (hq : l[j]? = some q) (h0 : q.off = 0) (hp : ∀ x ∈ l.take j, x.off ≠ 0) : fstP l = q := by
  unfold fstP
  have e : l = l.take j ++ q :: l.drop (j + 1) := by
    have hj := (List.getElem?_eq_some_iff.1 hq)
    obtain ⟨h1, h2⟩ := hj
    rw [← h2, List.getElem_cons_drop, List.take_append_drop]
  rw [e, List.find?_append]
  rw [List.find?_eq_none.2 (fun x hx => by simpa using hp x hx)]
  rw [List.find?_cons_of_pos (by simpa using h0)]
  rfl
theorem SE.out (h : SE n g l) (h0 : g.there 0 = true) : { fstP l with more := false, off := 0, body := gstr g g.reach } = gpk g n := by
  unfold fstP
  cases hf : l.find? (fun q => decide (q.off = 0)) with
  | none =>
    obtain ⟨x, hx, h1, _⟩ := h.some_ 0 h0
    have := List.find?_eq_none.1 hf x hx
    simp at this
    exact absurd (osn_zero (h.fg x hx) (by omega)) this
  | some x =>
    have hxm := List.mem_of_find?_eq_some hf
    obtain ⟨h1, h2⟩ := h.head x hf
    have h3 := h.nm x hxm
    show ({ x with more := false, off := 0, body := gstr g g.reach } : Pk) = _
    unfold gpk
    rw [← h3, h1, h2]
    rfl
/-- How far it has come. -/
structure Bdy (g : Gm) (l : List Pk) (b : ByteArray) (m : Nat) : Prop where
  eq : b = gstr g m
  size : b.size = m
  all : ∀ j, j < m → g.there j = true
  le : m ≤ 4000
theorem Bdy.zero (g : Gm) (l : List Pk) : Bdy g l ⟨#[]⟩ 0 := ⟨rfl, rfl, fun j hj => by omega, by omega⟩
theorem Bdy.ext {b : ByteArray} (h : SE n g l) (hb : Bdy g l b m) (hq : q ∈ l) (h1 : osn q ≤ m) (h2 : m < osn q + q.body.size) : Bdy g l (b ++ q.body.extract (m - osn q) q.body.size) (osn q + q.body.size) := by
  have e := gstr_ext (g := g) h1 h2 fun i hi => (h.here q hq i hi).2
  rw [← hb.eq] at e
  exact ⟨e, by rw [e, gstr_size], h.ext hq h1 hb.all, (h.fg q hq).le⟩
end
theorem slice_low (s : ByteArray) (a : Nat) (x : Int) (hx : x = (a : Int)) (h : a ≤ s.size) (w : World) : (Instr.slice 9 (.string s) (some (.int .i64 x)) none none).run Try.prog w = .ok (.string (s.extract a s.size)) w := by
  subst hx
  have h1 : (0 : Int) ≤ (a : Int) ∧ (a : Int) ≤ (s.size : Int) := by omega
  simp [Instr.slice, Instr.sliceBounds, Instr.sliceBound, run_underlying Try.underlying9, asIntOf, h1, go_sem]
  intro h; omega
theorem PB.setAll {g : Nat} {p : Pk} {W : World} (h : PB g p W) (q : Pk) : PB g q (W.setCells g 0 (pcl q)) := by
  have h0 : PB g { p with src := q.src } (W.setCell ⟨g, 0, none⟩ (.int .u32 (q.src : Int))) := Joins.block_setCell (i := 0) h (.int .u32 (q.src : Int))
  have h1 : PB g { p with src := q.src, dst := q.dst } ((W.setCell ⟨g, 0, none⟩ (.int .u32 (q.src : Int))).setCell ⟨g, 1, none⟩ (.int .u32 (q.dst : Int))) := Joins.block_setCell (i := 1) h0 (.int .u32 (q.dst : Int))
  have h2 : PB g { p with src := q.src, dst := q.dst, proto := q.proto } (((W.setCell ⟨g, 0, none⟩ (.int .u32 (q.src : Int))).setCell ⟨g, 1, none⟩ (.int .u32 (q.dst : Int))).setCell ⟨g, 2, none⟩ (.int .i64 q.proto)) := Joins.block_setCell (i := 2) h1 (.int .i64 q.proto)
  have h3 : PB g { p with src := q.src, dst := q.dst, proto := q.proto, ttl := q.ttl } ((((W.setCell ⟨g, 0, none⟩ (.int .u32 (q.src : Int))).setCell ⟨g, 1, none⟩ (.int .u32 (q.dst : Int))).setCell ⟨g, 2, none⟩ (.int .i64 q.proto)).setCell ⟨g, 3, none⟩ (.int .i64 q.ttl)) := Joins.block_setCell (i := 3) h2 (.int .i64 q.ttl)
  have h4 : PB g { p with src := q.src, dst := q.dst, proto := q.proto, ttl := q.ttl, id := q.id } (((((W.setCell ⟨g, 0, none⟩ (.int .u32 (q.src : Int))).setCell ⟨g, 1, none⟩ (.int .u32 (q.dst : Int))).setCell ⟨g, 2, none⟩ (.int .i64 q.proto)).setCell ⟨g, 3, none⟩ (.int .i64 q.ttl)).setCell ⟨g, 4, none⟩ (.int .i64 q.id)) := Joins.block_setCell (i := 4) h3 (.int .i64 q.id)
  have h5 : PB g { p with src := q.src, dst := q.dst, proto := q.proto, ttl := q.ttl, id := q.id, dont := q.dont } ((((((W.setCell ⟨g, 0, none⟩ (.int .u32 (q.src : Int))).setCell ⟨g, 1, none⟩ (.int .u32 (q.dst : Int))).setCell ⟨g, 2, none⟩ (.int .i64 q.proto)).setCell ⟨g, 3, none⟩ (.int .i64 q.ttl)).setCell ⟨g, 4, none⟩ (.int .i64 q.id)).setCell ⟨g, 5, none⟩ (.bool q.dont)) := Joins.block_setCell (i := 5) h4 (.bool q.dont)
  have h6 : PB g { p with src := q.src, dst := q.dst, proto := q.proto, ttl := q.ttl, id := q.id, dont := q.dont, more := q.more } (((((((W.setCell ⟨g, 0, none⟩ (.int .u32 (q.src : Int))).setCell ⟨g, 1, none⟩ (.int .u32 (q.dst : Int))).setCell ⟨g, 2, none⟩ (.int .i64 q.proto)).setCell ⟨g, 3, none⟩ (.int .i64 q.ttl)).setCell ⟨g, 4, none⟩ (.int .i64 q.id)).setCell ⟨g, 5, none⟩ (.bool q.dont)).setCell ⟨g, 6, none⟩ (.bool q.more)) := Joins.block_setCell (i := 6) h5 (.bool q.more)
  have h7 : PB g { p with src := q.src, dst := q.dst, proto := q.proto, ttl := q.ttl, id := q.id, dont := q.dont, more := q.more, off := q.off } ((((((((W.setCell ⟨g, 0, none⟩ (.int .u32 (q.src : Int))).setCell ⟨g, 1, none⟩ (.int .u32 (q.dst : Int))).setCell ⟨g, 2, none⟩ (.int .i64 q.proto)).setCell ⟨g, 3, none⟩ (.int .i64 q.ttl)).setCell ⟨g, 4, none⟩ (.int .i64 q.id)).setCell ⟨g, 5, none⟩ (.bool q.dont)).setCell ⟨g, 6, none⟩ (.bool q.more)).setCell ⟨g, 7, none⟩ (.int .i64 q.off)) := Joins.block_setCell (i := 7) h6 (.int .i64 q.off)
  have h8 : PB g { p with src := q.src, dst := q.dst, proto := q.proto, ttl := q.ttl, id := q.id, dont := q.dont, more := q.more, off := q.off, body := q.body } (((((((((W.setCell ⟨g, 0, none⟩ (.int .u32 (q.src : Int))).setCell ⟨g, 1, none⟩ (.int .u32 (q.dst : Int))).setCell ⟨g, 2, none⟩ (.int .i64 q.proto)).setCell ⟨g, 3, none⟩ (.int .i64 q.ttl)).setCell ⟨g, 4, none⟩ (.int .i64 q.id)).setCell ⟨g, 5, none⟩ (.bool q.dont)).setCell ⟨g, 6, none⟩ (.bool q.more)).setCell ⟨g, 7, none⟩ (.int .i64 q.off)).setCell ⟨g, 8, none⟩ (.string q.body)) := Joins.block_setCell (i := 8) h7 (.string q.body)
  show PB g q (((((((((W.setCell ⟨g, 0, none⟩ (.int .u32 (q.src : Int))).setCell ⟨g, 1, none⟩ (.int .u32 (q.dst : Int))).setCell ⟨g, 2, none⟩ (.int .i64 q.proto)).setCell ⟨g, 3, none⟩ (.int .i64 q.ttl)).setCell ⟨g, 4, none⟩ (.int .i64 q.id)).setCell ⟨g, 5, none⟩ (.bool q.dont)).setCell ⟨g, 6, none⟩ (.bool q.more)).setCell ⟨g, 7, none⟩ (.int .i64 q.off)).setCell ⟨g, 8, none⟩ (.string q.body))
  exact h8
section
variable {w W : World} {ub B kb k : Nat} {s0 s : Value} {U0 U : List DE} {p : Pk}
theorem DM.setFar (h : DM w ub B s0 U0 p kb k s U W) {ob : Nat} (ho : kb < ob) (hn : ∀ b, ublk ub s U b → b ≠ ob) (vs : List Value) : DM w ub B s0 U0 p kb k s U (W.setCells ob 0 vs) := by
  have hK : Kp [ob] W (W.setCells ob 0 vs) := Kp.setCells vs 0 (Kp.refl _ _) (Or.inl (by simp))
  exact h.turn2 hK (fun b hb => by simp at hb; subst hb; exact Or.inr ho) (h.ut.keep fun b hb => hK.block b (h.ut.blt b hb) (by simpa using hn b hb)) fun b hb => Or.inl hb
theorem DM.setFar1 (h : DM w ub B s0 U0 p kb k s U W) {ob : Nat} (ho : kb < ob) (hn : ∀ b, ublk ub s U b → b ≠ ob) (i : Nat) (v : Value) : DM w ub B s0 U0 p kb k s U (W.setCell ⟨ob, i, none⟩ v) := by
  have hK : Kp [ob] W (W.setCell ⟨ob, i, none⟩ v) := (Kp.refl _ _).setCell (Or.inl (by simp)) _
  exact h.turn2 hK (fun b hb => by simp at hb; subst hb; exact Or.inr ho) (h.ut.keep fun b hb => hK.block b (h.ut.blt b hb) (by simpa using hn b hb)) fun b hb => Or.inl hb
end
/-- So much is left to do. -/
def mOf (bd gr : Value) : Nat := match bd, gr with
  | .string s, .bool b => 2 * (5000 - s.size) + if b then 1 else 0
  | _, _ => 0
end Go.Proofs.Ytfnmcnbiahfnfaa
