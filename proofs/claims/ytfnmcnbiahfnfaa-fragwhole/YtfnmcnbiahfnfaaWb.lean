/-
  What the closure of FragWhole sees, as one fact; how each step leaves it.
-/
import Derived.Test.YtfnmcnbiahfnfaaWa
namespace Go.Proofs.Ytfnmcnbiahfnfaa
open Go.RowKit Go.Maps
set_option linter.unusedVariables false
set_option linter.unusedSimpArgs false

structure AS (G : Geo) (p q : Pk) (R1 n1 R2 n2 base : Nat) (x y : Int) (S J1 J2 : Nat → Bool) (W : World) (A : List Ent) : Prop where
  fx : FX G p q R1 n1 R2 n2 W
  lf : LF G x y W
  sm : SM W G.sm (n1 + n2) S
  ta : TA G p q R1 n1 R2 n2 base J1 J2 W A
  lo : base ≤ W.heap.size
section
variable {G : Geo} {p q : Pk} {R1 n1 R2 n2 base : Nat} {x y : Int} {S J1 J2 : Nat → Bool} {W W' : World} {A A' : List Ent}
theorem AS.kp {bs : List Nat} (h : AS G p q R1 n1 R2 n2 base x y S J1 J2 W A) (hk : Kp bs W W') (h1 : ∀ k ∈ G.fx, k ∉ bs) (h2 : G.lf ∉ bs) (h3 : G.sm ∉ bs) (h4 : G.tb ∉ bs) (h5 : ∀ k ∈ G.mb :: blks A, k ∉ bs) : AS G p q R1 n1 R2 n2 base x y S J1 J2 W' A :=
  ⟨h.fx.kp hk h1, h.lf.kp hk h2, h.sm.kp hk h3, h.ta.kp hk h4 h5, Nat.le_trans h.lo hk.size⟩
theorem AS.on (h : AS G p q R1 n1 R2 n2 base x y S J1 J2 W A) (hb : Below W.heap.size W W') : AS G p q R1 n1 R2 n2 base x y S J1 J2 W' A :=
  h.kp (bs := []) (Kp.ofBelow hb) (by simp) (by simp) (by simp) (by simp) (by simp)
theorem AS.tne (h : AS G p q R1 n1 R2 n2 base x y S J1 J2 W A) : G.tb ∉ G.mb :: blks A := fun hc => by
  rcases List.mem_cons.1 hc with hc | hc
  · exact h.ta.tab.ne1 hc
  · obtain ⟨e, he, e2⟩ := mem_blks.1 hc
    exact (h.ta.tab.ne2 he).1 e2
theorem AS.setL0 (h : AS G p q R1 n1 R2 n2 base x y S J1 J2 W A) (GO : GeoOk G base) (z : Int) : AS G p q R1 n1 R2 n2 base z y S J1 J2 (W.setCell ⟨G.lf, 0, none⟩ (.int .i64 z)) A := by
  have hk : Kp [G.lf] W (W.setCell ⟨G.lf, 0, none⟩ (.int .i64 z)) := (Kp.refl _ _).setCell (Or.inl (by simp)) _
  exact ⟨h.fx.kp hk (fun k hm hc => GO.lfx (by simp at hc; rw [← hc]; exact hm)), h.lf.set0 z, h.sm.kp hk (by simp; exact fun c => GO.lsm c.symm), h.ta.kp hk (by simp; exact fun c => GO.ltb c.symm) (fun k hm => by simp; exact (h.ta.ap k hm).2.2.1), Nat.le_trans h.lo hk.size⟩
theorem AS.setL1 (h : AS G p q R1 n1 R2 n2 base x y S J1 J2 W A) (GO : GeoOk G base) (z : Int) : AS G p q R1 n1 R2 n2 base x z S J1 J2 (W.setCell ⟨G.lf, 1, none⟩ (.int .i64 z)) A := by
  have hk : Kp [G.lf] W (W.setCell ⟨G.lf, 1, none⟩ (.int .i64 z)) := (Kp.refl _ _).setCell (Or.inl (by simp)) _
  exact ⟨h.fx.kp hk (fun k hm hc => GO.lfx (by simp at hc; rw [← hc]; exact hm)), h.lf.set1 z, h.sm.kp hk (by simp; exact fun c => GO.lsm c.symm), h.ta.kp hk (by simp; exact fun c => GO.ltb c.symm) (fun k hm => by simp; exact (h.ta.ap k hm).2.2.1), Nat.le_trans h.lo hk.size⟩
theorem AS.put (h : AS G p q R1 n1 R2 n2 base x y S J1 J2 W A) (GO : GeoOk G base) (hN : n1 + n2 ≤ 8000) {k : Nat} (hk : k < n1 + n2) (b : Bool) :
    ∃ W', (Instr.mapUpdate 59 (.map (some G.sm)) (.int .i64 (k : Int)) (.int .i64 (b01 b))).run Try.prog W = .ok () W' ∧ AS G p q R1 n1 R2 n2 base x y (fun i => if i = k then b else S i) J1 J2 W' A ∧ Kp [G.sm] W W' := by
  obtain ⟨W', hr, hs, hK⟩ := h.sm.put hN hk b
  exact ⟨W', hr, ⟨h.fx.kp hK (fun k hm hc => GO.smx (by simp at hc; rw [← hc]; exact hm)), h.lf.kp hK (by simp; exact GO.lsm), hs, h.ta.kp hK (by simp; exact fun c => GO.stb c.symm) (fun k hm => by simp; exact (h.ta.ap k hm).2.2.2), Nat.le_trans h.lo hK.size⟩, hK⟩
/-- In has been called. -/
theorem AS.in {J1' J2' : Nat → Bool} (h : AS G p q R1 n1 R2 n2 base x y S J1 J2 W A) (hK : Kp (G.mb :: blks A) W W')
    (hs : ∀ k ∈ blks A', k ∈ blks A ∨ W.heap.size ≤ k) (hn : (∀ k ∈ G.mb :: blks A', base ≤ k ∧ k ∉ G.fx ∧ k ≠ G.lf ∧ k ≠ G.sm) → TA G p q R1 n1 R2 n2 base J1' J2' W' A') : AS G p q R1 n1 R2 n2 base x y S J1' J2' W' A' ∧ Below base W W' :=
  ⟨⟨h.fx.kp hK (fun k hm hc => (h.ta.ap k hc).2.1 hm), h.lf.kp hK (fun hc => (h.ta.ap _ hc).2.2.1 rfl), h.sm.kp hK (fun hc => (h.ta.ap _ hc).2.2.2 rfl),
    hn (h.ta.apart h.lo h.fx.lt h.lf.lt h.sm.lt hs), Nat.le_trans h.lo hK.size⟩, hK.below h.lo (fun k hk => (h.ta.ap k hk).1)⟩
theorem AS.farMb (h : AS G p q R1 n1 R2 n2 base x y S J1 J2 W A) {b : Nat} (hb : W.heap.size ≤ b) : b ∉ G.mb :: blks A := fun hc => by
  rcases List.mem_cons.1 hc with hc | hc
  · have := h.ta.tab.mlt; omega
  · have := h.ta.tab.blt b hc; omega
theorem AS.cT (h : AS G p q R1 n1 R2 n2 base x y S J1 J2 W A) : W.cell? ⟨G.tx, 0, none⟩ = some (.pointer (some ⟨G.tb, 0, none⟩)) := Joins.cell_of_block h.fx.t 0
theorem AS.cA (h : AS G p q R1 n1 R2 n2 base x y S J1 J2 W A) : W.cell? ⟨G.ab, 0, none⟩ = some (.slice G.ao n1 G.acap) := Joins.cell_of_block h.fx.a 0
theorem AS.cAl (h : AS G p q R1 n1 R2 n2 base x y S J1 J2 W A) {N : Nat} (hN : N = n1 + n2) : W.cell? ⟨G.al, 0, none⟩ = some (.slice (some ⟨G.g, 0, none⟩) N G.cap) := by rw [hN]; exact Joins.cell_of_block h.fx.al 0
theorem AS.cS (h : AS G p q R1 n1 R2 n2 base x y S J1 J2 W A) : W.cell? ⟨G.sx, 0, none⟩ = some (.map (some G.sm)) := Joins.cell_of_block h.fx.sx 0
end
theorem AS.congrS {G : Geo} {p q : Pk} {R1 n1 R2 n2 base : Nat} {x y : Int} {S S' J1 J2 : Nat → Bool} {W : World} {A : List Ent} (h : AS G p q R1 n1 R2 n2 base x y S J1 J2 W A) (e : ∀ i, i < n1 + n2 → S' i = S i) : AS G p q R1 n1 R2 n2 base x y S' J1 J2 W A :=
  ⟨h.fx, h.lf, h.sm.congr e, h.ta, h.lo⟩
theorem sn_set0 {n1 j : Nat} (J1 J2 : Nat → Bool) (hj : j < n1) (i : Nat) : sn n1 (fun i => J1 i || decide (i = j)) J2 i = if i = j then true else sn n1 J1 J2 i := by
  unfold sn
  by_cases h : i = j
  · rw [if_pos h, if_pos (by omega)]; simp [h]
  · rw [if_neg h]; simp [h]
theorem sn_set1 {n1 j : Nat} (J1 J2 : Nat → Bool) (i : Nat) : sn n1 J1 (fun i => J2 i || decide (i = j)) i = if i = n1 + j then true else sn n1 J1 J2 i := by
  unfold sn
  by_cases h : i = n1 + j
  · rw [if_pos h, if_neg (by omega)]; simp [h]
  · rw [if_neg h]
    by_cases h1 : i < n1
    · rw [if_pos h1, if_pos h1]
    · rw [if_neg h1, if_neg h1]
      show (J2 (i - n1) || decide (i - n1 = j)) = J2 (i - n1)
      rw [decide_eq_false (by omega), Bool.or_false]
theorem sn_end0 {n1 N j k i : Nat} (J1 J2 : Nat → Bool) (hk : k = j) (hj : j < n1) (hi : i < N) : sn n1 (fun _ => false) J2 i = if i < N ∧ i < n1 then false else if i = k then true else sn n1 J1 J2 i := by
  unfold sn
  by_cases h : i < n1
  · rw [if_pos h, if_pos ⟨hi, h⟩]
  · rw [if_neg h, if_neg (by omega), if_neg (by omega), if_neg h]
theorem sn_end1 {n1 N j k i : Nat} (J1 J2 : Nat → Bool) (hk : k = n1 + j) (hi : i < N) : sn n1 J1 (fun _ => false) i = if n1 ≤ i ∧ i < N then false else if i = k then true else sn n1 J1 J2 i := by
  unfold sn
  by_cases h : i < n1
  · rw [if_pos h, if_neg (by omega), if_neg (by omega), if_pos h]
  · rw [if_neg h, if_pos ⟨by omega, hi⟩]
theorem PB.setAll {g : Nat} {p : Pk} {W : World} (h : PB g p W) (q : Pk) : PB g q (W.setCells g 0 (pcl q)) := by
  have h0 : PB g { p with src := q.src } (W.setCell ⟨g, 0, none⟩ (.int .u32 (q.src : Int))) := Joins.block_setCell (i := 0) h (.int .u32 (q.src : Int))
  have h1 : PB g { p with src := q.src, dst := q.dst } ((W.setCell ⟨g, 0, none⟩ (.int .u32 (q.src : Int))).setCell ⟨g, 1, none⟩ (.int .u32 (q.dst : Int))) := Joins.block_setCell (i := 1) h0 (.int .u32 (q.dst : Int))
  have h2 : PB g { p with src := q.src, dst := q.dst, proto := q.proto } (((W.setCell ⟨g, 0, none⟩ (.int .u32 (q.src : Int))).setCell ⟨g, 1, none⟩ (.int .u32 (q.dst : Int))).setCell ⟨g, 2, none⟩ (.int .i64 q.proto)) := Joins.block_setCell (i := 2) h1 (.int .i64 q.proto)
  have h3 : PB g { p with src := q.src, dst := q.dst, proto := q.proto, ttl := q.ttl } ((((W.setCell ⟨g, 0, none⟩ (.int .u32 (q.src : Int))).setCell ⟨g, 1, none⟩ (.int .u32 (q.dst : Int))).setCell ⟨g, 2, none⟩ (.int .i64 q.proto)).setCell ⟨g, 3, none⟩ (.int .i64 q.ttl)) := Joins.block_setCell (i := 3) h2 (.int .i64 q.ttl)
  have h4 : PB g { p with src := q.src, dst := q.dst, proto := q.proto, ttl := q.ttl, id := q.id } (((((W.setCell ⟨g, 0, none⟩ (.int .u32 (q.src : Int))).setCell ⟨g, 1, none⟩ (.int .u32 (q.dst : Int))).setCell ⟨g, 2, none⟩ (.int .i64 q.proto)).setCell ⟨g, 3, none⟩ (.int .i64 q.ttl)).setCell ⟨g, 4, none⟩ (.int .i64 q.id)) := Joins.block_setCell (i := 4) h3 (.int .i64 q.id)
  have h5 : PB g { p with src := q.src, dst := q.dst, proto := q.proto, ttl := q.ttl, id := q.id, dont := q.dont } ((((((W.setCell ⟨g, 0, none⟩ (.int .u32 (q.src : Int))).setCell ⟨g, 1, none⟩ (.int .u32 (q.dst : Int))).setCell ⟨g, 2, none⟩ (.int .i64 q.proto)).setCell ⟨g, 3, none⟩ (.int .i64 q.ttl)).setCell ⟨g, 4, none⟩ (.int .i64 q.id)).setCell ⟨g, 5, none⟩ (.bool q.dont)) := Joins.block_setCell (i := 5) h4 (.bool q.dont)
  have h6 : PB g { p with src := q.src, dst := q.dst, proto := q.proto, ttl := q.ttl, id := q.id, dont := q.dont, more := q.more } (((((((W.setCell ⟨g, 0, none⟩ (.int .u32 (q.src : Int))).setCell ⟨g, 1, none⟩ (.int .u32 (q.dst : Int))).setCell ⟨g, 2, none⟩ (.int .i64 q.proto)).setCell ⟨g, 3, none⟩ (.int .i64 q.ttl)).setCell ⟨g, 4, none⟩ (.int .i64 q.id)).setCell ⟨g, 5, none⟩ (.bool q.dont)).setCell ⟨g, 6, none⟩ (.bool q.more)) := Joins.block_setCell (i := 6) h5 (.bool q.more)
  have h7 : PB g { p with src := q.src, dst := q.dst, proto := q.proto, ttl := q.ttl, id := q.id, dont := q.dont, more := q.more, off := q.off } ((((((((W.setCell ⟨g, 0, none⟩ (.int .u32 (q.src : Int))).setCell ⟨g, 1, none⟩ (.int .u32 (q.dst : Int))).setCell ⟨g, 2, none⟩ (.int .i64 q.proto)).setCell ⟨g, 3, none⟩ (.int .i64 q.ttl)).setCell ⟨g, 4, none⟩ (.int .i64 q.id)).setCell ⟨g, 5, none⟩ (.bool q.dont)).setCell ⟨g, 6, none⟩ (.bool q.more)).setCell ⟨g, 7, none⟩ (.int .i64 q.off)) := Joins.block_setCell (i := 7) h6 (.int .i64 q.off)
  have h8 : PB g { p with src := q.src, dst := q.dst, proto := q.proto, ttl := q.ttl, id := q.id, dont := q.dont, more := q.more, off := q.off, body := q.body } (((((((((W.setCell ⟨g, 0, none⟩ (.int .u32 (q.src : Int))).setCell ⟨g, 1, none⟩ (.int .u32 (q.dst : Int))).setCell ⟨g, 2, none⟩ (.int .i64 q.proto)).setCell ⟨g, 3, none⟩ (.int .i64 q.ttl)).setCell ⟨g, 4, none⟩ (.int .i64 q.id)).setCell ⟨g, 5, none⟩ (.bool q.dont)).setCell ⟨g, 6, none⟩ (.bool q.more)).setCell ⟨g, 7, none⟩ (.int .i64 q.off)).setCell ⟨g, 8, none⟩ (.string q.body)) := Joins.block_setCell (i := 8) h7 (.string q.body)
  show PB g q (((((((((W.setCell ⟨g, 0, none⟩ (.int .u32 (q.src : Int))).setCell ⟨g, 1, none⟩ (.int .u32 (q.dst : Int))).setCell ⟨g, 2, none⟩ (.int .i64 q.proto)).setCell ⟨g, 3, none⟩ (.int .i64 q.ttl)).setCell ⟨g, 4, none⟩ (.int .i64 q.id)).setCell ⟨g, 5, none⟩ (.bool q.dont)).setCell ⟨g, 6, none⟩ (.bool q.more)).setCell ⟨g, 7, none⟩ (.int .i64 q.off)).setCell ⟨g, 8, none⟩ (.string q.body))
  exact h8
theorem wp_store_last {P : Program} {op : Oper} {a : Act} {w : World} {K : Act → World → Prop} {Q : Exit → Act → World → Prop} (ty : TypeId) (x y : Operand) (ho : op.op = .store ty x y)
    (w0 : World) (c c' : Array Value) (hw : w = w0.alloc (.cells c ty)) (hx : a.eval x = .pointer (some ⟨w0.heap.size, 0, none⟩)) (hy : a.eval y = .agg c') (hi : (P.info? ty).map (·.size) = some c'.size) (hs : c.size = c'.size) (h1 : c'.all (·.oneCell') = true)
    (h : K (a.put op.dst undef) (w0.alloc (.cells c' ty))) : op.wp P a w K Q := by
  unfold Oper.wp execOp
  simp only [ho, hx, hy, Sem.run_bind]
  rw [hw, run_storeAt_new w0 ty c c' hi hs h1]
  exact h
theorem wp_store_last' {P : Program} {op : Oper} {a : Act} {w : World} {K : Act → World → Prop} {Q : Exit → Act → World → Prop} (hd : op.dst = none) (ty : TypeId) (x y : Operand) (ho : op.op = .store ty x y)
    (w0 : World) (c c' : Array Value) (hw : w = w0.alloc (.cells c ty)) (hx : a.eval x = .pointer (some ⟨w0.heap.size, 0, none⟩)) (hy : a.eval y = .agg c') (hi : (P.info? ty).map (·.size) = some c'.size) (hs : c.size = c'.size) (h1 : c'.all (·.oneCell') = true)
    (h : K a (w0.alloc (.cells c' ty))) : op.wp P a w K Q :=
  wp_store_last ty x y ho w0 c c' hw hx hy hi hs h1 (by rw [hd]; exact h)
theorem wp_store_mid' {P : Program} {op : Oper} {a : Act} {w : World} {K : Act → World → Prop} {Q : Exit → Act → World → Prop} (hd : op.dst = none) (ty : TypeId) (x y : Operand) (ho : op.op = .store ty x y)
    (b o : Nat) (cells : Array Value) (hx : a.eval x = .pointer (some ⟨b, o, none⟩)) (hy : a.eval y = .agg cells)
    (ht : w.there b o cells.size) (hi : (P.info? ty).map (·.size) = some cells.size) (h1 : cells.all (·.oneCell') = true)
    (h : K a (w.setCells b o cells.toList)) : op.wp P a w K Q :=
  wp_store_mid ty x y ho b o cells hx hy ht hi h1 (by rw [hd]; exact h)
theorem wp_alloc24' {op : Oper} {a : Act} {w : World} {K : Act → World → Prop} {Q : Exit → Act → World → Prop} {d : Tmp} (hd : op.dst = some d) (ho : op.op = .alloc 24)
    (h : K (a.put (some d) (.pointer (some ⟨w.heap.size, 0, none⟩))) (w.alloc (.cells pzc 24))) : op.wp Try.prog a w K Q :=
  wp_alloc24 ho (by rw [hd]; exact h)
abbrev pzl : List Value := [.int .u32 0, .int .u32 0, .int .i64 0, .int .i64 0, .int .i64 0, .bool false, .bool false, .int .i64 0, .string ⟨#[]⟩]
theorem PB.rangez {g : Nat} {W : World} (h : PB g pz W) : W.rangeAt g 0 pzl := h.range
end Go.Proofs.Ytfnmcnbiahfnfaa
