/-
  The table and the document's list, one beside the other; the document's In, half way: what lies where.
-/
import Derived.Test.YtfnmcnbiahfnfaaEd
namespace Go.Proofs.Ytfnmcnbiahfnfaa
open Go.RowKit
set_option linter.unusedVariables false
set_option linter.unusedSimpArgs false

/-- One that is open, as the table and as the document keep it. -/
structure SEa (b : Nm × Gm) (e : DE) : Prop where
  se : SE b.1 b.2 e.l
  ne : e.l ≠ []
  left : b.2.left = 30 - e.age
  lo : 0 ≤ e.age
  hi : e.age < 30
def Sim : List (Nm × Gm) → List DE → Prop
  | [], [] => True
  | b :: C, e :: U => SEa b e ∧ Sim C U
  | _, _ => False
theorem Sim.len : ∀ {C : List (Nm × Gm)} {U : List DE}, Sim C U → C.length = U.length
  | [], [], _ => rfl
  | b :: C, e :: U, h => by rw [List.length_cons, List.length_cons, h.2.len]
  | [], _ :: _, h => h.elim
  | _ :: _, [], h => h.elim
theorem Sim.get : ∀ {C : List (Nm × Gm)} {U : List DE}, Sim C U → ∀ {k : Nat} {b : Nm × Gm} {e : DE}, C[k]? = some b → U[k]? = some e → SEa b e
  | [], [], _, k, b, e, h1, _ => by simp at h1
  | x :: C, y :: U, h, 0, b, e, h1, h2 => by simp at h1 h2; subst h1 h2; exact h.1
  | x :: C, y :: U, h, k + 1, b, e, h1, h2 => h.2.get (k := k) (by simpa using h1) (by simpa using h2)
  | [], _ :: _, h, _, _, _, _, _ => h.elim
  | _ :: _, [], h, _, _, _, _, _ => h.elim
theorem Sim.add : ∀ {C : List (Nm × Gm)} {U : List DE}, Sim C U → ∀ {C' : List (Nm × Gm)} {U' : List DE}, Sim C' U' → Sim (C ++ C') (U ++ U')
  | [], [], _, C', U', h => h
  | b :: C, e :: U, h, C', U', h' => ⟨h.1, h.2.add h'⟩
  | [], _ :: _, h, _, _, _ => h.elim
  | _ :: _, [], h, _, _, _ => h.elim
theorem Sim.take : ∀ {C : List (Nm × Gm)} {U : List DE}, Sim C U → ∀ k, Sim (C.take k) (U.take k)
  | [], [], h, k => by simpa using h
  | b :: C, e :: U, h, 0 => trivial
  | b :: C, e :: U, h, k + 1 => ⟨h.1, h.2.take k⟩
  | [], _ :: _, h, _ => h.elim
  | _ :: _, [], h, _ => h.elim
theorem Sim.drop : ∀ {C : List (Nm × Gm)} {U : List DE}, Sim C U → ∀ k, Sim (C.drop k) (U.drop k)
  | [], [], h, k => by simpa using h
  | b :: C, e :: U, h, 0 => h
  | b :: C, e :: U, h, k + 1 => h.2.drop k
  | [], _ :: _, h, _ => h.elim
  | _ :: _, [], h, _ => h.elim
theorem Sim.set : ∀ {C : List (Nm × Gm)} {U : List DE}, Sim C U → ∀ {k : Nat} {b : Nm × Gm} {e : DE}, SEa b e → Sim (C.set k b) (U.set k e)
  | [], [], h, k, b, e, _ => by simpa using h
  | x :: C, y :: U, h, 0, b, e, hb => ⟨hb, h.2⟩
  | x :: C, y :: U, h, k + 1, b, e, hb => ⟨h.1, h.2.set hb⟩
  | [], _ :: _, h, _, _, _, _ => h.elim
  | _ :: _, [], h, _, _, _, _ => h.elim
theorem Sim.mem : ∀ {C : List (Nm × Gm)} {U : List DE}, Sim C U → ∀ {e : DE}, e ∈ U → ∃ b ∈ C, SEa b e
  | [], [], h, e, he => by cases he
  | x :: C, y :: U, h, e, he => by
    rcases List.mem_cons.1 he with rfl | he
    · exact ⟨x, by simp, h.1⟩
    · obtain ⟨b, hb, h1⟩ := h.2.mem he
      exact ⟨b, by simp [hb], h1⟩
  | [], _ :: _, h, _, _ => h.elim
  | _ :: _, [], h, _, _ => h.elim
/-- What n ticks make of one. -/
def tickB (n : Int) (b : Nm × Gm) : Option (Nm × Gm) := if b.2.left ≤ n then none else some (b.1, { b.2 with left := b.2.left - n })
theorem abs_tick (n : Int) (A : List Ent) : abs (tickA n A) = (abs A).filterMap (tickB n) := by
  unfold abs tickA
  induction A with
  | nil => rfl
  | cons e A ih =>
    rw [List.map_cons, List.filterMap_cons, List.filterMap_cons]
    unfold tickE tickB at *
    by_cases hc : e.g.left ≤ n
    · rw [if_pos hc, if_pos hc]; exact ih
    · rw [if_neg hc, if_neg hc]
      show _ :: _ = _ :: _
      congr 1
theorem SE.setLeft {n : Nm} {g : Gm} {l : List Pk} (h : SE n g l) (x : Int) : SE n { g with left := x } l :=
  ⟨h.nm, h.fg, h.here, h.some_, h.reach, h.last, h.closed, h.top, h.head, ⟨h.inv.many, h.inv.reach, h.inv.up⟩⟩
theorem Sim.tick {n : Int} (hn : 0 ≤ n) : ∀ {C : List (Nm × Gm)} {U : List DE}, Sim C U → Sim (C.filterMap (tickB n)) (dtick n U)
  | [], [], h => trivial
  | b :: C, e :: U, h => by
    obtain ⟨h1, h2⟩ := h
    have ih := h2.tick hn
    have hl := h1.left
    unfold dtick at ih ⊢
    rw [List.filterMap_cons, List.filterMap_cons]
    unfold tickB dtk at ih ⊢
    by_cases hc : n < 30 - e.age
    · rw [if_neg (show ¬ b.2.left ≤ n by omega), if_pos hc]
      have hlo := h1.lo
      exact ⟨⟨h1.se.setLeft _, h1.ne, by show b.2.left - n = 30 - (e.age + n); omega, by show 0 ≤ e.age + n; omega, by show e.age + n < 30; omega⟩, ih⟩
    · rw [if_pos (show b.2.left ≤ n by omega), if_neg hc]
      exact ih
  | [], _ :: _, h => h.elim
  | _ :: _, [], h => h.elim
/-- No two by one name. -/
def PD (C : List (Nm × Gm)) : Prop := C.Pairwise (fun x y => x.1 ≠ y.1)
theorem look_at : ∀ {C : List (Nm × Gm)}, PD C → ∀ {k : Nat} {n : Nm} {g : Gm}, C[k]? = some (n, g) → lookB C n = some g ∧ delB C n = C.take k ++ C.drop (k + 1) ∧ ∀ g', updB C n g' = C.set k (n, g')
  | [], _, k, n, g, h => by simp at h
  | x :: C, hd, 0, n, g, h => by
    simp at h
    subst h
    have hd : (∀ y ∈ C, n ≠ y.1) ∧ PD C := List.pairwise_cons.1 hd
    refine ⟨by simp [lookB], ?_, fun g' => ?_⟩
    · show List.filter (fun x => decide (x.1 ≠ n)) ((n, g) :: C) = _
      rw [List.filter_cons, if_neg (by simp)]
      show List.filter _ C = C
      rw [List.filter_eq_self]
      intro y hy
      simp
      exact fun e => hd.1 y hy e.symm
    · show List.map (fun x => if x.1 = n then (x.1, g') else x) ((n, g) :: C) = (n, g') :: C
      rw [List.map_cons, if_pos rfl]
      congr 1
      refine (List.map_congr_left (g := id) fun y hy => ?_).trans (List.map_id _)
      rw [if_neg (fun e => hd.1 y hy e.symm)]; rfl
  | x :: C, hd, k + 1, n, g, h => by
    have hd : (∀ y ∈ C, x.1 ≠ y.1) ∧ PD C := List.pairwise_cons.1 hd
    have h : C[k]? = some (n, g) := by simpa using h
    have hx : x.1 ≠ n := hd.1 _ (List.mem_of_getElem? h)
    obtain ⟨h1, h2, h3⟩ := look_at hd.2 h
    refine ⟨?_, ?_, fun g' => ?_⟩
    · show (if x.1 = n then some x.2 else lookB C n) = some g
      rw [if_neg hx]; exact h1
    · show List.filter (fun x => decide (x.1 ≠ n)) (x :: C) = x :: (C.take k ++ C.drop (k + 1))
      rw [List.filter_cons, if_pos (by simpa using hx)]
      congr 1
    · show List.map (fun x => if x.1 = n then (x.1, g') else x) (x :: C) = x :: C.set k (n, g')
      rw [List.map_cons, if_neg hx]
      congr 1
      exact h3 g'
theorem look_no : ∀ {C : List (Nm × Gm)} {n : Nm}, (∀ b ∈ C, b.1 ≠ n) → lookB C n = none
  | [], n, _ => rfl
  | x :: C, n, h => by
    show (if x.1 = n then some x.2 else lookB C n) = none
    rw [if_neg (h x (by simp))]
    exact look_no fun b hb => h b (by simp [hb])
theorem PD.add {C : List (Nm × Gm)} {n : Nm} {g : Gm} (h : PD C) (hn : ∀ b ∈ C, b.1 ≠ n) : PD (C ++ [(n, g)]) := by
  unfold PD
  rw [List.pairwise_append]
  exact ⟨h, List.pairwise_singleton _ _, fun x hx y hy => by simp at hy; subst hy; exact hn x hx⟩

/-- What a call of the document's In says. -/
def DPost (w : World) (ub B : Nat) (s0 : Value) (U0 : List DE) (C : List (Nm × Gm)) (p : Pk) (ex : Ending) (w' : World) : Prop :=
  ∃ s' U', ex = .returned (.tuple #[pv (inM C p).1.1, .bool (inM C p).1.2.1, .int .i64 (inM C p).1.2.2]) ∧ UT w' ub B s' U' ∧ Sim (inM C p).2 U' ∧ (∀ m, (∀ e ∈ U0, e.l.length ≤ m) → ∀ e ∈ U', e.l.length ≤ m + 1) ∧ Kp (ub :: s0.ownBlock.toList) w w' ∧ ∀ b, ublk ub s' U' b → ublk ub s0 U0 b ∨ w.heap.size ≤ b
/-- The document's In, half way. -/
structure DM (w : World) (ub B : Nat) (s0 : Value) (U0 : List DE) (p : Pk) (kb k : Nat) (s : Value) (U : List DE) (W : World) : Prop where
  x : W.heap[w.heap.size]? = some (.cells #[.pointer (some ⟨ub, 0, none⟩)] 34 (0, 0))
  pp : PB (w.heap.size + 1) p W
  rr : PB (w.heap.size + 2) pz W
  kk : W.heap[kb]? = some (.cells #[.int .i64 (k : Int)] 3 (0, 0))
  kb3 : w.heap.size + 2 < kb
  ut : UT W ub B s U
  ult : ub < w.heap.size
  nx : ∀ b, ublk ub s U b → b < w.heap.size ∨ kb < b
  old : ∀ b, ublk ub s U b → ublk ub s0 U0 b ∨ w.heap.size ≤ b
  kp : Kp (ub :: s0.ownBlock.toList) w W
section
variable {w W W' : World} {ub B kb k : Nat} {s0 s s' : Value} {U0 U U' : List DE} {p : Pk}
theorem DM.klt (h : DM w ub B s0 U0 p kb k s U W) : kb < W.heap.size := lt_of_heap h.kk
theorem DM.on (h : DM w ub B s0 U0 p kb k s U W) (hb : Below W.heap.size W W') : DM w ub B s0 U0 p kb k s U W' :=
  ⟨(hb.block _ (lt_of_heap h.x)).trans h.x, h.pp.keep hb, h.rr.keep hb, (hb.block _ h.klt).trans h.kk, h.kb3, h.ut.on hb, h.ult, h.nx, h.old, h.kp.then hb⟩
theorem DM.alloc (h : DM w ub B s0 U0 p kb k s U W) (o : Obj) : DM w ub B s0 U0 p kb k s U (W.alloc o) := h.on ((Below.refl _ _).alloc (Nat.le_refl _) _)
theorem DM.drew (h : DM w ub B s0 U0 p kb k s U W) : DM w ub B s0 U0 p kb k s U W.drew := h.on ((Below.refl _ _).drew)
theorem DM.cx (h : DM w ub B s0 U0 p kb k s U W) : W.cell? ⟨w.heap.size, 0, none⟩ = some (.pointer (some ⟨ub, 0, none⟩)) := Joins.cell_of_block h.x 0
theorem DM.ck (h : DM w ub B s0 U0 p kb k s U W) : W.cell? ⟨kb, 0, none⟩ = some (.int .i64 (k : Int)) := Joins.cell_of_block h.kk 0
theorem DM.fk (h : DM w ub B s0 U0 p kb k s U W) : W.frozen? ⟨kb, 0, none⟩ = false := Joins.unfrozen_of_block h.kk 0
theorem DM.setK (h : DM w ub B s0 U0 p kb k s U W) (j : Nat) : DM w ub B s0 U0 p kb j s U (W.setCell ⟨kb, 0, none⟩ (.int .i64 (j : Int))) := by
  have h3 := h.kb3
  refine ⟨(heap_setCell_other _ _ _ _ (by show w.heap.size ≠ kb; omega)).trans h.x, h.pp.setOther (by omega) _ _, h.rr.setOther (by omega) _ _, Joins.block_setCell (i := 0) h.kk _, h3, h.ut.keep fun b hb => heap_setCell_other _ _ _ _ ?_, h.ult, h.nx, h.old, h.kp.setCell (Or.inr (by show w.heap.size ≤ kb; omega)) _⟩
  show b ≠ kb
  have := h.nx b hb
  omega
/-- Blocks of the table alone are written. -/
theorem DM.turn (h : DM w ub B s0 U0 p kb k s U W) {bs : List Nat} (hk : Kp bs W W') (hbs : ∀ b ∈ bs, (b < w.heap.size ∧ b ∈ ub :: s0.ownBlock.toList) ∨ kb < b) (hu : UT W' ub B s' U') (hn : ∀ b, ublk ub s' U' b → ublk ub s U b ∨ W.heap.size ≤ b) : DM w ub B s0 U0 p kb k s' U' W' := by
  have h3 := h.kb3
  have h4 := h.klt
  have h5 := h.kp.size
  have far : ∀ b, w.heap.size ≤ b → b ≤ kb → b ∉ bs := fun b h1 h2 hm => by
    rcases hbs b hm with h6 | h6
    · have := h6.1; omega
    · omega
  refine ⟨(hk.block _ (lt_of_heap h.x) (far _ (by omega) (by omega))).trans h.x, (hk.block _ h.pp.lt (far _ (by omega) (by omega))).trans h.pp, (hk.block _ h.rr.lt (far _ (by omega) (by omega))).trans h.rr, (hk.block _ h4 (far _ (by omega) (by omega))).trans h.kk, h3, hu, h.ult, fun b hb => ?_, fun b hb => ?_, h.kp.trans hk fun b hb => ?_⟩
  · rcases hn b hb with h6 | h6
    · exact h.nx b h6
    · omega
  · rcases hn b hb with h6 | h6
    · exact h.old b h6
    · right; omega
  · rcases hbs b hb with h6 | h6
    · exact Or.inl h6.2
    · right; omega
theorem mem_del {k : Nat} {e : DE} (h : e ∈ U.take k ++ U.drop (k + 1)) : e ∈ U := by
  rcases List.mem_append.1 h with h | h
  · exact List.mem_of_mem_take h
  · exact List.mem_of_mem_drop h
theorem DM.drop (h : DM w ub B s0 U0 p kb k s U W) (hu : UT W' ub B s' (U.take k ++ U.drop (k + 1))) (hk : Kp [ub] W W') (hg : ∀ g, s'.ownBlock = some g → W.heap.size ≤ g) : DM w ub B s0 U0 p kb k s' (U.take k ++ U.drop (k + 1)) W' :=
  h.turn hk (fun b hb => by simp at hb; subst hb; exact Or.inl ⟨h.ult, by simp⟩) hu fun b hb => by
    rcases hb with rfl | hb | ⟨e, he, hb⟩
    · exact Or.inl (Or.inl rfl)
    · exact Or.inr (hg b hb)
    · exact Or.inl (Or.inr (Or.inr ⟨e, mem_del he, hb⟩))
/-- The end: the answer is stored. -/
theorem DM.done (h : DM w ub B s0 U0 p kb k s U W) (vs : List Value) : UT (W.setCells (w.heap.size + 2) 0 vs) ub B s U ∧ Kp (ub :: s0.ownBlock.toList) w (W.setCells (w.heap.size + 2) 0 vs) := by
  have hK : Kp [w.heap.size + 2] W (W.setCells (w.heap.size + 2) 0 vs) := Kp.setCells vs 0 (Kp.refl _ _) (Or.inl (by simp))
  have h3 := h.kb3
  refine ⟨h.ut.keep fun b hb => hK.block b (h.ut.blt b hb) ?_, Kp.setCells vs 0 h.kp (Or.inr (by omega))⟩
  simp
  have := h.nx b hb
  omega
end
end Go.Proofs.Ytfnmcnbiahfnfaa
