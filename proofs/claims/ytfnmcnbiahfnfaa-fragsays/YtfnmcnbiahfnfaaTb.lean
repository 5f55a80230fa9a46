/-
  The table of what is being put together, in memory; contracts of New and Open (package frag).
-/
import Derived.Test.YtfnmcnbiahfnfaaGd
namespace Go.Proofs.Ytfnmcnbiahfnfaa
open Go.RowKit Go.Maps
set_option linter.unusedVariables false
set_option linter.unusedSimpArgs false

/-- How many of the first n are. -/
def cntT (f : Nat → Bool) (n : Nat) : Nat := ((List.range n).filter f).length
theorem cntT_succ (f : Nat → Bool) (n : Nat) : cntT f (n + 1) = cntT f n + if f n then 1 else 0 := by
  unfold cntT
  rw [List.range_succ, List.filter_append, List.length_append]
  cases h : f n <;> simp [List.filter_cons, h]
theorem cntT_le (f : Nat → Bool) (n : Nat) : cntT f n ≤ n := by
  unfold cntT
  have := List.length_filter_le f (List.range n)
  rwa [List.length_range] at this
theorem cntT_congr {f h : Nat → Bool} {n : Nat} (e : ∀ i, i < n → f i = h i) : cntT f n = cntT h n := by
  unfold cntT
  rw [List.filter_congr (fun x hx => e x (List.mem_range.1 hx))]
theorem cntT_set (f : Nat → Bool) (m : Nat) : ∀ n, m < n → cntT (fun i => if i = m then true else f i) n = cntT f n + if f m then 0 else 1
  | 0, h => by omega
  | n + 1, h => by
    rw [cntT_succ, cntT_succ]
    rcases Nat.lt_or_ge m n with h1 | h1
    · rw [cntT_set f m n h1, if_neg (show n ≠ m by omega)]; omega
    · obtain rfl : m = n := by omega
      rw [cntT_congr (h := f) (fun i hi => if_neg (by omega))]
      cases f m <;> simp
theorem cntT_mark (g : Gm) (o N : Nat) : ∀ k, o + k ≤ N → cntT (fun i => g.there i || decide (o ≤ i ∧ i < o + k)) N = cntT g.there N + gnew g o k
  | 0, h => by
    rw [show gnew g o 0 = 0 from rfl]
    refine cntT_congr fun i hi => ?_
    rw [decide_eq_false (by omega)]; simp
  | k + 1, h => by
    have e : (fun i => g.there i || decide (o ≤ i ∧ i < o + (k + 1))) = fun i => if i = o + k then true else (g.there i || decide (o ≤ i ∧ i < o + k)) := by
      funext i
      by_cases hi : i = o + k
      · subst hi; rw [if_pos rfl, decide_eq_true (by omega)]; simp
      · rw [if_neg hi]; congr 1; rw [decide_eq_decide]; omega
    rw [e, cntT_set _ (o + k) N (by omega), cntT_mark g o N k (by omega), gnew_succ]
    rw [decide_eq_false (by omega)]
    simp; omega
theorem cntT_none (n : Nat) : cntT (fun _ => false) n = 0 := by simp [cntT]
theorem gnew_there {g h : Gm} (e : g.there = h.there) (o n : Nat) : gnew g o n = gnew h o n := by unfold gnew; rw [e]

/-- What always holds of one. -/
structure GI (g : Gm) : Prop where
  many : g.many = cntT g.there 4000
  reach : g.reach ≤ 4000
  up : ∀ i, g.there i = true → i < g.reach
theorem gm0_inv : GI gm0 := ⟨(cntT_none 4000).symm, Nat.zero_le _, fun i h => by cases h⟩
theorem GI.m4 {g : Gm} (h : GI g) : g.many ≤ 4000 := by rw [h.many]; exact cntT_le _ _
theorem ghead_same (g : Gm) (p : Pk) : (ghead g p).there = g.there ∧ (ghead g p).many = g.many ∧ (ghead g p).left = g.left := by
  unfold ghead; split <;> simp
theorem gadd_left (g : Gm) (p : Pk) : (gadd g p).left = g.left := (ghead_same g p).2.2
theorem gadd_inv {g : Gm} {p : Pk} (h : GI g) (hs : p.off.toNat * 8 + p.body.size ≤ 4000) : GI (gadd g p) := by
  obtain ⟨e1, e2, _⟩ := ghead_same g p
  refine ⟨?_, ?_, fun i hi => ?_⟩
  · have e0 : ∀ G : Gm, G.there = g.there → gnew G (p.off.toNat * 8) p.body.size = gnew g (p.off.toNat * 8) p.body.size := fun G h => gnew_there h _ _
    show (ghead g p).many + gnew (ghead g p) (p.off.toNat * 8) p.body.size = cntT (fun i => (ghead g p).there i || decide (p.off.toNat * 8 ≤ i ∧ i < p.off.toNat * 8 + p.body.size)) 4000
    rw [e0 _ e1, e1, cntT_mark g (p.off.toNat * 8) 4000 p.body.size hs, e2, h.many]
  · show max g.reach (p.off.toNat * 8 + p.body.size) ≤ 4000
    have := h.reach; omega
  · have hi : ((ghead g p).there i || decide (p.off.toNat * 8 ≤ i ∧ i < p.off.toNat * 8 + p.body.size)) = true := hi
    show i < max g.reach (p.off.toNat * 8 + p.body.size)
    rw [e1, Bool.or_eq_true, decide_eq_true_eq] at hi
    rcases hi with hi | hi
    · have := h.up i hi; omega
    · omega

/-- What is open by a name, and where it lies. -/
structure Ent where
  n : Nm
  b : Nat
  g : Gm
/-- The map's datum has these entries. -/
structure DA (D : DataW Unit) (A : List Ent) : Prop where
  at_ : ∀ e ∈ A, ∀ z, D.atKey (nl e.n) z = .lit (.int .i64 (e.b : Int))
  no : ∀ n, NmWf n → (∀ e ∈ A, e.n ≠ n) → Maps.has D (nl n) = false
  size : Maps.size D = A.length
/-- A table. -/
structure Tab (W : World) (tb mb : Nat) (A : List Ent) : Prop where
  tbl : W.heap[tb]? = some (.cells #[.map (some mb)] 72 (0, 0))
  own : ∃ D, W.ownsMap Try.prog 74 gp mb A.length D ∧ DA D A
  grams : ∀ e ∈ A, GB e.b e.g W
  names : A.Pairwise (fun x y => x.n ≠ y.n)
  blocks : A.Pairwise (fun x y => x.b ≠ y.b)
  wf : ∀ e ∈ A, NmWf e.n
  inv : ∀ e ∈ A, GI e.g
  le : A.length ≤ 8
def blks (A : List Ent) : List Nat := A.map (·.b)
theorem mem_blks {A : List Ent} {k : Nat} : k ∈ blks A ↔ ∃ e ∈ A, e.b = k := by unfold blks; rw [List.mem_map]
theorem Tab.lt {W : World} {tb mb : Nat} {A : List Ent} (h : Tab W tb mb A) : tb < W.heap.size := lt_of_heap h.tbl
theorem Tab.mlt {W : World} {tb mb : Nat} {A : List Ent} (h : Tab W tb mb A) : mb < W.heap.size := by obtain ⟨D, ho, _⟩ := h.own; exact ho.lt
theorem Tab.ne1 {W : World} {tb mb : Nat} {A : List Ent} (h : Tab W tb mb A) : tb ≠ mb := fun e => by
  obtain ⟨D, ⟨es, c, hm, _⟩, _⟩ := h.own
  have := h.tbl
  rw [e, hm] at this; cases this
theorem Tab.ne2 {W : World} {tb mb : Nat} {A : List Ent} (h : Tab W tb mb A) {e : Ent} (he : e ∈ A) : e.b ≠ tb ∧ e.b ≠ mb := by
  obtain ⟨a, ha, _⟩ := h.grams e he
  constructor
  · intro c
    have := h.tbl
    rw [← c, ha] at this
    simp at this
  · intro c
    obtain ⟨D, ⟨es, cl, hm, _⟩, _⟩ := h.own
    rw [c, hm] at ha; cases ha
theorem own_on {W W' : World} {b n : Nat} {D : DataW Unit} (h : W.ownsMap Try.prog 74 gp b n D) (he : W'.heap[b]? = W.heap[b]?) : W'.ownsMap Try.prog 74 gp b n D := by
  obtain ⟨es, c, h1, h2⟩ := h
  exact ⟨es, c, he.trans h1, h2⟩
theorem own_tight {W : World} {b n : Nat} {D : DataW Unit} (h : W.ownsMap Try.prog 74 gp b n D) : W.ownsMap Try.prog 74 gp b (Maps.size D) D := by
  obtain ⟨es, c, h1, h2, h3, rfl⟩ := h
  refine ⟨es, c, h1, h2, ?_, rfl⟩
  rw [Maps.size_eq, length_sorted]; simp
theorem Tab.keep {W W' : World} {tb mb : Nat} {A : List Ent} (h : Tab W tb mb A) (h1 : W'.heap[tb]? = W.heap[tb]?) (h2 : W'.heap[mb]? = W.heap[mb]?) (h3 : ∀ k ∈ blks A, W'.heap[k]? = W.heap[k]?) : Tab W' tb mb A := by
  obtain ⟨D, ho, hd⟩ := h.own
  exact ⟨h1.trans h.tbl, ⟨D, own_on ho h2, hd⟩, fun e he => (h.grams e he).on (h3 _ (mem_blks.2 ⟨e, he, rfl⟩)), h.names, h.blocks, h.wf, h.inv, h.le⟩
theorem Tab.blt {W : World} {tb mb : Nat} {A : List Ent} (h : Tab W tb mb A) : ∀ k ∈ blks A, k < W.heap.size := fun k hk => by
  obtain ⟨e, he, rfl⟩ := mem_blks.1 hk
  exact (h.grams e he).lt
theorem Tab.on {W W' : World} {tb mb : Nat} {A : List Ent} (h : Tab W tb mb A) (hb : Below W.heap.size W W') : Tab W' tb mb A :=
  h.keep (hb.block _ h.lt) (hb.block _ h.mlt) (fun k hk => hb.block k (h.blt k hk))
theorem Tab.alloc {W : World} {tb mb : Nat} {A : List Ent} (h : Tab W tb mb A) (o : Obj) : Tab (W.alloc o) tb mb A := h.on ((Below.refl _ _).alloc (Nat.le_refl _) _)
theorem Tab.drew {W : World} {tb mb : Nat} {A : List Ent} (h : Tab W tb mb A) : Tab W.drew tb mb A := h.keep rfl rfl (fun _ _ => rfl)
theorem Tab.kp {bs : List Nat} {W W' : World} {tb mb : Nat} {A : List Ent} (h : Tab W tb mb A) (hk : Kp bs W W') (h1 : tb ∉ bs) (h2 : mb ∉ bs) (h3 : ∀ k ∈ blks A, k ∉ bs) : Tab W' tb mb A :=
  h.keep (hk.block _ h.lt h1) (hk.block _ h.mlt h2) (fun k hm => hk.block k (h.blt k hm) (h3 k hm))
theorem Tab.cell {W : World} {tb mb : Nat} {A : List Ent} (h : Tab W tb mb A) : W.cell? ⟨tb, 0, none⟩ = some (.map (some mb)) := Joins.cell_of_block h.tbl 0
theorem Tab.len {W : World} {tb mb : Nat} {A : List Ent} (h : Tab W tb mb A) (ty : TypeId) : (Builtin.len_ #[70] ty #[.map (some mb)]).run Try.prog W = .ok (.int .i64 (A.length : Int)) W := by
  obtain ⟨D, ho, hd⟩ := h.own
  rw [← hd.size]
  exact ho.len Try.underlying70 ty
/-- What is looked up by a name that is there, and by one that is not. -/
theorem Tab.look {W : World} {tb mb : Nat} {A : List Ent} (h : Tab W tb mb A) {e : Ent} (he : e ∈ A) : (Instr.lookup 70 (.map (some mb)) (nv e.n) false).run Try.prog W = .ok (.pointer (some ⟨e.b, 0, none⟩)) W := by
  obtain ⟨D, ho, hd⟩ := h.own
  obtain ⟨v, ps, h1, h2⟩ := ho.lookup law74 Try.underlying70 (zero75 W) gp_nil (nkey (h.wf e he))
  rw [hd.at_ e he] at h2
  rw [h1, gp_inv_some h2]
theorem Tab.miss {W : World} {tb mb : Nat} {A : List Ent} (h : Tab W tb mb A) {n : Nm} (hw : NmWf n) (hn : ∀ e ∈ A, e.n ≠ n) : (Instr.lookup 70 (.map (some mb)) (nv n) false).run Try.prog W = .ok (.pointer none) W := by
  obtain ⟨D, ho, hd⟩ := h.own
  obtain ⟨v, ps, h1, h2⟩ := ho.lookup law74 Try.underlying70 (zero75 W) gp_nil (nkey hw)
  rw [Maps.atKey_of_not_has (hd.no n hw hn)] at h2
  rw [h1, gp_inv_nil h2]

theorem new_any (w : World) :
    Calls Try.prog 12 #[] w fun e w' => e = .returned (.pointer (some ⟨w.heap.size + 1, 0, none⟩)) ∧ Tab w' (w.heap.size + 1) w.heap.size [] ∧ Below w.heap.size w w' := by
  have hmm := @run_makeMap Try.prog
  have T0 : Hid (Tab ((w.alloc (.map #[] 0)).alloc (.cells #[.map (some w.heap.size)] 72)) (w.heap.size + 1) w.heap.size []) := by
    refine ⟨?_, ⟨.map [], own_on (World.ownsMap_made w Try.prog 74 gp) (Below.heap_alloc _ _ _ (by simp)), ⟨(fun e he => by cases he), fun n hw hn => rfl, rfl⟩⟩, (fun e he => by cases he), List.Pairwise.nil, List.Pairwise.nil, (fun e he => by cases he), (fun e he => by cases he), by simp⟩
    have := heap_alloc_new (w.alloc (.map #[] 0)) (.cells #[.map (some w.heap.size)] 72)
    rwa [show (w.alloc (.map #[] 0)).heap.size = w.heap.size + 1 from by simp] at this
  have b0 : Below w.heap.size w ((w.alloc (.map #[] 0)).alloc (.cells #[.map (some w.heap.size)] 72)) := ((Below.refl _ _).alloc (Nat.le_refl _) _).alloc (by simp) _
  go_enter Try.func12, Try.ntmps12
  go_wp2_with fail
  go_ret
  exact ⟨rfl, T0.out, b0⟩

theorem open_any (tb mb : Nat) (A : List Ent) (w : World) (h : Tab w tb mb A) :
    Calls Try.prog 18 #[.pointer (some ⟨tb, 0, none⟩)] w fun e w' => e = .returned (.int .i64 (A.length : Int)) ∧ w' = w := by
  have c := h.cell
  have hl := fun ty => h.len ty
  generalize A.length = m at *
  go_enter Try.func18, Try.ntmps18
  go_wp2_with fail
  go_ret
  exact ⟨rfl, rfl⟩
end Go.Proofs.Ytfnmcnbiahfnfaa
