/-
  A table of a call's own; a step that is handed in; what In and Tick leave of the ticks that are left.
-/
import Derived.Test.YtfnmcnbiahfnfaaTi
import Derived.Test.YtfnmcnbiahfnfaaTk
namespace Go.Proofs.Ytfnmcnbiahfnfaa
open Go.RowKit Go.Maps
set_option linter.unusedVariables false
set_option linter.unusedSimpArgs false

/-- A table that is new since w. -/
structure LS (w W : World) (tb mb : Nat) (A : List Ent) : Prop where
  tab : Tab W tb mb A
  be : Below w.heap.size w W
  lo : ∀ k ∈ mb :: blks A, w.heap.size ≤ k
theorem LS.on {w W W' : World} {tb mb : Nat} {A : List Ent} (h : LS w W tb mb A) (hb : Below W.heap.size W W') : LS w W' tb mb A := ⟨h.tab.on hb, h.be.trans (hb.mono h.be.size), h.lo⟩
theorem LS.alloc {w W : World} {tb mb : Nat} {A : List Ent} (h : LS w W tb mb A) (o : Obj) : LS w (W.alloc o) tb mb A := h.on ((Below.refl _ _).alloc (Nat.le_refl _) _)
theorem LS.in {w W W' : World} {tb mb : Nat} {A A' : List Ent} (h : LS w W tb mb A) (ht : Tab W' tb mb A') (hk : Kp (mb :: blks A) W W') (hs : ∀ k ∈ blks A', k ∈ blks A ∨ W.heap.size ≤ k) : LS w W' tb mb A' := by
  refine ⟨ht, h.be.trans (hk.below h.be.size h.lo), fun k hm => ?_⟩
  rcases List.mem_cons.1 hm with rfl | hm
  · exact h.lo _ (by simp)
  · rcases hs k hm with h1 | h1
    · exact h.lo k (by simp [h1])
    · have := h.be.size; omega
theorem blks_tick {n : Int} {A : List Ent} : ∀ k ∈ blks (tickA n A), k ∈ blks A := fun k hk => by
  obtain ⟨x, hx, rfl⟩ := mem_blks.1 hk
  unfold tickA at hx
  rw [List.mem_filterMap] at hx
  obtain ⟨e, he, hx⟩ := hx
  rw [(tickE_n hx).2]
  exact mem_blks.2 ⟨e, he, rfl⟩

/-- All of them have so many ticks left. -/
def Lft (m : Int) (B : List (Nm × Gm)) : Prop := ∀ x ∈ B, x.2.left = m
theorem Lft.del {m : Int} {B : List (Nm × Gm)} (h : Lft m B) (n : Nm) : Lft m (delB B n) := fun x hx => h x (List.mem_filter.1 hx).1
theorem Lft.upd {m : Int} {B : List (Nm × Gm)} (h : Lft m B) (n : Nm) {g : Gm} (hg : g.left = m) : Lft m (updB B n g) := fun x hx => by
  obtain ⟨y, hy, rfl⟩ := List.mem_map.1 hx
  by_cases hc : y.1 = n
  · rw [if_pos hc]; exact hg
  · rw [if_neg hc]; exact h y hy
theorem Lft.put {m : Int} {B : List (Nm × Gm)} (h : Lft m B) (n : Nm) {g : Gm} (hg : g.left = m) (p : Pk) : Lft m (putB B n g p) := by
  unfold putB
  split
  · exact h.del n
  · split
    · exact h.del n
    · exact h.upd n (by rw [gadd_left]; exact hg)
theorem lookB_mem {B : List (Nm × Gm)} {n : Nm} {g : Gm} (h : lookB B n = some g) : (n, g) ∈ B := by
  induction B with
  | nil => cases h
  | cons a B ih =>
    rw [lookB] at h
    split at h
    · rename_i e
      obtain ⟨a1, a2⟩ := a
      simp only at e h
      rw [e, Option.some.inj h]; exact List.mem_cons_self
    · exact List.mem_cons_of_mem _ (ih h)
theorem Lft.inM {B : List (Nm × Gm)} (h : Lft 30 B) (p : Pk) : Lft 30 (inM B p).2 := by
  unfold Go.Proofs.Ytfnmcnbiahfnfaa.inM
  split
  · exact h
  · split
    · exact h
    · split
      · exact h
      · split
        · rename_i g hg
          exact h.put _ (h _ (lookB_mem hg)) p
        · split
          · exact h
          · refine Lft.put (fun x hx => ?_) _ rfl p
            rw [List.mem_append, List.mem_singleton] at hx
            rcases hx with hx | rfl
            · exact h x hx
            · rfl
theorem lft_abs {m : Int} {A : List Ent} (h : Lft m (abs A)) : ∀ e ∈ A, e.g.left = m := fun e he => h (e.n, e.g) (List.mem_map.2 ⟨e, he, rfl⟩)
theorem tick_some {m n : Int} {A : List Ent} (h : ∀ e ∈ A, e.g.left = m) (hn : n < m) : (tickA n A).length = A.length ∧ ∀ e ∈ tickA n A, e.g.left = m - n := by
  have e1 : tickA n A = A.map fun e => { e with g := { e.g with left := e.g.left - n } } := by
    unfold tickA
    rw [← List.filterMap_eq_map]
    refine fm_congr fun e he => ?_
    unfold tickE
    rw [if_neg (by rw [h e he]; omega)]; rfl
  rw [e1]
  refine ⟨by simp, fun x hx => ?_⟩
  obtain ⟨e, he, rfl⟩ := List.mem_map.1 hx
  show e.g.left - n = m - n
  rw [h e he]
theorem tick_none {m n : Int} {A : List Ent} (h : ∀ e ∈ A, e.g.left = m) (hn : m ≤ n) : tickA n A = [] := by
  unfold tickA
  rw [List.filterMap_eq_nil_iff]
  intro e he
  unfold tickE
  rw [if_pos (by rw [h e he]; exact hn)]

/-- The packet of a step. -/
theorem step_range {W : World} {k : Nat} {cs : List Value} {s : Stp} (h : W.heap[k]? = some (.cells cs.toArray 50 (0, 0))) (hc : StpCells cs s) : W.rangeAt k 7 (pcl s.pack) := fun j v hv => by
  rw [Joins.cell_of_block h, List.getElem?_toArray]
  have := congrArg (fun l : List Value => l[j]?) hc.c7
  simp only [List.getElem?_take, List.getElem?_drop] at this
  have hj : j < 9 := (List.getElem?_eq_some_iff.1 hv).1
  rw [if_pos hj] at this
  rw [this]; exact hv
theorem info50 : (Try.prog.info? 50).map (·.size) = some 45 := by kernel_rfl
theorem range_last (w : World) (cs : List Value) (t : TypeId) : (w.alloc (.cells cs.toArray t)).rangeAt w.heap.size 0 cs := fun j v hv => by
  rw [Joins.cell_of_block (heap_alloc_new w _)]; simpa using hv
end Go.Proofs.Ytfnmcnbiahfnfaa
