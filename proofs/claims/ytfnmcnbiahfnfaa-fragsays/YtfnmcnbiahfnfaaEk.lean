/-
  Both tables over one memory.
-/
import Derived.Test.YtfnmcnbiahfnfaaEe
import Derived.Test.YtfnmcnbiahfnfaaLs
namespace Go.Proofs.Ytfnmcnbiahfnfaa
open Go.RowKit
set_option linter.unusedVariables false
set_option linter.unusedSimpArgs false

/-- The table and the document's, both new since w. -/
structure Two (w W : World) (tb mb ub : Nat) (A : List Ent) (s : Value) (U : List DE) : Prop where
  tab : Tab W tb mb A
  ut : UT W ub w.heap.size s U
  be : Below w.heap.size w W
  lo : ∀ k ∈ mb :: blks A, w.heap.size ≤ k
  ulo : w.heap.size ≤ ub
  ap : ∀ k, ublk ub s U k → k ≠ tb ∧ k ∉ mb :: blks A
section
variable {w W W' : World} {tb mb ub : Nat} {A A' : List Ent} {s s' : Value} {U U' : List DE}
theorem Two.on (h : Two w W tb mb ub A s U) (hb : Below W.heap.size W W') : Two w W' tb mb ub A s U :=
  ⟨h.tab.on hb, h.ut.on hb, h.be.trans (hb.mono h.be.size), h.lo, h.ulo, h.ap⟩
theorem Two.alloc (h : Two w W tb mb ub A s U) (o : Obj) : Two w (W.alloc o) tb mb ub A s U := h.on ((Below.refl _ _).alloc (Nat.le_refl _) _)
theorem Two.t (h : Two w W tb mb ub A s U) (ht : Tab W' tb mb A') (hk : Kp (mb :: blks A) W W') (hs : ∀ k ∈ blks A', k ∈ blks A ∨ W.heap.size ≤ k) : Two w W' tb mb ub A' s U := by
  refine ⟨ht, h.ut.keep fun k hu => hk.block k (h.ut.blt k hu) (h.ap k hu).2, h.be.trans (hk.below h.be.size h.lo), fun k hm => ?_, h.ulo, fun k hu => ⟨(h.ap k hu).1, fun hm => ?_⟩⟩
  · rcases List.mem_cons.1 hm with rfl | hm
    · exact h.lo _ (by simp)
    · rcases hs k hm with h1 | h1
      · exact h.lo k (by simp [h1])
      · have := h.be.size; omega
  · rcases List.mem_cons.1 hm with rfl | hm
    · exact (h.ap k hu).2 (by simp)
    · rcases hs k hm with h1 | h1
      · exact (h.ap k hu).2 (by simp [h1])
      · have := h.ut.blt k hu; omega
theorem Two.ublo (h : Two w W tb mb ub A s U) : ∀ k ∈ ub :: s.ownBlock.toList, w.heap.size ≤ k := fun k hk => by
  rcases List.mem_cons.1 hk with rfl | hk
  · exact h.ulo
  · exact (h.ut.row.lt k (by simpa using hk)).1
theorem Two.u (h : Two w W tb mb ub A s U) (hu : UT W' ub w.heap.size s' U') (hk : Kp (ub :: s.ownBlock.toList) W W') (hn : ∀ b, ublk ub s' U' b → ublk ub s U b ∨ W.heap.size ≤ b) : Two w W' tb mb ub A s' U' := by
  have hin : ∀ k ∈ ub :: s.ownBlock.toList, ublk ub s U k := fun k hm => by
    rcases List.mem_cons.1 hm with rfl | hm
    · exact Or.inl rfl
    · exact Or.inr (Or.inl (by simpa using hm))
  have htb : tb ∉ ub :: s.ownBlock.toList := fun hm => (h.ap _ (hin _ hm)).1 rfl
  have hmb : ∀ k ∈ mb :: blks A, k ∉ ub :: s.ownBlock.toList := fun k hm hc => (h.ap _ (hin _ hc)).2 hm
  refine ⟨h.tab.kp hk htb (hmb _ (by simp)) (fun k hm => hmb k (by simp [hm])), hu, h.be.trans (hk.below h.be.size h.ublo), h.lo, h.ulo, fun k hk' => ?_⟩
  rcases hn k hk' with h1 | h1
  · exact h.ap k h1
  · refine ⟨fun e => ?_, fun hm => ?_⟩
    · have := h.tab.lt; omega
    · rcases List.mem_cons.1 hm with rfl | hm
      · have := h.tab.mlt; omega
      · have := h.tab.blt k hm; omega
end
/-- The document's table, just made. -/
theorem Two.new {w W : World} {tb mb : Nat} (ht : Tab W tb mb []) (hb : Below w.heap.size w W) (hm : w.heap.size ≤ mb) : Two w (W.alloc (.cells #[.slice none 0 0] 37)) tb mb W.heap.size [] (.slice none 0 0) [] := by
  refine ⟨ht.alloc _, ⟨heap_alloc_new _ _, World.ownsRow_nil _ _ _ _, (fun e he => by cases he), by simp [Value.ownBlock], (fun e he => by cases he)⟩, hb.alloc hb.size _, fun k hk => ?_, hb.size, fun k hk => ?_⟩
  · simp [blks] at hk
    subst hk; exact hm
  · rcases hk with rfl | hk | ⟨e, he, _⟩
    · refine ⟨fun e => ?_, fun hc => ?_⟩
      · have := ht.lt; omega
      · simp [blks] at hc
        have := ht.mlt
        omega
    · simp [Value.ownBlock] at hk
    · cases he
theorem abs_len (A : List Ent) : (abs A).length = A.length := by simp [abs]
theorem abs_pd {A : List Ent} (h : A.Pairwise (fun x y => x.n ≠ y.n)) : PD (abs A) := by
  unfold PD abs
  rw [List.pairwise_map]
  exact h
theorem sim_left {A : List Ent} {U : List DE} (h : Sim (abs A) U) : ∀ e ∈ A, 0 ≤ e.g.left ∧ e.g.left ≤ 1000 := fun e he => by
  obtain ⟨i, hi, e1⟩ := List.mem_iff_getElem.1 he
  have hl := h.len
  rw [abs_len] at hl
  have h1 : (abs A)[i]? = some (e.n, e.g) := by unfold abs; rw [List.getElem?_map, List.getElem?_eq_getElem hi, e1]; rfl
  have h2 := h.get h1 (List.getElem?_eq_getElem (show i < U.length by omega))
  have h3 := h2.left
  have h4 := h2.lo
  have h5 := h2.hi
  have h3 : e.g.left = 30 - (U[i]'(by omega)).age := h3
  omega
theorem sim_age {C : List (Nm × Gm)} {U : List DE} (h : Sim C U) : ∀ e ∈ U, 0 ≤ e.age ∧ e.age < 30 := fun e he => by
  obtain ⟨b, _, h1⟩ := h.mem he
  exact ⟨h1.lo, h1.hi⟩
set_option maxHeartbeats 400000 in
theorem dtick_neg (ub : Nat) (n : Int) (w : World) (hn : n < 0) :
    Calls Try.prog 15 #[.pointer (some ⟨ub, 0, none⟩), .int .i64 n] w fun e w' => e = .returned (.int .i64 1) ∧ w' = w := by
  go_enter Try.func15, Try.ntmps15
  go_wp2_with fail
  go_ret
  exact ⟨rfl, rfl⟩
set_option maxHeartbeats 400000 in
theorem of_any (cs : List Value) (s : Stp) (w : World) (h : StpCells cs s) :
    Calls Try.prog 14 #[.agg cs.toArray, .int .i64 6] w fun e w' => e = .returned (.int .i64 (s.kind % 6)) ∧ Below w.heap.size w w' := by
  have HR : Hid (∀ w', Calls Try.prog 21 #[.int .i64 s.kind, .int .i64 6] w' fun e w'' => e = .returned (.int .i64 (s.kind % 6)) ∧ w'' = w') := fun w' => rest_any s.kind 6 w' (by omega) (by omega) h.k1 h.k2
  have c0 : (w.alloc (.cells cs.toArray 50)).cell? ⟨w.heap.size, 0, none⟩ = some (.int .i64 s.kind) := by
    rw [Joins.cell_of_block (heap_alloc_new w _) 0, List.getElem?_toArray]; exact h.c0
  have b0 : Below w.heap.size w (w.alloc (.cells cs.toArray 50)) := (Below.refl _ _).alloc (Nat.le_refl _) _
  generalize s.kind % 6 = r at *
  go_enter Try.func14, Try.ntmps14
  go_wp2_with fail
  refine (HR.out _).mono ?_; rintro e w1 ⟨rfl, rfl⟩
  go_wp2_with fail
  go_ret
  exact ⟨rfl, b0⟩
end Go.Proofs.Ytfnmcnbiahfnfaa
