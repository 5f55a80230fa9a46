/-
  A step's kind as a number; what a connection bears for one step more.
-/
import Derived.Test.YtnhcjefbiihfjaaOp
import Derived.Test.YtnhcjefbiihfjaaSp
namespace Go.Proofs.Ytnhcjefbiihfjaa
open Go.RowKit
open Tc (Sg gchk gv gc)
set_option linter.unusedVariables false
set_option linter.unusedSimpArgs false
set_option maxHeartbeats 400000 in
theorem of_any (cs : List Value) (s : Stp) (m : Int) (w : World) (h : StpCells cs s) (h1 : 1 ≤ m) (hm : m ≤ 1000) :
    Calls Try.prog 8 #[.agg cs.toArray, .int .i64 m] w fun e w' => e = .returned (.int .i64 (s.kind % m)) ∧ Below w.heap.size w w' := by
  have HR : Hid (∀ w', Calls Try.prog 18 #[.int .i64 s.kind, .int .i64 m] w' fun e w'' => e = .returned (.int .i64 (s.kind % m)) ∧ w'' = w') := fun w' => rest_any s.kind m w' h1 (by omega) h.k1 h.k2
  have c0 : (w.alloc (.cells cs.toArray 41)).cell? ⟨w.heap.size, 0, none⟩ = some (.int .i64 s.kind) := by
    rw [Joins.cell_of_block (heap_alloc_new w _) 0, List.getElem?_toArray]; exact h.c0
  have b0 : Below w.heap.size w (w.alloc (.cells cs.toArray 41)) := (Below.refl _ _).alloc (Nat.le_refl _) _
  generalize s.kind % m = r at *
  go_enter Try.func8, Try.ntmps8
  go_wp2_with fail
  refine (HR.out _).mono ?_; rintro e w1 ⟨rfl, rfl⟩
  go_wp2_with fail
  go_ret
  exact ⟨rfl, b0⟩
/-- What comes makes it bear one more. -/
theorem mayAck_0 (c : Cn) (n : Nat) (a : Int) (h : (c.mayAck n a).1 = true) : (c.mayAck n a).2 = c ∨ (c.st = 2 ∧ (c.mayAck n a).2 = { c with st := if c.o.sh then 4 else 3 }) := by
  unfold Cn.mayAck at h ⊢
  split
  · rename_i h1; rw [if_pos h1] at h; cases h
  · rename_i h1
    rw [if_neg h1] at h
    split
    · rename_i h2; rw [if_pos h2] at h; cases h
    · split
      · rename_i h3; exact Or.inr ⟨h3, rfl⟩
      · exact Or.inl rfl
theorem COk.follow1 {k : Nat} {c : Cn} (h : COk k c) {g : Sg} (hs : SOk g) (hg : gchk g = 0) (hi : c.i ≠ none) : COk (k + 1) (c.follow g) := by
  have h1 := h.mayAck (n := g.ak) hs.ak (c.ackAt g) hi
  have h0 := mayAck_0 c g.ak (c.ackAt g)
  have i1 : (c.mayAck g.ak (c.ackAt g)).2.i ≠ none := by rw [mayAck_i]; exact hi
  unfold Cn.follow
  dsimp only
  split
  · rename_i hm
    have h1' : COk k (c.mayAck g.ak (c.ackAt g)).2 := by
      rcases h0 hm with e | ⟨_, e⟩
      · rw [e]; exact h
      · rw [e]; exact h.setSt _ (by split <;> decide) hi
    have h2 := h1'.takeAck hg (c.ackAt g) (c.plcAt g) (near_bd _ _)
    have i2 : ((c.mayAck g.ak (c.ackAt g)).2.takeAck g (c.ackAt g) (c.plcAt g)).i ≠ none := by rw [takeAck_i]; exact i1
    have h3 := h2.ripen i2
    split
    · exact h3
    · exact h3.takeBody g _ (by rw [ripen_i]; exact i2)
  · exact h1
theorem COk.inC1 {k : Nat} {c : Cn} (h : COk k c) {g : Sg} (hs : SOk g) : COk (k + 1) (c.inC g) := by
  unfold Cn.inC
  split
  · exact h.mono (by omega)
  · rename_i he
    obtain ⟨hg, _, h0⟩ := inE_0 (show Cn.inE c g = 0 by simpa using he)
    split
    · exact (h.inSyn hs hg).look
    · rename_i h1
      obtain ⟨t, ht⟩ := h.has h0 h1
      refine COk.look ?_
      unfold Cn.inLater
      split
      · exact (h.mono (Nat.le_succ k)).away g
      · split
        · exact (h.mono (Nat.le_succ k)).broken
        · split
          · exact (h.mono (Nat.le_succ k)).setAck true
          · split
            · exact h.follow1 hs hg (by rw [ht]; simp)
            · exact h.mono (Nat.le_succ k)
end Go.Proofs.Ytnhcjefbiihfjaa
