/-
  Contracts of Write (package ip) and of the document's IpCheck.
-/
import Derived.Test.YtlkodoiiigndoaaHOf
import Derived.Deep.WholeRow
namespace Go.Proofs.Ytlkodoiiigndoaa
open Go.RowKit
set_option linter.unusedVariables false
set_option linter.unusedSimpArgs false

/-- The bytes of a packet. -/
def wr (p : Pk) : ByteArray := ⟨(hd p).toArray⟩ ++ p.body
/-- A block that holds a packet. -/
def PB (g : Nat) (p : Pk) (W : World) : Prop := W.heap[g]? = some (.cells (pc p) 24 (0, 0))
theorem PB.keep {g : Nat} {p : Pk} {W W1 : World} (h : PB g p W) (hb : Below W.heap.size W W1) : PB g p W1 := (hb.block _ (lt_of_heap h)).trans h
theorem PB.new (w : World) (p : Pk) : PB w.heap.size p (w.alloc (.cells (pc p) 24)) := heap_alloc_new _ _
theorem PB.range {g : Nat} {p : Pk} {W : World} (h : PB g p W) : W.rangeAt g 0 (pcl p) := World.rangeAt_of_block h 0 9
theorem PB.lt {g : Nat} {p : Pk} {W : World} (h : PB g p W) : g < W.heap.size := lt_of_heap h
theorem PB.alloc {g : Nat} {p : Pk} {W : World} (h : PB g p W) (o : Obj) : PB g p (W.alloc o) := (Below.heap_alloc _ _ _ h.lt).trans h
theorem PB.drew {g : Nat} {p : Pk} {W : World} (h : PB g p W) : PB g p W.drew := h
theorem PB.cell {g : Nat} {p : Pk} {W : World} (h : PB g p W) (i : Nat) : W.cell? ⟨g, i, none⟩ = (pc p)[i]? := Joins.cell_of_block h i
theorem hd_size (p : Pk) : (⟨(hd p).toArray⟩ : ByteArray).size = 20 := hd_len p
theorem wr_size (p : Pk) : (wr p).size = 20 + p.body.size := by unfold wr; rw [ByteArray.size_append, hd_size]
theorem conv20 (W : World) (g : Nat) (l : List UInt8) (hl : l.length = 20) (hg : W.heap[g]? = some (.cells (cb l).toArray 40 (0, 0))) : (convert 42 9 (.slice (some ⟨g, 0, none⟩) 20 20)).run Try.prog W = .ok (.string ⟨l.toArray⟩) W := by
  have := conv_row W g 20 l _ 40 hg rfl
  rwa [hl] at this

theorem cb20 (l : List UInt8) (h : l.length = 20) : (cb l).toArray.size = 20 := by simp [cb_length, h]
theorem write_bad (p : Pk) (w : World) (h : chk p ≠ 0) :
    Calls Try.prog 8 #[pv p] w fun e w' => e = .returned (.tuple #[.string ⟨#[]⟩, .int .i64 (chk p)]) ∧ Below w.heap.size w w' := by
  have HC : Hid (∀ w', Calls Try.prog 10 #[pv p] w' fun e w'' => e = .returned (.int .i64 (chk p)) ∧ Below w'.heap.size w' w'') := fun w' => pchk_any p w'
  have b0 : Below w.heap.size w (w.alloc (.cells (pc p) 24)) := (Below.refl _ _).alloc (Nat.le_refl _) _
  generalize chk p = c at *
  have hne : (c != 0) = true := by simpa using h
  go_enter Try.func8, Try.ntmps8
  go_wp2_with fail
  refine (HC.out _).mono ?_; rintro e w1 ⟨rfl, hb1⟩
  go_wp2
  go_ret2
  exact ⟨rfl, b0.trans (hb1.mono (by simp))⟩

set_option maxHeartbeats 2000000 in
theorem write_ok (p : Pk) (w : World) (h : chk p = 0) (hsrc : p.src < 4294967296) (hdst : p.dst < 4294967296) :
    Calls Try.prog 8 #[pv p] w fun e w' => e = .returned (.tuple #[.string (wr p), .int .i64 0]) ∧ Below w.heap.size w w' := by
  have hb : ¬ bads p := fun hc => by unfold chk at h; rw [if_pos hc] at h; cases h
  have hs : p.body.size ≤ 1400 := by
    unfold chk at h; rw [if_neg hb] at h
    split at h
    · cases h
    · omega
  have HC : Hid (∀ w', Calls Try.prog 10 #[pv p] w' fun e w'' => e = .returned (.int .i64 0) ∧ Below w'.heap.size w' w'') := fun w' => by
    have := pchk_any p w'
    rwa [h] at this
  have HH : Hid (∀ w', Calls Try.prog 18 #[pv p] w' fun e w'' => e = .returned (.agg (cb (hd p)).toArray) ∧ Below w'.heap.size w' w'') := fun w' => headOf_any p w' hb hs hsrc hdst
  have b0 : Below w.heap.size w (w.alloc (.cells (pc p) 24)) := (Below.refl _ _).alloc (Nat.le_refl _) _
  have P0 := Lib.hid (PB.new w p)
  have HU24 := Lib.hid Try.underlying24
  have HI24 : Hid ((Try.prog.info? 24).map (·.size) = some (pcl p).length) := info24
  have hst : ∀ W : World, (storeCells ⟨W.heap.size, 0, none⟩ (cb (hd p))).run Try.prog (W.alloc (.cells z20 40)) = .ok () (W.alloc (.cells (cb (hd p)).toArray 40)) := fun W => run_storeCells_new W 40 z20 (cb (hd p)).toArray (by rw [cb20 _ (hd_len p)]; exact info40) (by rw [cb20 _ (hd_len p)]; rfl) (all_oneCell_toArray (cb_one _))
  have hadd : ∀ w', (Op.stringOp .add (⟨(hd p).toArray⟩ : ByteArray) p.body).run Try.prog w' = .ok (.string (wr p)) w' := fun w' => run_string_add_sum w' _ _ (by rw [hd_size]; omega)
  clear hb h
  go_enter Try.func8, Try.ntmps8
  go_wp2_with fail
  refine (HC.out _).mono ?_; rintro e w1 ⟨rfl, hb1⟩
  have P1 := Lib.hid (P0.out.keep hb1)
  go_wp2_with (refine wpList_load_mid rfl _ _ rfl _ _ rfl (pcl p) _ P1.out.range HU24.out rfl HI24.out ?_)
  refine (HH.out _).mono ?_; rintro e w2 ⟨rfl, hb2⟩
  have P2 := Lib.hid (P1.out.keep hb2)
  have b2 := (b0.trans (hb1.mono (by simp))).trans (hb2.mono (Nat.le_of_lt P1.out.lt))
  go_wp2
  have A3 : Hid ((w2.alloc (.cells (cb (hd p)).toArray 40)).drew.heap[w2.heap.size]? = some (.cells (cb (hd p)).toArray 40 (0, 0))) := heap_alloc_new w2 _
  have P3 := Lib.hid ((P2.out.alloc (.cells (cb (hd p)).toArray 40)).drew)
  refine wp_region_held_drew (S := fun w' => Hid (w'.heap[w2.heap.size]? = some (.cells (cb (hd p)).toArray 40 (0, 0))) ∧ w'.cell? ⟨w.heap.size, 8, none⟩ = some (.string p.body)) (by kernel_rfl) ⟨A3, P3.out.cell 8⟩ (fun hHeld => ?_)
  refine takeH (i := 0) (d := some 13) (v := ?_) rfl rfl (by kernel_rfl) (by kernel_rfl) (by kernel_rfl) (fun _ _ _ h => h) (Or.inl ⟨by rfl, ?_⟩) hHeld ?_
  rotate_left
  · intro w' hSw; (try dsimp only at hSw); go_simp; try with_reducible rfl
  simp only [Act.put, List.setIfInBounds_toArray, List.set_cons_zero, List.set_cons_succ]
  refine takeH (i := 1) (d := some 14) (v := ?_) rfl rfl (by kernel_rfl) (by kernel_rfl) (by kernel_rfl) (fun _ _ _ h => h) (Or.inl ⟨by rfl, ?_⟩) hHeld ?_
  rotate_left
  · intro w' hSw; (try dsimp only at hSw); have hcv := conv20 w' _ (hd p) (hd_len p) hSw.1.out; go_simp; try with_reducible rfl
  simp only [Act.put, List.setIfInBounds_toArray, List.set_cons_zero, List.set_cons_succ]
  refine takeH (i := 2) (d := some 15) (v := ?_) rfl rfl (by kernel_rfl) (by kernel_rfl) (by kernel_rfl) (fun _ _ _ h => h) (Or.inl ⟨by rfl, ?_⟩) hHeld ?_
  rotate_left
  · intro w' hSw; (try dsimp only at hSw); go_simp; try with_reducible rfl
  simp only [Act.put, List.setIfInBounds_toArray, List.set_cons_zero, List.set_cons_succ]
  refine takeH (i := 3) (d := some 16) (v := ?_) rfl rfl (by kernel_rfl) (by kernel_rfl) (by kernel_rfl) (fun _ _ _ h => h) (Or.inl ⟨by rfl, ?_⟩) hHeld ?_
  rotate_left
  · intro w' hSw; (try dsimp only at hSw); obtain ⟨s1, s2⟩ := hSw; go_simp; try with_reducible rfl
  simp only [Act.put, List.setIfInBounds_toArray, List.set_cons_zero, List.set_cons_succ]
  refine takeH (i := 4) (d := some 17) (v := ?_) rfl rfl (by kernel_rfl) (by kernel_rfl) (by kernel_rfl) (fun _ _ _ h => h) (Or.inl ⟨by rfl, ?_⟩) hHeld ?_
  rotate_left
  · intro w' hSw; (try dsimp only at hSw); go_simp; try with_reducible rfl
  simp only [Act.put, List.setIfInBounds_toArray, List.set_cons_zero, List.set_cons_succ]
  refine takeH (i := 5) (d := some 2) (v := ?_) rfl rfl (by kernel_rfl) (by kernel_rfl) (by kernel_rfl) (fun _ _ _ h => h) (Or.inl ⟨by rfl, ?_⟩) hHeld ?_
  rotate_left
  · intro w' hSw; (try dsimp only at hSw); go_simp; try with_reducible rfl
  simp only [Act.put, List.setIfInBounds_toArray, List.set_cons_zero, List.set_cons_succ]
  refine takeH (i := 6) (d := some 3) (v := ?_) rfl rfl (by kernel_rfl) (by kernel_rfl) (by kernel_rfl) (fun _ _ _ h => h) (Or.inl ⟨by rfl, ?_⟩) hHeld ?_
  rotate_left
  · intro w' hSw; (try dsimp only at hSw); go_simp; try with_reducible rfl
  simp only [Act.put, List.setIfInBounds_toArray, List.set_cons_zero, List.set_cons_succ]
  refine wpAnyH_done (by kernel_rfl) ?_ _
  go_wp2
  go_ret2
  exact ⟨rfl, (b2.alloc (by have := b2.size; omega) _).drew⟩

theorem rchk_any (p : Pk) (w : World) :
    Calls Try.prog 11 #[pv p] w fun e w' => e = .returned (.int .i64 (chk p)) ∧ Below w.heap.size w w' := by
  by_cases h0 : bad p.proto 255
  · have HC : Hid (chk p = 1) := by show _ = _; unfold chk; rw [if_pos (Or.inl h0)]
    go_enter Try.func11, Try.ntmps11
    go_wp2_with (go_at_call 23; first | (refine (outside_t _ _ _ ?_).mono ?_; assumption; rintro e w' ⟨rfl, rfl⟩) | (refine (outside_f _ _ _ ?_).mono ?_; assumption; rintro e w' ⟨rfl, rfl⟩))
    go_ret
    exact ⟨ret_int HC.out.symm, (Below.refl _ _).alloc (Nat.le_refl _) _⟩
  · by_cases h1 : bad p.ttl 255
    · have HC : Hid (chk p = 1) := by show _ = _; unfold chk; rw [if_pos (Or.inr (Or.inl h1))]
      go_enter Try.func11, Try.ntmps11
      go_wp2_with (go_at_call 23; first | (refine (outside_t _ _ _ ?_).mono ?_; assumption; rintro e w' ⟨rfl, rfl⟩) | (refine (outside_f _ _ _ ?_).mono ?_; assumption; rintro e w' ⟨rfl, rfl⟩))
      go_ret
      exact ⟨ret_int HC.out.symm, (Below.refl _ _).alloc (Nat.le_refl _) _⟩
    · by_cases h2 : bad p.id 65535
      · have HC : Hid (chk p = 1) := by show _ = _; unfold chk; rw [if_pos (Or.inr (Or.inr (Or.inl h2)))]
        go_enter Try.func11, Try.ntmps11
        go_wp2_with (go_at_call 23; first | (refine (outside_t _ _ _ ?_).mono ?_; assumption; rintro e w' ⟨rfl, rfl⟩) | (refine (outside_f _ _ _ ?_).mono ?_; assumption; rintro e w' ⟨rfl, rfl⟩))
        go_ret
        exact ⟨ret_int HC.out.symm, (Below.refl _ _).alloc (Nat.le_refl _) _⟩
      · by_cases h3 : bad p.off 8191
        · have HC : Hid (chk p = 1) := by show _ = _; unfold chk; rw [if_pos (Or.inr (Or.inr (Or.inr h3)))]
          go_enter Try.func11, Try.ntmps11
          go_wp2_with (go_at_call 23; first | (refine (outside_t _ _ _ ?_).mono ?_; assumption; rintro e w' ⟨rfl, rfl⟩) | (refine (outside_f _ _ _ ?_).mono ?_; assumption; rintro e w' ⟨rfl, rfl⟩))
          go_ret
          exact ⟨ret_int HC.out.symm, (Below.refl _ _).alloc (Nat.le_refl _) _⟩
        · have hb : ¬ bads p := by unfold bads; simp [h0, h1, h2, h3]
          by_cases h4 : 1400 < p.body.size
          · have HC : Hid (chk p = 2) := by show _ = _; unfold chk; rw [if_neg hb, if_pos h4]
            clear hb
            go_enter Try.func11, Try.ntmps11
            go_wp2_with (go_at_call 23; first | (refine (outside_t _ _ _ ?_).mono ?_; assumption; rintro e w' ⟨rfl, rfl⟩) | (refine (outside_f _ _ _ ?_).mono ?_; assumption; rintro e w' ⟨rfl, rfl⟩))
            go_ret
            exact ⟨ret_int HC.out.symm, (Below.refl _ _).alloc (Nat.le_refl _) _⟩
          · have HC : Hid (chk p = 0) := by show _ = _; unfold chk; rw [if_neg hb, if_neg h4]
            clear hb
            go_enter Try.func11, Try.ntmps11
            go_wp2_with (go_at_call 23; first | (refine (outside_t _ _ _ ?_).mono ?_; assumption; rintro e w' ⟨rfl, rfl⟩) | (refine (outside_f _ _ _ ?_).mono ?_; assumption; rintro e w' ⟨rfl, rfl⟩))
            go_ret
            exact ⟨ret_int HC.out.symm, (Below.refl _ _).alloc (Nat.le_refl _) _⟩
end Go.Proofs.Ytlkodoiiigndoaa
