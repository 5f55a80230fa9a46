/-
  Contracts of begin, Dial (package conn).
-/
import Derived.Test.YtnhcjefbiihfjaaOu
import Derived.Deep.CutBlock
namespace Go.Proofs.Ytnhcjefbiihfjaa
open Go.RowKit
open Tc (Sg gchk gv gc)
set_option linter.unusedVariables false
set_option linter.unusedSimpArgs false
section
variable {b k bx : Nat} {c : Cn} {P : Pt} {g : Sg} {w : World}
end
/-- An End in memory. -/
abbrev ecs (e : Nat × Int) : Array Value := #[.int .u32 (e.1 : Int), .int .i64 e.2]
abbrev ev (e : Nat × Int) : Value := .agg (ecs e)
def EB (b : Nat) (e : Nat × Int) (W : World) : Prop := W.heap[b]? = some (.cells (ecs e) 24 (0, 0))
theorem EB.keep {b : Nat} {e : Nat × Int} {W W' : World} (h : EB b e W) (hb : Below W.heap.size W W') : EB b e W' := (hb.block _ (lt_of_heap h)).trans h
theorem EB.c0 {b : Nat} {e : Nat × Int} {W : World} (h : EB b e W) : W.cell? ⟨b, 0, none⟩ = some (.int .u32 (e.1 : Int)) := Joins.cell_of_block h 0
theorem EB.c1 {b : Nat} {e : Nat × Int} {W : World} (h : EB b e W) : W.cell? ⟨b, 1, none⟩ = some (.int .i64 e.2) := Joins.cell_of_block h 1
def w2 (w : World) (l r : Nat × Int) : World := (w.alloc (.cells (ecs l) 24)).alloc (.cells (ecs r) 24)
theorem w2_size (w : World) (l r : Nat × Int) : (w2 w l r).heap.size = w.heap.size + 2 := by unfold w2; simp
theorem w2_l (w : World) (l r : Nat × Int) : EB w.heap.size l (w2 w l r) := (Below.heap_alloc _ _ _ (by simp)).trans (heap_alloc_new w _)
theorem w2_r (w : World) (l r : Nat × Int) : EB (w.heap.size + 1) r (w2 w l r) := by
  have := heap_alloc_new (w.alloc (.cells (ecs l) 24)) (.cells (ecs r) 24)
  simpa [EB, w2] using this
theorem w2_b (w : World) (l r : Nat × Int) : Below w.heap.size w (w2 w l r) := ((Below.refl _ _).alloc (Nat.le_refl _) _).alloc (by simp) _
def sE (w : World) (l r : Nat × Int) (W : World) : Prop :=
  W.cell? ⟨w.heap.size, 0, none⟩ = some (.int .u32 (l.1 : Int)) ∧ W.cell? ⟨w.heap.size, 1, none⟩ = some (.int .i64 l.2) ∧ W.cell? ⟨w.heap.size + 1, 0, none⟩ = some (.int .u32 (r.1 : Int)) ∧ W.cell? ⟨w.heap.size + 1, 1, none⟩ = some (.int .i64 r.2)
section
variable {w W : World} {l r : Nat × Int} {iss : Nat} {mss : Int}
theorem begin_bad (h : ¬ (1 ≤ l.2 ∧ l.2 ≤ 65535) ∨ mss < 8 ∨ 1000 < mss) :
    Calls Try.prog 20 #[ev l, ev r, .int .u32 (iss : Int), .int .i64 mss] w fun e w' => e = .returned (.tuple #[.pointer none, .int .i64 1]) ∧ Below w.heap.size w w' := by
  have HB := Lib.hid (w2_b w l r)
  have x1 : (w2 w l r).cell? ⟨w.heap.size, 1, none⟩ = some (.int .i64 l.2) := (w2_l w l r).c1
  by_cases hm : mss < 8 ∨ 1000 < mss
  · have HW := Lib.hid (Cw.new_bad mss (w2 w l r) hm)
    clear h hm
    go_enter Try.func20, Try.ntmps20
    go_wp2_with fail
    refine HW.out.mono ?_; rintro e w1 ⟨rfl, rfl⟩
    go_wp2_with fail
    go_ret2
    exact ⟨rfl, HB.out⟩
  · have HW := Lib.hid (Cw.new_ok mss (w2 w l r) (by omega) (by omega))
    have HX : Hid (∀ W, Below (w2 w l r).heap.size (w2 w l r) W → W.cell? ⟨w.heap.size, 1, none⟩ = some (.int .i64 l.2)) := fun W hb => ((w2_l w l r).keep hb).c1
    have hp : ¬ (1 ≤ l.2 ∧ l.2 ≤ 65535) := by rcases h with h | h; exact h; exact absurd h hm
    have HP : Hid (∀ W, Calls Try.prog 19 #[.int .i64 l.2] W fun e w' => e = .returned (.bool false) ∧ w' = W) := fun W => by have := cport_any l.2 W; rwa [decide_eq_false hp] at this
    have hs := w2_size w l r
    clear h hm hp
    go_enter Try.func20, Try.ntmps20
    go_wp2_with fail
    refine HW.out.mono ?_; rintro e w1 ⟨rfl, ht, hb⟩
    have y1 := HX.out _ hb
    have HB1 : Hid (Below w.heap.size w w1) := below_trans HB.out (hb.mono (by omega))
    clear ht hb hs
    go_wp2_with fail
    refine (HP.out _).mono ?_; rintro e w3 ⟨rfl, rfl⟩
    go_wp2_with fail
    go_ret2
    exact ⟨rfl, HB1.out⟩
set_option maxRecDepth 100000 in
set_option maxHeartbeats 2000000 in
theorem begin_ok (hp : 1 ≤ l.2 ∧ l.2 ≤ 65535) (hm : 8 ≤ mss ∧ mss ≤ 1000) :
    Calls Try.prog 20 #[ev l, ev r, .int .u32 (iss : Int), .int .i64 mss] w fun e w' => ∃ b P, e = .returned (.tuple #[ptr b, .int .i64 0]) ∧ CT b (Cn.fresh l.1 l.2 r.1 r.2 iss mss) P w' ∧ Below w.heap.size w w' ∧ ∀ x ∈ fp b P, w.heap.size ≤ x := by
  have HW := Lib.hid (Cw.new_ok mss (w2 w l r) hm.1 hm.2)
  have hs2 := w2_size w l r
  have HS' : Hid (∀ W, Below (w2 w l r).heap.size (w2 w l r) W → Below w.heap.size w W ∧ sE w l r W) := fun W hb =>
    ⟨below_trans (w2_b w l r) (hb.mono (by omega)), ((w2_l w l r).keep hb).c0, ((w2_l w l r).keep hb).c1, ((w2_r w l r).keep hb).c0, ((w2_r w l r).keep hb).c1⟩
  have HP : Hid (∀ W, Calls Try.prog 19 #[.int .i64 l.2] W fun e w' => e = .returned (.bool true) ∧ w' = W) := fun W => by have := cport_any l.2 W; rwa [decide_eq_true hp] at this
  have HF : Hid (∀ pw w1 po pt W, pw = (w2 w l r).heap.size → Below (w2 w l r).heap.size (w2 w l r) w1 → Cw.TB pw (Cw.wn0 mss) w1 → Below w1.heap.size w1 W → Oq.OT po (.slice none 0 0) Oq.st0 W → w1.heap.size ≤ po → Rt.TB pt Rt.tm0 W → w1.heap.size ≤ pt →
      CT W.heap.size (Cn.fresh l.1 l.2 r.1 r.2 iss mss) ⟨po, .slice none 0 0, W.heap.size, pw, pt, .slice none 0 0⟩ (W.alloc (.cells (ccs (Cn.fresh l.1 l.2 r.1 r.2 iss mss) ⟨po, .slice none 0 0, W.heap.size, pw, pt, .slice none 0 0⟩) 80)) ∧ Below w.heap.size w (W.alloc (.cells (ccs (Cn.fresh l.1 l.2 r.1 r.2 iss mss) ⟨po, .slice none 0 0, W.heap.size, pw, pt, .slice none 0 0⟩) 80)) ∧ ∀ x ∈ fp W.heap.size ⟨po, .slice none 0 0, W.heap.size, pw, pt, .slice none 0 0⟩, w.heap.size ≤ x) := by
    intro pw w1 po pt W hpw h1 ht hb ho hpo htm hpt
    have hs1 := h1.size
    have hsW := hb.size
    refine ⟨⟨heap_alloc_new _ _, ho.alloc _, fun t e => (by cases e), (ht.keep hb).keep ((Below.refl _ _).alloc (Nat.le_refl _) _), htm.keep ((Below.refl _ _).alloc (Nat.le_refl _) _), World.ownsRow_nil _ _ _ _, fun _ => rfl⟩, (below_trans (below_trans (w2_b w l r) (h1.mono (by omega))) (hb.mono (by omega))).alloc (by omega) _, fun x hx => ?_⟩
    simp [fp, rw', Value.ownBlock] at hx
    omega
  clear hp hm
  generalize hpw : (w2 w l r).heap.size = pw at HW
  go_enter Try.func20, Try.ntmps20
  go_wp2_with fail
  refine HW.out.mono ?_; rintro e w1 ⟨rfl, ht, hb⟩
  rw [← hpw] at hb
  obtain ⟨b1, q1, q2, q3, q4⟩ := HS'.out _ hb
  have HB := Lib.hid hb
  have HTB := Lib.hid ht
  have HS : Hid (∀ W, Below w1.heap.size w1 W → sE w l r W) := fun W hb' => (HS'.out _ (below_trans hb hb')).2
  have HPW := Lib.hid hpw
  have HBx : Hid (∀ W o, Below w1.heap.size w1 W → Below w1.heap.size w1 (W.alloc o)) := fun W o h => h.alloc h.size o
  have B2 : Hid (Below w1.heap.size w1 w1) := Below.refl _ _
  clear b1 hb ht hpw hs2 HW HS'
  go_wp2_with fail
  refine (HP.out _).mono ?_; rintro e w3 ⟨rfl, rfl⟩
  go_wp2_with fail
  refine wp_region_held_drew (S := (sE w l r)) (by kernel_rfl) (HS.out _ B2.out.drew) (fun hHeld => ?_)
  refine takeH (i := 0) (d := some 25) (v := ?_) rfl rfl (by kernel_rfl) (by kernel_rfl) (by kernel_rfl) (fun _ _ _ h => h) (Or.inl ⟨by rfl, ?_⟩) hHeld ?_
  rotate_left
  · intro w' hSw; (try dsimp only at hSw); obtain ⟨q1, q2, q3, q4⟩ := hSw; go_simp; try with_reducible rfl
  simp only [Act.put, List.setIfInBounds_toArray, List.set_cons_zero, List.set_cons_succ]
  refine takeH (i := 1) (d := some 26) (v := ?_) rfl rfl (by kernel_rfl) (by kernel_rfl) (by kernel_rfl) (fun _ _ _ h => h) (Or.inl ⟨by rfl, ?_⟩) hHeld ?_
  rotate_left
  · intro w' hSw; (try dsimp only at hSw); obtain ⟨q1, q2, q3, q4⟩ := hSw; go_simp; try with_reducible rfl
  simp only [Act.put, List.setIfInBounds_toArray, List.set_cons_zero, List.set_cons_succ]
  refine takeH (i := 2) (d := some 27) (v := ?_) rfl rfl (by kernel_rfl) (by kernel_rfl) (by kernel_rfl) (fun _ _ _ h => h) (Or.inl ⟨by rfl, ?_⟩) hHeld ?_
  rotate_left
  · intro w' hSw; (try dsimp only at hSw); go_simp; try with_reducible rfl
  simp only [Act.put, List.setIfInBounds_toArray, List.set_cons_zero, List.set_cons_succ]
  refine takeH (i := 3) (d := some 28) (v := ?_) rfl rfl (by kernel_rfl) (by kernel_rfl) (by kernel_rfl) (fun _ _ _ h => h) (Or.inl ⟨by rfl, ?_⟩) hHeld ?_
  rotate_left
  · intro w' hSw; (try dsimp only at hSw); go_simp; try with_reducible rfl
  simp only [Act.put, List.setIfInBounds_toArray, List.set_cons_zero, List.set_cons_succ]
  refine takeH (i := 4) (d := some 29) (v := ?_) rfl rfl (by kernel_rfl) (by kernel_rfl) (by kernel_rfl) (fun _ _ _ h => h) (Or.inl ⟨by rfl, ?_⟩) hHeld ?_
  rotate_left
  · intro w' hSw; (try dsimp only at hSw); go_simp; try with_reducible rfl
  simp only [Act.put, List.setIfInBounds_toArray, List.set_cons_zero, List.set_cons_succ]
  refine takeH (i := 6) (d := some 31) (v := ?_) rfl rfl (by kernel_rfl) (by kernel_rfl) (by kernel_rfl) (fun _ _ _ h => h) (Or.inl ⟨by rfl, ?_⟩) hHeld ?_
  rotate_left
  · intro w' hSw; (try dsimp only at hSw); go_simp; try with_reducible rfl
  simp only [Act.put, List.setIfInBounds_toArray, List.set_cons_zero, List.set_cons_succ]
  refine wpAnyH_ready (rs := [5]) (by kernel_rfl) (by simp) ?_
  refine AllReadyH.cons rfl (fun K hK => ?_) (AllReadyH.nil)
  go_simp
  refine (Oq.new_any _).mono ?_; rintro e w5 ⟨rfl, ho5, hb5⟩
  have B5 := Lib.hid (below_trans B2.out.drew hb5)
  have O5 := Lib.hid ho5
  clear ho5
  clear hHeld
  refine hK.out _ _ (HS.out _ B5.out) (fun hHeld => ?_)
  clear hK K
  try simp only [Act.put, List.setIfInBounds_toArray, List.set_cons_zero, List.set_cons_succ]
  refine wpAnyH_ready (rs := [7]) (by kernel_rfl) (by simp) ?_
  refine AllReadyH.cons rfl (fun K hK => ?_) (AllReadyH.nil)
  go_simp
  refine (Rt.new_any _).mono ?_; rintro e w6 ⟨rfl, ht6, hb6⟩
  have B6 := Lib.hid (below_trans B5.out hb6)
  have O6 := Lib.hid (O5.out.keep hb6)
  have T6 := Lib.hid ht6
  have hn6 := hb6.size
  have hl5 := O5.out.lt
  clear ht6
  clear hHeld
  refine hK.out _ _ (HS.out _ B6.out) (fun hHeld => ?_)
  clear hK K
  try simp only [Act.put, List.setIfInBounds_toArray, List.set_cons_zero, List.set_cons_succ]
  refine takeH (i := 8) (d := some 33) (v := ?_) rfl rfl (by kernel_rfl) (by kernel_rfl) (by kernel_rfl) (fun _ _ _ h => h) (Or.inl ⟨by rfl, ?_⟩) hHeld ?_
  rotate_left
  · intro w' hSw; (try dsimp only at hSw); go_simp; try with_reducible rfl
  simp only [Act.put, List.setIfInBounds_toArray, List.set_cons_zero, List.set_cons_succ]
  refine wpAnyH_ready (rs := [9]) (by kernel_rfl) (by simp) ?_
  refine AllReadyH.cons rfl (fun K hK => ?_) (AllReadyH.nil)
  go_simp
  clear hHeld
  refine hK.out _ _ (HS.out _ (HBx.out _ _ B6.out)) (fun hHeld => ?_)
  clear hK K
  try simp only [Act.put, List.setIfInBounds_toArray, List.set_cons_zero, List.set_cons_succ]
  refine takeH (i := 10) (d := some 8) (v := ?_) rfl rfl (by kernel_rfl) (by kernel_rfl) (by kernel_rfl) (fun _ _ _ h => h) (Or.inl ⟨by rfl, ?_⟩) hHeld ?_
  rotate_left
  · intro w' hSw; (try dsimp only at hSw); go_simp; try with_reducible rfl
  simp only [Act.put, List.setIfInBounds_toArray, List.set_cons_zero, List.set_cons_succ]
  refine takeH (i := 11) (d := some 9) (v := ?_) rfl rfl (by kernel_rfl) (by kernel_rfl) (by kernel_rfl) (fun _ _ _ h => h) (Or.inl ⟨by rfl, ?_⟩) hHeld ?_
  rotate_left
  · intro w' hSw; (try dsimp only at hSw); go_simp; try with_reducible rfl
  simp only [Act.put, List.setIfInBounds_toArray, List.set_cons_zero, List.set_cons_succ]
  refine wpAnyH_done (by kernel_rfl) ?_ _
  go_wp2_with fail
  go_ret2
  exact ⟨_, _, rfl, HF.out _ _ _ _ _ HPW.out.symm HB.out HTB.out B6.out O6.out (Nat.le_refl _) T6.out B5.out.size⟩
end
end Go.Proofs.Ytnhcjefbiihfjaa
