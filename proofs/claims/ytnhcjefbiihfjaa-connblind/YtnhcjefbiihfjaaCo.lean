/-
  Contracts of measure, limit (package conn); segments that are stored.
-/
import Derived.Test.YtnhcjefbiihfjaaCs
import Derived.Deep.CutBlock
namespace Go.Proofs.Ytnhcjefbiihfjaa
open Go.RowKit
open Tc (Sg gchk gv gc)
set_option linter.unusedVariables false
set_option linter.unusedSimpArgs false
section
variable {b k bx : Nat} {c : Cn} {P : Pt} {g : Sg} {w : World}
open Oq (Pc pcs pvv PB)
abbrev gzc : Array Value := #[.int .u32 0, .int .i64 0, .int .u32 0, .int .i64 0, .int .u32 0, .int .u32 0, .bool false, .bool false, .bool false, .bool false, .int .i64 0, .int .i64 0, .string ⟨#[]⟩]
theorem GB.there {b : Nat} {g : Sg} {W : World} (h : Tc.GB b g W) : W.there b 0 13 := fun j hj => by
  rw [Nat.zero_add, Joins.cell_of_block h j]
  exact ⟨by rw [Array.getElem?_eq_getElem (show j < (gc g).size from hj)]; rfl, Joins.unfrozen_of_block h j⟩
theorem segs_set {b : Nat} {C : Array Value} {W : World} (h : W.heap[b]? = some (.cells C 35 (0, 0))) (i : Nat) (v : Value) : (W.setCell ⟨b, i, none⟩ v).heap[b]? = some (.cells (C.setIfInBounds i v) 35 (0, 0)) := Joins.block_setCell (i := i) h v
theorem segs_setCells {b : Nat} (vs : List Value) : ∀ (pre old : List Value) (W : World), W.heap[b]? = some (.cells (pre ++ old).toArray 35 (0, 0)) → old.length = vs.length → (W.setCells b pre.length vs).heap[b]? = some (.cells (pre ++ vs).toArray 35 (0, 0)) := by
  induction vs with
  | nil =>
    intro pre old W h hl
    obtain rfl : old = [] := List.length_eq_zero_iff.1 hl
    exact h
  | cons v r ih =>
    intro pre old W h hl
    match old, hl with
    | o :: os, hl =>
      have h1 := segs_set h pre.length v
      have e : (pre ++ o :: os).toArray.setIfInBounds pre.length v = ((pre ++ [v]) ++ os).toArray := by simp
      rw [e] at h1
      have h2 := ih (pre ++ [v]) os _ h1 (by simpa using hl)
      have e2 : (pre ++ [v]).length = pre.length + 1 := by simp
      rw [e2] at h2
      have e3 : (pre ++ [v] ++ r) = pre ++ v :: r := by simp
      rw [e3] at h2
      exact h2
theorem GB.put {b : Nat} {g : Sg} {W : World} (h : Tc.GB b g W) (q : Sg) : Tc.GB b q (W.setCells b 0 (gcl q)) := segs_setCells (gcl q) [] (gcl g) W h rfl
theorem GB.free {b : Nat} {g : Sg} {W : World} (h : Tc.GB b g W) (i : Nat) : W.frozen? ⟨b, i, none⟩ = false := Joins.unfrozen_of_block h i
theorem GB.kp {b : Nat} {g : Sg} {W W' : World} {bs : List Nat} (h : Tc.GB b g W) (hk : Kp bs W W') (hn : b ∉ bs) : Tc.GB b g W' := (hk.block b h.lt hn).trans h
theorem seg_told (W : World) (b : Nat) (p q : Sg) (h : Tc.GB b p W) : (loadVar 35 ⟨b, 0, none⟩).run Try.prog (W.setCells b 0 (gcl q)) = .ok (gv q) (W.setCells b 0 (gcl q)) :=
  run_loadVar_mid _ _ _ 35 (gcl q) _ (World.rangeAt_setCells_same _ _ _ _ (GB.there h)) Try.underlying35 rfl infoSeg
/-- No segment. -/
def gz0 : Sg := ⟨0, 0, 0, 0, 0, 0, false, false, false, false, 0, 0, ⟨#[]⟩⟩
theorem meas_0 (h : c.beh = 0) : c.measure = { c with beh := c.o.c, snc := c.time } := by unfold Cn.measure; rw [if_pos h]
theorem meas_n (h : ¬ c.beh = 0) : c.measure = c := by unfold Cn.measure; rw [if_neg h]
set_option maxRecDepth 100000 in
set_option maxHeartbeats 1000000 in
theorem measure_any (h : CT b c P w) :
    Calls Try.prog 51 #[ptr b] w fun e w' => e = .returned (.tuple #[]) ∧ CT b c.measure P w' ∧ Up b P P w w' := by
  have HC : Hid (∀ W, CT b c P W → Calls Try.prog 65 #[ptr P.po] W fun e w' => e = .returned (.int .i64 c.o.c) ∧ w' = W) := fun W h' => Oq.q_cur h'.out
  have c22 := h.c22
  have H := Lib.hid h
  have H1 := Lib.hid h.drew
  have hS0 : w.drew.cell? ⟨b, 10, none⟩ = some (ptr P.po) ∧ w.drew.cell? ⟨b, 17, none⟩ = some (.int .i64 c.time) := ⟨h.drew.c10, h.drew.c17⟩
  have x22 : w.drew.cell? ⟨b, 22, none⟩ = some (.int .i64 c.beh) := h.drew.c22
  have x23 : w.drew.cell? ⟨b, 23, none⟩ = some (.int .i64 c.snc) := h.drew.c23
  have y22 : w.drew.frozen? ⟨b, 22, none⟩ = false := h.drew.free 22
  have y23 : w.drew.frozen? ⟨b, 23, none⟩ = false := h.drew.free 23
  have x22' := h.c22
  have x23' := h.c23
  have y22' : w.frozen? ⟨b, 22, none⟩ = false := h.free 22
  have y23' : w.frozen? ⟨b, 23, none⟩ = false := h.free 23
  have HT2 : Hid (CT b { c with beh := c.o.c, snc := c.time } P ((w.setCell ⟨b, 22, none⟩ (.int .i64 c.o.c)).setCell ⟨b, 23, none⟩ (.int .i64 c.time)).drew) := ((h.s22 c.o.c).s23 c.time).drew
  have HU2 : Hid (Up b P P w ((w.setCell ⟨b, 22, none⟩ (.int .i64 c.o.c)).setCell ⟨b, 23, none⟩ (.int .i64 c.time)).drew) := (((Up.refl _ _ _).set _ _).set _ _).then (Below.refl _ _).drew
  have hS1 : ((w.setCell ⟨b, 22, none⟩ (.int .i64 c.o.c)).setCell ⟨b, 23, none⟩ (.int .i64 c.time)).drew.cell? ⟨b, 10, none⟩ = some (ptr P.po) ∧ ((w.setCell ⟨b, 22, none⟩ (.int .i64 c.o.c)).setCell ⟨b, 23, none⟩ (.int .i64 c.time)).drew.cell? ⟨b, 17, none⟩ = some (.int .i64 c.time) := ⟨HT2.out.c10, HT2.out.c17⟩
  have HEa : Hid (∀ _ : Unit, c.beh = 0 → c.measure = { c with beh := c.o.c, snc := c.time }) := fun _ => meas_0
  have HEb : Hid (∀ _ : Unit, ¬ c.beh = 0 → c.measure = c) := fun _ => meas_n
  clear h
  by_cases h0 : c.beh = 0
  · have HE := Lib.hid (HEa.out () h0)
    rw [h0] at c22
    clear h0 HEa HEb
    go_enter Try.func51, Try.ntmps51
    go_wp2_with fail
    refine wp_region_held_drew (S := (fun W' => W'.cell? ⟨b, 10, none⟩ = some (ptr P.po) ∧ W'.cell? ⟨b, 17, none⟩ = some (.int .i64 c.time))) (by kernel_rfl) hS0 (fun hHeld => ?_)
    refine takeH (i := 0) (d := some 8) (v := ?_) rfl rfl (by kernel_rfl) (by kernel_rfl) (by kernel_rfl) (fun _ _ _ h => h) (Or.inl ⟨by rfl, ?_⟩) hHeld ?_
    rotate_left
    · intro w' hSw; (try dsimp only at hSw); go_simp; try with_reducible rfl
    simp only [Act.put, List.setIfInBounds_toArray, List.set_cons_zero, List.set_cons_succ]
    refine takeH (i := 1) (d := some 9) (v := ?_) rfl rfl (by kernel_rfl) (by kernel_rfl) (by kernel_rfl) (fun _ _ _ h => h) (Or.inl ⟨by rfl, ?_⟩) hHeld ?_
    rotate_left
    · intro w' hSw; (try dsimp only at hSw); go_simp; try with_reducible rfl
    simp only [Act.put, List.setIfInBounds_toArray, List.set_cons_zero, List.set_cons_succ]
    refine takeH (i := 2) (d := some 10) (v := ?_) rfl rfl (by kernel_rfl) (by kernel_rfl) (by kernel_rfl) (fun _ _ _ h => h) (Or.inl ⟨by rfl, ?_⟩) hHeld ?_
    rotate_left
    · intro w' hSw; (try dsimp only at hSw); go_simp; try with_reducible rfl
    simp only [Act.put, List.setIfInBounds_toArray, List.set_cons_zero, List.set_cons_succ]
    refine takeH (i := 3) (d := some 11) (v := ?_) rfl rfl (by kernel_rfl) (by kernel_rfl) (by kernel_rfl) (fun _ _ _ h => h) (Or.inl ⟨by rfl, ?_⟩) hHeld ?_
    rotate_left
    · intro w' hSw; (try dsimp only at hSw); go_simp; try with_reducible rfl
    simp only [Act.put, List.setIfInBounds_toArray, List.set_cons_zero, List.set_cons_succ]
    refine takeH (i := 4) (d := some 12) (v := ?_) rfl rfl (by kernel_rfl) (by kernel_rfl) (by kernel_rfl) (fun _ _ _ h => h) (Or.inl ⟨by rfl, ?_⟩) hHeld ?_
    rotate_left
    · intro w' hSw; (try dsimp only at hSw); have q1 := hSw.1; have q2 := hSw.2; clear hSw; go_simp; try with_reducible rfl
    simp only [Act.put, List.setIfInBounds_toArray, List.set_cons_zero, List.set_cons_succ]
    refine takeH (i := 6) (d := some 14) (v := ?_) rfl rfl (by kernel_rfl) (by kernel_rfl) (by kernel_rfl) (fun _ _ _ h => h) (Or.inl ⟨by rfl, ?_⟩) hHeld ?_
    rotate_left
    · intro w' hSw; (try dsimp only at hSw); go_simp; try with_reducible rfl
    simp only [Act.put, List.setIfInBounds_toArray, List.set_cons_zero, List.set_cons_succ]
    refine takeH (i := 7) (d := some 15) (v := ?_) rfl rfl (by kernel_rfl) (by kernel_rfl) (by kernel_rfl) (fun _ _ _ h => h) (Or.inl ⟨by rfl, ?_⟩) hHeld ?_
    rotate_left
    · intro w' hSw; (try dsimp only at hSw); go_simp; try with_reducible rfl
    simp only [Act.put, List.setIfInBounds_toArray, List.set_cons_zero, List.set_cons_succ]
    refine takeH (i := 8) (d := some 16) (v := ?_) rfl rfl (by kernel_rfl) (by kernel_rfl) (by kernel_rfl) (fun _ _ _ h => h) (Or.inl ⟨by rfl, ?_⟩) hHeld ?_
    rotate_left
    · intro w' hSw; (try dsimp only at hSw); go_simp; try with_reducible rfl
    simp only [Act.put, List.setIfInBounds_toArray, List.set_cons_zero, List.set_cons_succ]
    refine takeH (i := 9) (d := some 17) (v := ?_) rfl rfl (by kernel_rfl) (by kernel_rfl) (by kernel_rfl) (fun _ _ _ h => h) (Or.inl ⟨by rfl, ?_⟩) hHeld ?_
    rotate_left
    · intro w' hSw; (try dsimp only at hSw); have q1 := hSw.1; have q2 := hSw.2; clear hSw; go_simp; try with_reducible rfl
    simp only [Act.put, List.setIfInBounds_toArray, List.set_cons_zero, List.set_cons_succ]
    refine wpAnyH_ready (rs := [5]) (by kernel_rfl) (by simp) ?_
    refine AllReadyH.cons rfl (fun K hK => ?_) (AllReadyH.nil)
    go_simp
    refine (HC.out _ H1.out).mono ?_; rintro e w2 ⟨rfl, rfl⟩
    clear hHeld
    refine hK.out _ _ hS0 (fun hHeld => ?_)
    clear hK K
    try simp only [Act.put, List.setIfInBounds_toArray, List.set_cons_zero, List.set_cons_succ]
    refine takeH (i := 10) (d := some 18) (v := ?_) rfl rfl (by kernel_rfl) (by kernel_rfl) (by kernel_rfl) (fun _ _ _ h => h) (Or.inl ⟨by rfl, ?_⟩) hHeld ?_
    rotate_left
    · intro w' hSw; (try dsimp only at hSw); go_simp; try with_reducible rfl
    simp only [Act.put, List.setIfInBounds_toArray, List.set_cons_zero, List.set_cons_succ]
    refine takeH (i := 11) (d := some 19) (v := ?_) rfl rfl (by kernel_rfl) (by kernel_rfl) (by kernel_rfl) (fun _ _ _ h => h) (Or.inl ⟨by rfl, ?_⟩) hHeld ?_
    rotate_left
    · intro w' hSw; (try dsimp only at hSw); go_simp; try with_reducible rfl
    simp only [Act.put, List.setIfInBounds_toArray, List.set_cons_zero, List.set_cons_succ]
    refine takeH (i := 12) (d := some 20) (v := ?_) rfl rfl (by kernel_rfl) (by kernel_rfl) (by kernel_rfl) (fun _ _ _ h => h) (Or.inl ⟨by rfl, ?_⟩) hHeld ?_
    rotate_left
    · intro w' hSw; (try dsimp only at hSw); go_simp; try with_reducible rfl
    simp only [Act.put, List.setIfInBounds_toArray, List.set_cons_zero, List.set_cons_succ]
    refine wpAnyH_ready (rs := [13]) (by kernel_rfl) (by simp) ?_
    refine AllReadyH.cons rfl (fun K hK => ?_) (AllReadyH.nil)
    go_simp
    clear hHeld
    refine hK.out _ _ hS1 (fun hHeld => ?_)
    clear hK K
    try simp only [Act.put, List.setIfInBounds_toArray, List.set_cons_zero, List.set_cons_succ]
    refine wpAnyH_done (by kernel_rfl) ?_ _
    go_wp2_with fail
    refine bodyPost_end (results_none rfl _ _ _) rfl ?_
    exact ⟨rfl, by rw [HE.out]; exact HT2.out, HU2.out⟩
  · have HE := Lib.hid (HEb.out () h0)
    have d0 : (c.beh == 0) = false := by simpa using h0
    clear h0 HEa HEb
    go_enter Try.func51, Try.ntmps51
    go_wp2_with fail
    refine bodyPost_end (results_none rfl _ _ _) rfl ?_
    exact ⟨rfl, by rw [HE.out]; exact H.out, Up.refl _ _ _⟩
set_option maxHeartbeats 1000000 in
theorem limit_any (h : CT b c P w) (ok : COk k c) (hk : Few k) :
    Calls Try.prog 49 #[ptr b] w fun e w' => e = .returned (.int .i64 c.limit) ∧ ∃ m, w' = w.drewN m := by
  have HU : Hid (Calls Try.prog 66 #[ptr P.po] w fun e w' => e = .returned (.int .i64 c.o.u) ∧ w' = w) := Oq.q_una h.out
  have HZ : Hid (∀ m, Calls Try.prog 70 #[ptr P.pw] (w.drewN m) fun e w' => e = .returned (.int .i64 c.cw.size) ∧ w' = w.drewN m) := fun m => Cw.size_any _ _ _ (h.drewN m).win
  obtain ⟨b1, b2, b3, b4, b5⟩ := ok.ob hk
  have z0 := ok.wn.1
  have z1 := ok.wn.2
  have s0 : 0 ≤ c.cw.size := by have := ok.cw.s0; have := ok.cw.m0; omega
  have s1 := ok.cw.s1
  have c10 := h.c10
  have c13 := h.c13
  have c15 := h.c15
  have c27 := h.c27
  have b6 : c.o.u ≤ 1125899906842626 := by omega
  have HL : Hid (c.limit = if c.o.u = 0 then 1 else c.o.u + (if c.probe then max (min c.wnd c.cw.size) 1 else min c.wnd c.cw.size)) := rfl
  clear h ok hk b2 b3 b4 b5
  generalize c.limit = L at *
  generalize c.cw.size = sz at *
  generalize c.o.u = u at *
  by_cases h0 : u = 0
  · have HE : Hid (L = 1) := by show _ = _; rw [HL.out, if_pos h0]
    rw [h0] at HU
    clear h0 HL HZ
    go_enter Try.func49, Try.ntmps49
    go_wp2_with fail
    refine HU.out.mono ?_; rintro e w1 ⟨rfl, rfl⟩
    go_wp2_with fail
    go_ret
    exact ⟨ret_int HE.out.symm, 0, rfl⟩
  · have d0 : (u == 0) = false := by simpa using h0
    cases hp : c.probe with
    | true =>
      rw [hp] at c27
      have HE : Hid (u + max (min c.wnd sz) 1 = L) := by show _ = _; rw [HL.out, if_neg h0, hp]; rfl
      clear h0 HL hp
      go_enter Try.func49, Try.ntmps49
      go_wp2_with fail
      refine HU.out.mono ?_; rintro e w1 ⟨rfl, rfl⟩
      go_wp2_with fail
      go_quiet ((go_at_call 70; exact Calls.quiet_of_same (HZ.out _)))
      go_wp2_with fail
      go_ret
      exact ⟨ret_int (by first | exact HE.out | (rw [← HE.out]; omega)), _, rfl⟩
    | false =>
      rw [hp] at c27
      have HE : Hid (u + min c.wnd sz = L) := by show _ = _; rw [HL.out, if_neg h0, hp]; rfl
      clear h0 HL hp
      go_enter Try.func49, Try.ntmps49
      go_wp2_with fail
      refine HU.out.mono ?_; rintro e w1 ⟨rfl, rfl⟩
      go_wp2_with fail
      go_quiet ((go_at_call 70; exact Calls.quiet_of_same (HZ.out _)))
      go_wp2_with fail
      go_ret
      exact ⟨ret_int (by first | exact HE.out | (rw [← HE.out]; omega)), _, rfl⟩
end
end Go.Proofs.Ytnhcjefbiihfjaa
