/-
  A block that holds a datagram; contract of Write (package udp).
-/
import Derived.Test.YtaijmccdlffjhaaGr
namespace Go.Proofs.Ytaijmccdlffjhaa
open Go.RowKit
set_option linter.unusedVariables false
set_option linter.unusedSimpArgs false

/-- A block that holds a datagram. -/
def GB (b : Nat) (g : Gr) (W : World) : Prop := W.heap[b]? = some (.cells (gc g) 26 (0, 0))
theorem GB.keep {b : Nat} {g : Gr} {W W1 : World} (h : GB b g W) (hb : Below W.heap.size W W1) : GB b g W1 := (hb.block _ (lt_of_heap h)).trans h
theorem GB.new (w : World) (g : Gr) : GB w.heap.size g (w.alloc (.cells (gc g) 26)) := heap_alloc_new _ _
theorem GB.lt {b : Nat} {g : Gr} {W : World} (h : GB b g W) : b < W.heap.size := lt_of_heap h
theorem GB.alloc {b : Nat} {g : Gr} {W : World} (h : GB b g W) (o : Obj) : GB b g (W.alloc o) := (Below.heap_alloc _ _ _ h.lt).trans h
theorem GB.drew {b : Nat} {g : Gr} {W : World} (h : GB b g W) : GB b g W.drew := h
theorem GB.c0 {b : Nat} {g : Gr} {W : World} (h : GB b g W) : W.cell? ⟨b, 0, none⟩ = some (.int .u32 (g.sa : Int)) := Joins.cell_of_block h 0
theorem GB.c1 {b : Nat} {g : Gr} {W : World} (h : GB b g W) : W.cell? ⟨b, 1, none⟩ = some (.int .i64 g.sp) := Joins.cell_of_block h 1
theorem GB.c2 {b : Nat} {g : Gr} {W : World} (h : GB b g W) : W.cell? ⟨b, 2, none⟩ = some (.int .u32 (g.da : Int)) := Joins.cell_of_block h 2
theorem GB.c3 {b : Nat} {g : Gr} {W : World} (h : GB b g W) : W.cell? ⟨b, 3, none⟩ = some (.int .i64 g.dp) := Joins.cell_of_block h 3
theorem GB.c4 {b : Nat} {g : Gr} {W : World} (h : GB b g W) : W.cell? ⟨b, 4, none⟩ = some (.string g.body) := Joins.cell_of_block h 4

/-- The fields ahead of the check sum. -/
def uf (g : Gr) : ByteArray := wd g.sp.toNat ++ wd g.dp.toNat ++ wd (8 + g.body.size)
theorem uf_sz (g : Gr) : (uf g).size = 6 := by unfold uf; simp only [ByteArray.size_append, wd_sz]
/-- The check sum of a datagram. -/
def us (g : Gr) : Nat := cs g.sa g.da (uf g) g.body
/-- The bytes of a datagram. -/
def uw (g : Gr) : ByteArray := uf g ++ wd (us g) ++ g.body
theorem uw_sz (g : Gr) : (uw g).size = 8 + g.body.size := by unfold uw; simp only [ByteArray.size_append, uf_sz, wd_sz]

theorem write_bad (g : Gr) (w : World) (h : gchk g ≠ 0) :
    Calls Try.prog 7 #[gv g] w fun e w' => e = .returned (.tuple #[.string ⟨#[]⟩, .int .i64 (gchk g)]) ∧ Below w.heap.size w w' := by
  have HC : Hid (∀ w', Calls Try.prog 9 #[gv g] w' fun e w'' => e = .returned (.int .i64 (gchk g)) ∧ Below w'.heap.size w' w'') := fun w' => gchk_any g w'
  have b0 : Below w.heap.size w (w.alloc (.cells (gc g) 26)) := (Below.refl _ _).alloc (Nat.le_refl _) _
  generalize gchk g = c at *
  have hne : (c != 0) = true := by simpa using h
  go_enter Try.func7, Try.ntmps7
  go_wp2_with fail
  refine (HC.out _).mono ?_; rintro e w1 ⟨rfl, hb1⟩
  go_wp2
  go_ret2
  exact ⟨rfl, b0.trans (hb1.mono (by simp))⟩

set_option maxHeartbeats 2000000 in
theorem write_ok (g : Gr) (w : World) (h : gchk g = 0) (hsa : g.sa < 4294967296) (hda : g.da < 4294967296) :
    Calls Try.prog 7 #[gv g] w fun e w' => e = .returned (.tuple #[.string (uw g), .int .i64 0]) ∧ Below w.heap.size w w' := by
  obtain ⟨p1, p2, p3, p4, hs⟩ := gchk_ok h
  have HC : Hid (∀ w', Calls Try.prog 9 #[gv g] w' fun e w'' => e = .returned (.int .i64 0) ∧ Below w'.heap.size w' w'') := fun w' => by
    have := gchk_any g w'
    rwa [h] at this
  have HA : Hid (∀ w', Calls Try.prog 15 #[.int .i64 g.sp] w' fun e w'' => e = .returned (.string (wd g.sp.toNat)) ∧ Below w'.heap.size w' w'') := fun w' => utwoN _ _ (by omega) (by omega) w'
  have HB : Hid (∀ w', Calls Try.prog 15 #[.int .i64 g.dp] w' fun e w'' => e = .returned (.string (wd g.dp.toNat)) ∧ Below w'.heap.size w' w'') := fun w' => utwoN _ _ (by omega) (by omega) w'
  have HL : Hid (∀ q w', q = ((8 + g.body.size : Nat) : Int) → Calls Try.prog 15 #[.int .i64 q] w' fun e w'' => e = .returned (.string (wd (8 + g.body.size))) ∧ Below w'.heap.size w' w'') := fun q w' hq => utwoN _ _ hq (by omega) w'
  have HK : Hid (∀ w', Calls Try.prog 16 #[.int .u32 (g.sa : Int), .int .u32 (g.da : Int), .string (uf g), .string g.body] w' fun e w'' => e = .returned (.int .i64 (us g : Int)) ∧ Below w'.heap.size w' w'') := fun w' => checkSum_any _ _ _ _ w' hsa hda (by rw [uf_sz]; omega) (by omega)
  have hus : us g ≤ 65535 := cs_le _ _ _ _
  have HS : Hid (∀ w', Calls Try.prog 15 #[.int .i64 (us g : Int)] w' fun e w'' => e = .returned (.string (wd (us g))) ∧ Below w'.heap.size w' w'') := fun w' => utwoN _ _ rfl hus w'
  have t1 : ∀ w', (Op.stringOp .add (wd g.sp.toNat) (wd g.dp.toNat)).run Try.prog w' = .ok (.string (wd g.sp.toNat ++ wd g.dp.toNat)) w' := fun w' => run_string_add_sum w' _ _ (by simp only [wd_sz]; omega)
  have t2 : ∀ w', (Op.stringOp .add (wd g.sp.toNat ++ wd g.dp.toNat) (wd (8 + g.body.size))).run Try.prog w' = .ok (.string (uf g)) w' := fun w' => run_string_add_sum w' _ _ (by simp only [ByteArray.size_append, wd_sz]; omega)
  have t3 : ∀ w', (Op.stringOp .add (uf g) (wd (us g))).run Try.prog w' = .ok (.string (uf g ++ wd (us g))) w' := fun w' => run_string_add_sum w' _ _ (by simp only [uf_sz, wd_sz]; omega)
  have t4 : ∀ w', (Op.stringOp .add (uf g ++ wd (us g)) g.body).run Try.prog w' = .ok (.string (uw g)) w' := fun w' => run_string_add_sum w' _ _ (by simp only [ByteArray.size_append, uf_sz, wd_sz]; omega)
  have b0 : Below w.heap.size w (w.alloc (.cells (gc g) 26)) := (Below.refl _ _).alloc (Nat.le_refl _) _
  have P0 := Lib.hid (GB.new w g)
  have v1 : IntKind.i64.wrap (8 + (g.body.size : Int)) = 8 + (g.body.size : Int) := wraps_i64 _ (by omega) (by omega)
  generalize uw g = R at *
  generalize uf g ++ wd (us g) = R1 at *
  generalize wd (us g) = X at *
  generalize us g = U at *
  generalize uf g = F at *
  generalize wd g.sp.toNat ++ wd g.dp.toNat = F1 at *
  generalize wd (8 + g.body.size) = A3 at *
  generalize wd g.sp.toNat = A1 at *
  generalize wd g.dp.toNat = A2 at *
  clear h
  go_enter Try.func7, Try.ntmps7
  go_wp2_with fail
  refine (HC.out _).mono ?_; rintro e w1 ⟨rfl, hb1⟩
  have P1 := Lib.hid (P0.out.keep hb1)
  have b1 := b0.trans (hb1.mono (by simp))
  go_wp2_with fail
  refine wp_region_held_drew (S := fun w' => Hid (GB w.heap.size g w')) (by kernel_rfl) (Lib.hid P1.out.drew) (fun hHeld => ?_)
  refine takeH (i := 0) (d := some 12) (v := ?_) rfl rfl (by kernel_rfl) (by kernel_rfl) (by kernel_rfl) (fun _ _ _ h => h) (Or.inl ⟨by rfl, ?_⟩) hHeld ?_
  rotate_left
  · intro w' hSw; (try dsimp only at hSw); go_simp; try with_reducible rfl
  simp only [Act.put, List.setIfInBounds_toArray, List.set_cons_zero, List.set_cons_succ]
  refine takeH (i := 1) (d := some 13) (v := ?_) rfl rfl (by kernel_rfl) (by kernel_rfl) (by kernel_rfl) (fun _ _ _ h => h) (Or.inl ⟨by rfl, ?_⟩) hHeld ?_
  rotate_left
  · intro w' hSw; (try dsimp only at hSw); go_simp; try with_reducible rfl
  simp only [Act.put, List.setIfInBounds_toArray, List.set_cons_zero, List.set_cons_succ]
  refine takeH (i := 4) (d := some 16) (v := ?_) rfl rfl (by kernel_rfl) (by kernel_rfl) (by kernel_rfl) (fun _ _ _ h => h) (Or.inl ⟨by rfl, ?_⟩) hHeld ?_
  rotate_left
  · intro w' hSw; (try dsimp only at hSw); go_simp; try with_reducible rfl
  simp only [Act.put, List.setIfInBounds_toArray, List.set_cons_zero, List.set_cons_succ]
  refine takeH (i := 5) (d := some 17) (v := ?_) rfl rfl (by kernel_rfl) (by kernel_rfl) (by kernel_rfl) (fun _ _ _ h => h) (Or.inl ⟨by rfl, ?_⟩) hHeld ?_
  rotate_left
  · intro w' hSw; (try dsimp only at hSw); go_simp; try with_reducible rfl
  simp only [Act.put, List.setIfInBounds_toArray, List.set_cons_zero, List.set_cons_succ]
  refine takeH (i := 9) (d := some 21) (v := ?_) rfl rfl (by kernel_rfl) (by kernel_rfl) (by kernel_rfl) (fun _ _ _ h => h) (Or.inl ⟨by rfl, ?_⟩) hHeld ?_
  rotate_left
  · intro w' hSw; (try dsimp only at hSw); go_simp; try with_reducible rfl
  simp only [Act.put, List.setIfInBounds_toArray, List.set_cons_zero, List.set_cons_succ]
  refine takeH (i := 2) (d := some 14) (v := ?_) rfl rfl (by kernel_rfl) (by kernel_rfl) (by kernel_rfl) (fun _ _ _ h => h) (Or.inl ⟨by rfl, ?_⟩) hHeld ?_
  rotate_left
  · intro w' hSw; (try dsimp only at hSw); have hc := hSw.out.c1; clear hSw; go_simp; try with_reducible rfl
  simp only [Act.put, List.setIfInBounds_toArray, List.set_cons_zero, List.set_cons_succ]
  refine takeH (i := 6) (d := some 18) (v := ?_) rfl rfl (by kernel_rfl) (by kernel_rfl) (by kernel_rfl) (fun _ _ _ h => h) (Or.inl ⟨by rfl, ?_⟩) hHeld ?_
  rotate_left
  · intro w' hSw; (try dsimp only at hSw); have hc := hSw.out.c3; clear hSw; go_simp; try with_reducible rfl
  simp only [Act.put, List.setIfInBounds_toArray, List.set_cons_zero, List.set_cons_succ]
  refine takeH (i := 10) (d := some 22) (v := ?_) rfl rfl (by kernel_rfl) (by kernel_rfl) (by kernel_rfl) (fun _ _ _ h => h) (Or.inl ⟨by rfl, ?_⟩) hHeld ?_
  rotate_left
  · intro w' hSw; (try dsimp only at hSw); have hc := hSw.out.c4; clear hSw; go_simp; try with_reducible rfl
  simp only [Act.put, List.setIfInBounds_toArray, List.set_cons_zero, List.set_cons_succ]
  refine takeH (i := 11) (d := some 23) (v := ?_) rfl rfl (by kernel_rfl) (by kernel_rfl) (by kernel_rfl) (fun _ _ _ h => h) (Or.inl ⟨by rfl, ?_⟩) hHeld ?_
  rotate_left
  · intro w' hSw; (try dsimp only at hSw); go_simp; try with_reducible rfl
  simp only [Act.put, List.setIfInBounds_toArray, List.set_cons_zero, List.set_cons_succ]
  refine takeH (i := 12) (d := some 24) (v := ?_) rfl rfl (by kernel_rfl) (by kernel_rfl) (by kernel_rfl) (fun _ _ _ h => h) (Or.inl ⟨by rfl, ?_⟩) hHeld ?_
  rotate_left
  · intro w' hSw; (try dsimp only at hSw); go_simp; try with_reducible rfl
  simp only [Act.put, List.setIfInBounds_toArray, List.set_cons_zero, List.set_cons_succ]
  refine wpAnyH_ready (rs := [3]) (by kernel_rfl) (by simp) ?_
  refine AllReadyH.cons rfl (fun K hK => ?_) AllReadyH.nil
  go_simp
  refine (HA.out _).mono ?_
  rintro e u2 ⟨rfl, hb2⟩
  have Q2 := Lib.hid (hHeld.out.keep hb2)
  have b2 := b1.drew.trans (hb2.mono (Nat.le_of_lt hHeld.out.lt))
  clear hHeld hb2
  refine hK.out _ _ Q2 (fun hHeld => ?_)
  clear hK K
  try simp only [Act.put, List.setIfInBounds_toArray, List.set_cons_zero, List.set_cons_succ]
  refine wpAnyH_ready (rs := [7]) (by kernel_rfl) (by simp) ?_
  refine AllReadyH.cons rfl (fun K hK => ?_) AllReadyH.nil
  go_simp
  refine (HB.out _).mono ?_
  rintro e u3 ⟨rfl, hb3⟩
  have Q3 := Lib.hid (hHeld.out.keep hb3)
  have b3 := b2.trans (hb3.mono (Nat.le_of_lt hHeld.out.lt))
  clear hHeld hb3
  refine hK.out _ _ Q3 (fun hHeld => ?_)
  clear hK K
  try simp only [Act.put, List.setIfInBounds_toArray, List.set_cons_zero, List.set_cons_succ]
  refine takeH (i := 8) (d := some 20) (v := ?_) rfl rfl (by kernel_rfl) (by kernel_rfl) (by kernel_rfl) (fun _ _ _ h => h) (Or.inl ⟨by rfl, ?_⟩) hHeld ?_
  rotate_left
  · intro w' hSw; (try dsimp only at hSw); go_simp; try with_reducible rfl
  simp only [Act.put, List.setIfInBounds_toArray, List.set_cons_zero, List.set_cons_succ]
  refine wpAnyH_ready (rs := [13]) (by kernel_rfl) (by simp) ?_
  refine AllReadyH.cons rfl (fun K hK => ?_) AllReadyH.nil
  go_simp
  refine (HL.out _ _ ?_).mono ?_
  · omega
  rintro e u4 ⟨rfl, hb4⟩
  have Q4 := Lib.hid (hHeld.out.keep hb4)
  have b4 := b3.trans (hb4.mono (Nat.le_of_lt hHeld.out.lt))
  clear hHeld hb4
  refine hK.out _ _ Q4 (fun hHeld => ?_)
  clear hK K
  try simp only [Act.put, List.setIfInBounds_toArray, List.set_cons_zero, List.set_cons_succ]
  refine takeH (i := 14) (d := some 26) (v := ?_) rfl rfl (by kernel_rfl) (by kernel_rfl) (by kernel_rfl) (fun _ _ _ h => h) (Or.inl ⟨by rfl, ?_⟩) hHeld ?_
  rotate_left
  · intro w' hSw; (try dsimp only at hSw); go_simp; try with_reducible rfl
  simp only [Act.put, List.setIfInBounds_toArray, List.set_cons_zero, List.set_cons_succ]
  refine takeH (i := 15) (d := some 5) (v := ?_) rfl rfl (by kernel_rfl) (by kernel_rfl) (by kernel_rfl) (fun _ _ _ h => h) (Or.inl ⟨by rfl, ?_⟩) hHeld ?_
  rotate_left
  · intro w' hSw; (try dsimp only at hSw); go_simp; try with_reducible rfl
  simp only [Act.put, List.setIfInBounds_toArray, List.set_cons_zero, List.set_cons_succ]
  refine wpAnyH_done (by kernel_rfl) ?_ _
  have x0 := hHeld.out.c0
  have x2 := hHeld.out.c2
  have x4 := hHeld.out.c4
  go_wp2_with fail
  refine (HK.out _).mono ?_; rintro e w5 ⟨rfl, hb5⟩
  have P5 := Lib.hid (hHeld.out.keep hb5)
  have b5 := b4.trans (hb5.mono (Nat.le_of_lt hHeld.out.lt))
  clear x0 x2 x4 hHeld
  go_wp2_with fail
  refine wp_region_held_drew (S := fun w' => Hid (GB w.heap.size g w')) (by kernel_rfl) (Lib.hid P5.out.drew) (fun hHeld => ?_)
  refine takeH (i := 0) (d := some 37) (v := ?_) rfl rfl (by kernel_rfl) (by kernel_rfl) (by kernel_rfl) (fun _ _ _ h => h) (Or.inl ⟨by rfl, ?_⟩) hHeld ?_
  rotate_left
  · intro w' hSw; (try dsimp only at hSw); go_simp; try with_reducible rfl
  simp only [Act.put, List.setIfInBounds_toArray, List.set_cons_zero, List.set_cons_succ]
  refine takeH (i := 1) (d := some 38) (v := ?_) rfl rfl (by kernel_rfl) (by kernel_rfl) (by kernel_rfl) (fun _ _ _ h => h) (Or.inl ⟨by rfl, ?_⟩) hHeld ?_
  rotate_left
  · intro w' hSw; (try dsimp only at hSw); go_simp; try with_reducible rfl
  simp only [Act.put, List.setIfInBounds_toArray, List.set_cons_zero, List.set_cons_succ]
  refine takeH (i := 4) (d := some 41) (v := ?_) rfl rfl (by kernel_rfl) (by kernel_rfl) (by kernel_rfl) (fun _ _ _ h => h) (Or.inl ⟨by rfl, ?_⟩) hHeld ?_
  rotate_left
  · intro w' hSw; (try dsimp only at hSw); go_simp; try with_reducible rfl
  simp only [Act.put, List.setIfInBounds_toArray, List.set_cons_zero, List.set_cons_succ]
  refine takeH (i := 5) (d := some 42) (v := ?_) rfl rfl (by kernel_rfl) (by kernel_rfl) (by kernel_rfl) (fun _ _ _ h => h) (Or.inl ⟨by rfl, ?_⟩) hHeld ?_
  rotate_left
  · intro w' hSw; (try dsimp only at hSw); have hc := hSw.out.c4; clear hSw; go_simp; try with_reducible rfl
  simp only [Act.put, List.setIfInBounds_toArray, List.set_cons_zero, List.set_cons_succ]
  refine wpAnyH_ready (rs := [2]) (by kernel_rfl) (by simp) ?_
  refine AllReadyH.cons rfl (fun K hK => ?_) AllReadyH.nil
  go_simp
  refine (HS.out _).mono ?_
  rintro e u6 ⟨rfl, hb6⟩
  have Q6 := Lib.hid (hHeld.out.keep hb6)
  have b6 := b5.drew.trans (hb6.mono (Nat.le_of_lt hHeld.out.lt))
  clear hHeld hb6
  refine hK.out _ _ Q6 (fun hHeld => ?_)
  clear hK K
  try simp only [Act.put, List.setIfInBounds_toArray, List.set_cons_zero, List.set_cons_succ]
  refine takeH (i := 3) (d := some 40) (v := ?_) rfl rfl (by kernel_rfl) (by kernel_rfl) (by kernel_rfl) (fun _ _ _ h => h) (Or.inl ⟨by rfl, ?_⟩) hHeld ?_
  rotate_left
  · intro w' hSw; (try dsimp only at hSw); go_simp; try with_reducible rfl
  simp only [Act.put, List.setIfInBounds_toArray, List.set_cons_zero, List.set_cons_succ]
  refine takeH (i := 6) (d := some 43) (v := ?_) rfl rfl (by kernel_rfl) (by kernel_rfl) (by kernel_rfl) (fun _ _ _ h => h) (Or.inl ⟨by rfl, ?_⟩) hHeld ?_
  rotate_left
  · intro w' hSw; (try dsimp only at hSw); go_simp; try with_reducible rfl
  simp only [Act.put, List.setIfInBounds_toArray, List.set_cons_zero, List.set_cons_succ]
  refine takeH (i := 7) (d := some 2) (v := ?_) rfl rfl (by kernel_rfl) (by kernel_rfl) (by kernel_rfl) (fun _ _ _ h => h) (Or.inl ⟨by rfl, ?_⟩) hHeld ?_
  rotate_left
  · intro w' hSw; (try dsimp only at hSw); go_simp; try with_reducible rfl
  simp only [Act.put, List.setIfInBounds_toArray, List.set_cons_zero, List.set_cons_succ]
  refine takeH (i := 8) (d := some 3) (v := ?_) rfl rfl (by kernel_rfl) (by kernel_rfl) (by kernel_rfl) (fun _ _ _ h => h) (Or.inl ⟨by rfl, ?_⟩) hHeld ?_
  rotate_left
  · intro w' hSw; (try dsimp only at hSw); go_simp; try with_reducible rfl
  simp only [Act.put, List.setIfInBounds_toArray, List.set_cons_zero, List.set_cons_succ]
  refine wpAnyH_done (by kernel_rfl) ?_ _
  go_wp2
  go_ret2
  exact ⟨rfl, b6⟩
end Go.Proofs.Ytaijmccdlffjhaa
