/-
  Contracts of Length, flagsOf, optionsOf (package tcp) and of the document's TcpLength.
-/
import Derived.Test.YtggoipdmiajckaaSg
namespace Go.Proofs.Ytggoipdmiajckaa
open Go.RowKit
set_option linter.unusedVariables false
set_option linter.unusedSimpArgs false

/-- How many numbers a segment takes. -/
def ln (g : Sg) : Int := (g.body.size : Int) + (g.syn.toNat : Int) + (g.fin.toNat : Int)
theorem length_any (g : Sg) (w : World) (hb : g.body.size ≤ 281474976710656) :
    Calls Try.prog 12 #[gv g] w fun e w' => e = .returned (.int .i64 (ln g)) ∧ Below w.heap.size w w' := by
  obtain ⟨sa, sp, da, dp, sq, ak, syn, ack, fin, rst, win, mss, body⟩ := g
  have hb' : body.size ≤ 281474976710656 := hb
  have v1 : IntKind.i64.wrap ((body.size : Int) + 1) = (body.size : Int) + 1 := by rw [IntKind.wrap_i64]; omega
  have v2 : IntKind.i64.wrap ((body.size : Int) + 1 + 1) = (body.size : Int) + 1 + 1 := by rw [IntKind.wrap_i64]; omega
  clear hb
  cases syn <;> cases fin
  · go_enter Try.func12, Try.ntmps12
    go_wp2
    go_ret
    exact ⟨ret_int (by simp [ln]), (Below.refl _ _).alloc (Nat.le_refl _) _⟩
  · go_enter Try.func12, Try.ntmps12
    go_wp2
    go_ret
    exact ⟨ret_int (by simp [ln]), (Below.refl _ _).alloc (Nat.le_refl _) _⟩
  · go_enter Try.func12, Try.ntmps12
    go_wp2
    go_ret
    exact ⟨ret_int (by simp [ln]), (Below.refl _ _).alloc (Nat.le_refl _) _⟩
  · go_enter Try.func12, Try.ntmps12
    go_wp2
    go_ret
    exact ⟨ret_int (by simp [ln]), (Below.refl _ _).alloc (Nat.le_refl _) _⟩

theorem rlength_any (g : Sg) (w : World) (hb : g.body.size ≤ 281474976710656) :
    Calls Try.prog 13 #[gv g] w fun e w' => e = .returned (.int .i64 (ln g)) ∧ Below w.heap.size w w' := by
  have HA : Hid (∀ w', Calls Try.prog 25 #[.bool g.syn] w' fun e w'' => e = .returned (.int .i64 (g.syn.toNat : Int)) ∧ w'' = w') := fun w' => truth_any _ w'
  have HB : Hid (∀ w', Calls Try.prog 25 #[.bool g.fin] w' fun e w'' => e = .returned (.int .i64 (g.fin.toNat : Int)) ∧ w'' = w') := fun w' => truth_any _ w'
  have l1 := Bool.toNat_le g.syn
  have l2 := Bool.toNat_le g.fin
  have HL : Hid (ln g = (g.body.size : Int) + (g.syn.toNat : Int) + (g.fin.toNat : Int)) := rfl
  have b0 : Below w.heap.size w (w.alloc (.cells (gc g) 26)) := (Below.refl _ _).alloc (Nat.le_refl _) _
  have P0 := Lib.hid (GB.new w g)
  generalize ln g = R at *
  generalize g.syn.toNat = A at *
  generalize g.fin.toNat = B at *
  have v1 : IntKind.i64.wrap ((g.body.size : Int) + (A : Int)) = (g.body.size : Int) + (A : Int) := by rw [IntKind.wrap_i64]; omega
  have v2 : IntKind.i64.wrap ((g.body.size : Int) + (A : Int) + (B : Int)) = (g.body.size : Int) + (A : Int) + (B : Int) := by rw [IntKind.wrap_i64]; omega
  go_enter Try.func13, Try.ntmps13
  go_wp2_with fail
  refine wp_region_held_drew (S := fun w' => Hid (GB w.heap.size g w')) (by kernel_rfl) (Lib.hid P0.out.drew) (fun hHeld => ?_)
  refine takeH (i := 0) (d := some 3) (v := ?_) rfl rfl (by kernel_rfl) (by kernel_rfl) (by kernel_rfl) (fun _ _ _ h => h) (Or.inl ⟨by rfl, ?_⟩) hHeld ?_
  rotate_left
  · intro w' hSw; (try dsimp only at hSw); go_simp; try with_reducible rfl
  simp only [Act.put, List.setIfInBounds_toArray, List.set_cons_zero, List.set_cons_succ]
  refine takeH (i := 3) (d := some 6) (v := ?_) rfl rfl (by kernel_rfl) (by kernel_rfl) (by kernel_rfl) (fun _ _ _ h => h) (Or.inl ⟨by rfl, ?_⟩) hHeld ?_
  rotate_left
  · intro w' hSw; (try dsimp only at hSw); go_simp; try with_reducible rfl
  simp only [Act.put, List.setIfInBounds_toArray, List.set_cons_zero, List.set_cons_succ]
  refine takeH (i := 7) (d := some 10) (v := ?_) rfl rfl (by kernel_rfl) (by kernel_rfl) (by kernel_rfl) (fun _ _ _ h => h) (Or.inl ⟨by rfl, ?_⟩) hHeld ?_
  rotate_left
  · intro w' hSw; (try dsimp only at hSw); go_simp; try with_reducible rfl
  simp only [Act.put, List.setIfInBounds_toArray, List.set_cons_zero, List.set_cons_succ]
  refine takeH (i := 1) (d := some 4) (v := ?_) rfl rfl (by kernel_rfl) (by kernel_rfl) (by kernel_rfl) (fun _ _ _ h => h) (Or.inl ⟨by rfl, ?_⟩) hHeld ?_
  rotate_left
  · intro w' hSw; (try dsimp only at hSw); have hc := hSw.out.c12; clear hSw; go_simp; try with_reducible rfl
  simp only [Act.put, List.setIfInBounds_toArray, List.set_cons_zero, List.set_cons_succ]
  refine takeH (i := 4) (d := some 7) (v := ?_) rfl rfl (by kernel_rfl) (by kernel_rfl) (by kernel_rfl) (fun _ _ _ h => h) (Or.inl ⟨by rfl, ?_⟩) hHeld ?_
  rotate_left
  · intro w' hSw; (try dsimp only at hSw); have hc := hSw.out.c6; clear hSw; go_simp; try with_reducible rfl
  simp only [Act.put, List.setIfInBounds_toArray, List.set_cons_zero, List.set_cons_succ]
  refine takeH (i := 8) (d := some 11) (v := ?_) rfl rfl (by kernel_rfl) (by kernel_rfl) (by kernel_rfl) (fun _ _ _ h => h) (Or.inl ⟨by rfl, ?_⟩) hHeld ?_
  rotate_left
  · intro w' hSw; (try dsimp only at hSw); have hc := hSw.out.c8; clear hSw; go_simp; try with_reducible rfl
  simp only [Act.put, List.setIfInBounds_toArray, List.set_cons_zero, List.set_cons_succ]
  refine takeH (i := 2) (d := some 5) (v := ?_) rfl rfl (by kernel_rfl) (by kernel_rfl) (by kernel_rfl) (fun _ _ _ h => h) (Or.inl ⟨by rfl, ?_⟩) hHeld ?_
  rotate_left
  · intro w' hSw; (try dsimp only at hSw); go_simp; try with_reducible rfl
  simp only [Act.put, List.setIfInBounds_toArray, List.set_cons_zero, List.set_cons_succ]
  refine wpAnyH_ready (rs := [5]) (by kernel_rfl) (by simp) ?_
  refine AllReadyH.cons rfl (fun K hK => ?_) AllReadyH.nil
  go_simp
  refine (HA.out _).mono ?_; rintro e u1 ⟨rfl, rfl⟩
  have Q1 := hHeld
  clear hHeld
  refine hK.out _ _ Q1 (fun hHeld => ?_)
  clear hK K
  try simp only [Act.put, List.setIfInBounds_toArray, List.set_cons_zero, List.set_cons_succ]
  refine takeH (i := 6) (d := some 9) (v := ?_) rfl rfl (by kernel_rfl) (by kernel_rfl) (by kernel_rfl) (fun _ _ _ h => h) (Or.inl ⟨by rfl, ?_⟩) hHeld ?_
  rotate_left
  · intro w' hSw; (try dsimp only at hSw); go_simp; try with_reducible rfl
  simp only [Act.put, List.setIfInBounds_toArray, List.set_cons_zero, List.set_cons_succ]
  refine wpAnyH_ready (rs := [9]) (by kernel_rfl) (by simp) ?_
  refine AllReadyH.cons rfl (fun K hK => ?_) AllReadyH.nil
  go_simp
  refine (HB.out _).mono ?_; rintro e u1 ⟨rfl, rfl⟩
  have Q2 := hHeld
  clear hHeld
  refine hK.out _ _ Q2 (fun hHeld => ?_)
  clear hK K
  try simp only [Act.put, List.setIfInBounds_toArray, List.set_cons_zero, List.set_cons_succ]
  refine takeH (i := 10) (d := some 13) (v := ?_) rfl rfl (by kernel_rfl) (by kernel_rfl) (by kernel_rfl) (fun _ _ _ h => h) (Or.inl ⟨by rfl, ?_⟩) hHeld ?_
  rotate_left
  · intro w' hSw; (try dsimp only at hSw); go_simp; try with_reducible rfl
  simp only [Act.put, List.setIfInBounds_toArray, List.set_cons_zero, List.set_cons_succ]
  refine takeH (i := 11) (d := some 2) (v := ?_) rfl rfl (by kernel_rfl) (by kernel_rfl) (by kernel_rfl) (fun _ _ _ h => h) (Or.inl ⟨by rfl, ?_⟩) hHeld ?_
  rotate_left
  · intro w' hSw; (try dsimp only at hSw); go_simp; try with_reducible rfl
  simp only [Act.put, List.setIfInBounds_toArray, List.set_cons_zero, List.set_cons_succ]
  refine wpAnyH_done (by kernel_rfl) ?_ _
  go_wp2
  go_ret
  exact ⟨ret_int HL.out.symm, b0.drew⟩

/-- The flags as a byte. -/
def fl (g : Sg) : Nat := g.fin.toNat + 2 * g.syn.toNat + 4 * g.rst.toNat + 16 * g.ack.toNat
theorem fl_le (g : Sg) : fl g ≤ 23 := by
  have := Bool.toNat_le g.fin
  have := Bool.toNat_le g.syn
  have := Bool.toNat_le g.rst
  have := Bool.toNat_le g.ack
  unfold fl; omega
set_option maxHeartbeats 2000000 in
theorem flags_any (g : Sg) (w : World) :
    Calls Try.prog 21 #[gv g] w fun e w' => e = .returned (.int .u8 (fl g : Int)) ∧ Below w.heap.size w w' := by
  obtain ⟨sa, sp, da, dp, sq, ak, syn, ack, fin, rst, win, mss, body⟩ := g
  have o_0_1 : bits BinOp.or IntKind.u8 0 1 = 1 := by decide
  have o_0_2 : bits BinOp.or IntKind.u8 0 2 = 2 := by decide
  have o_1_2 : bits BinOp.or IntKind.u8 1 2 = 3 := by decide
  have o_0_4 : bits BinOp.or IntKind.u8 0 4 = 4 := by decide
  have o_1_4 : bits BinOp.or IntKind.u8 1 4 = 5 := by decide
  have o_2_4 : bits BinOp.or IntKind.u8 2 4 = 6 := by decide
  have o_3_4 : bits BinOp.or IntKind.u8 3 4 = 7 := by decide
  have o_0_16 : bits BinOp.or IntKind.u8 0 16 = 16 := by decide
  have o_1_16 : bits BinOp.or IntKind.u8 1 16 = 17 := by decide
  have o_2_16 : bits BinOp.or IntKind.u8 2 16 = 18 := by decide
  have o_3_16 : bits BinOp.or IntKind.u8 3 16 = 19 := by decide
  have o_4_16 : bits BinOp.or IntKind.u8 4 16 = 20 := by decide
  have o_5_16 : bits BinOp.or IntKind.u8 5 16 = 21 := by decide
  have o_6_16 : bits BinOp.or IntKind.u8 6 16 = 22 := by decide
  have o_7_16 : bits BinOp.or IntKind.u8 7 16 = 23 := by decide
  cases fin <;> cases syn <;> cases rst <;> cases ack
  · go_enter Try.func21, Try.ntmps21
    go_wp2
    go_ret
    exact ⟨ret_int rfl, (Below.refl _ _).alloc (Nat.le_refl _) _⟩
  · go_enter Try.func21, Try.ntmps21
    go_wp2
    go_ret
    exact ⟨ret_int rfl, (Below.refl _ _).alloc (Nat.le_refl _) _⟩
  · go_enter Try.func21, Try.ntmps21
    go_wp2
    go_ret
    exact ⟨ret_int rfl, (Below.refl _ _).alloc (Nat.le_refl _) _⟩
  · go_enter Try.func21, Try.ntmps21
    go_wp2
    go_ret
    exact ⟨ret_int rfl, (Below.refl _ _).alloc (Nat.le_refl _) _⟩
  · go_enter Try.func21, Try.ntmps21
    go_wp2
    go_ret
    exact ⟨ret_int rfl, (Below.refl _ _).alloc (Nat.le_refl _) _⟩
  · go_enter Try.func21, Try.ntmps21
    go_wp2
    go_ret
    exact ⟨ret_int rfl, (Below.refl _ _).alloc (Nat.le_refl _) _⟩
  · go_enter Try.func21, Try.ntmps21
    go_wp2
    go_ret
    exact ⟨ret_int rfl, (Below.refl _ _).alloc (Nat.le_refl _) _⟩
  · go_enter Try.func21, Try.ntmps21
    go_wp2
    go_ret
    exact ⟨ret_int rfl, (Below.refl _ _).alloc (Nat.le_refl _) _⟩
  · go_enter Try.func21, Try.ntmps21
    go_wp2
    go_ret
    exact ⟨ret_int rfl, (Below.refl _ _).alloc (Nat.le_refl _) _⟩
  · go_enter Try.func21, Try.ntmps21
    go_wp2
    go_ret
    exact ⟨ret_int rfl, (Below.refl _ _).alloc (Nat.le_refl _) _⟩
  · go_enter Try.func21, Try.ntmps21
    go_wp2
    go_ret
    exact ⟨ret_int rfl, (Below.refl _ _).alloc (Nat.le_refl _) _⟩
  · go_enter Try.func21, Try.ntmps21
    go_wp2
    go_ret
    exact ⟨ret_int rfl, (Below.refl _ _).alloc (Nat.le_refl _) _⟩
  · go_enter Try.func21, Try.ntmps21
    go_wp2
    go_ret
    exact ⟨ret_int rfl, (Below.refl _ _).alloc (Nat.le_refl _) _⟩
  · go_enter Try.func21, Try.ntmps21
    go_wp2
    go_ret
    exact ⟨ret_int rfl, (Below.refl _ _).alloc (Nat.le_refl _) _⟩
  · go_enter Try.func21, Try.ntmps21
    go_wp2
    go_ret
    exact ⟨ret_int rfl, (Below.refl _ _).alloc (Nat.le_refl _) _⟩
  · go_enter Try.func21, Try.ntmps21
    go_wp2
    go_ret
    exact ⟨ret_int rfl, (Below.refl _ _).alloc (Nat.le_refl _) _⟩

/-- 'string(b)' of a block of bytes. -/
theorem conv_at {W : World} {k : Nat} {C : Array Value} {m : Nat × Nat} (h : W.heap[k]? = some (.cells C 5 m)) (l : List UInt8) (n cap : Nat) (hn : n = l.length) (hC : C = (l.map fun b => Value.int .u8 (b.toNat : Int)).toArray) :
    (convert 44 9 (.slice (some ⟨k, 0, none⟩) n cap)).run Try.prog W = .ok (.string ⟨l.toArray⟩) W := by
  subst hn
  refine run_convert_bytes_back _ 44 9 5 ⟨k, 0, none⟩ cap l Try.underlying44 Try.underlying5 Try.underlying9 ?_
  intro j hj
  have ha : (⟨k, 0, none⟩ : Addr).add j = ⟨k, j, none⟩ := by
    simp only [Addr.add]; split
    · subst_vars; rfl
    · simp
  rw [ha]
  refine (Joins.cell_of_block h j).trans ?_
  subst hC
  simp [List.getElem?_eq_getElem hj]

/-- What stands between the head and Body. -/
def op (m : Int) : ByteArray := if m = 0 then ⟨#[]⟩ else ⟨#[2, 4]⟩ ++ wd m.toNat
theorem op_sz (m : Int) : (op m).size = if m = 0 then 0 else 4 := by
  unfold op; split
  · rfl
  · rw [ByteArray.size_append]; rfl

theorem options_any (m : Int) (w : World) (h0 : 0 ≤ m) (h1 : m ≤ 65535) :
    Calls Try.prog 18 #[.int .i64 m] w fun e w' => e = .returned (.string (op m)) ∧ Below w.heap.size w w' := by
  by_cases hz : m = 0
  · subst hz
    go_enter Try.func18, Try.ntmps18
    go_wp2
    go_ret
    exact ⟨rfl, Below.refl _ _⟩
  · have hz' : (m == 0) = false := by simpa using hz
    have HO : Hid (op m = ⟨#[2, 4]⟩ ++ wd m.toNat) := by show _ = _; unfold op; rw [if_neg hz]
    have HT : Hid (∀ w', Calls Try.prog 19 #[.int .i64 m] w' fun e w'' => e = .returned (.string (wd m.toNat)) ∧ Below w'.heap.size w' w'') := fun w' => utwoN _ _ (by omega) (by omega) w'
    have t1 : ∀ w', (Op.stringOp .add (⟨#[2, 4]⟩ : ByteArray) (wd m.toNat)).run Try.prog w' = .ok (.string (⟨#[2, 4]⟩ ++ wd m.toNat)) w' := fun w' => run_string_add_sum w' _ _ (by rw [wd_sz]; decide)
    have HC : Hid (∀ (W : World) k, W.heap[k]? = some (.cells #[.int .u8 2, .int .u8 4] 5 (0, 0)) → (convert 44 9 (.slice (some ⟨k, 0, none⟩) 2 2)).run Try.prog W = .ok (.string ⟨#[2, 4]⟩) W) := fun W k h => conv_at h [2, 4] 2 2 rfl rfl
    generalize wd m.toNat = X at *
    generalize op m = R at *
    generalize (⟨#[2, 4]⟩ : ByteArray) = Y at *
    go_enter Try.func18, Try.ntmps18
    go_wp2_with fail
    refine wp_region_any (by kernel_rfl) ?_
    change wpAny _ _ _ _ _ _ _ (World.drew _)
    refine takeA (i := 2) (d := some 7) (v := ?_) rfl rfl (by kernel_rfl) (by kernel_rfl) (by kernel_rfl) (fun _ _ _ h => h) (Or.inl ⟨by rfl, ?_⟩) ?_
    rotate_left
    · intro w'; go_simp; try with_reducible rfl
    simp only [Act.put, List.setIfInBounds_toArray, List.set_cons_zero, List.set_cons_succ]
    refine wpAny_ready (rs := [0, 3]) (by kernel_rfl) (by simp) ?_
    refine AllReady.cons rfl (fun K hK => ?_) (AllReady.cons rfl (fun K hK => ?_) AllReady.nil)
    · go_simp
      refine hK _ _ ?_
      clear hK K
      try simp only [Act.put, List.setIfInBounds_toArray, List.set_cons_zero, List.set_cons_succ]
      have G0 : (w.alloc (.cells #[.int .u8 2, .int .u8 4] 5)).drew.heap[w.heap.size]? = some (.cells #[.int .u8 2, .int .u8 4] 5 (0, 0)) := heap_alloc_new w _
      have b0 : Below w.heap.size w (w.alloc (.cells #[.int .u8 2, .int .u8 4] 5)).drew := ((Below.refl _ _).alloc (Nat.le_refl _) _).drew
      refine wpAny_ready (rs := [1, 3]) (by kernel_rfl) (by simp) ?_
      refine AllReady.cons rfl (fun K hK => ?_) (AllReady.cons rfl (fun K hK => ?_) AllReady.nil)
      · have c1 := HC.out _ _ G0
        go_simp
        refine hK _ _ ?_
        clear hK K
        try simp only [Act.put, List.setIfInBounds_toArray, List.set_cons_zero, List.set_cons_succ]
        clear c1
        refine wpAny_ready (rs := [3]) (by kernel_rfl) (by simp) ?_
        refine AllReady.cons rfl (fun K hK => ?_) AllReady.nil
        go_simp
        refine (HT.out _).mono ?_
        rintro e w1 ⟨rfl, hb1⟩
        refine hK _ _ ?_
        clear hK K
        try simp only [Act.put, List.setIfInBounds_toArray, List.set_cons_zero, List.set_cons_succ]
        refine takeA (i := 4) (d := some 9) (v := ?_) rfl rfl (by kernel_rfl) (by kernel_rfl) (by kernel_rfl) (fun _ _ _ h => h) (Or.inl ⟨by rfl, ?_⟩) ?_
        rotate_left
        · intro w'; go_simp; try with_reducible rfl
        simp only [Act.put, List.setIfInBounds_toArray, List.set_cons_zero, List.set_cons_succ]
        refine takeA (i := 5) (d := some 2) (v := ?_) rfl rfl (by kernel_rfl) (by kernel_rfl) (by kernel_rfl) (fun _ _ _ h => h) (Or.inl ⟨by rfl, ?_⟩) ?_
        rotate_left
        · intro w'; go_simp; try with_reducible rfl
        simp only [Act.put, List.setIfInBounds_toArray, List.set_cons_zero, List.set_cons_succ]
        refine wpAny_done (by kernel_rfl) ?_ _
        go_wp2
        go_ret
        exact ⟨by rw [HO.out]; rfl, b0.trans (hb1.mono b0.size)⟩
      · go_simp
        refine (HT.out _).mono ?_; rintro e w1 ⟨rfl, hb1⟩
        refine hK _ _ ?_
        clear hK K
        try simp only [Act.put, List.setIfInBounds_toArray, List.set_cons_zero, List.set_cons_succ]
        have G1 := (hb1.block _ (lt_of_heap G0)).trans G0
        have c1 := HC.out _ _ G1
        refine wpAny_ready (rs := [1]) (by kernel_rfl) (by simp) ?_
        refine AllReady.cons rfl (fun K hK => ?_) AllReady.nil
        go_simp
        refine hK _ _ ?_
        clear hK K
        try simp only [Act.put, List.setIfInBounds_toArray, List.set_cons_zero, List.set_cons_succ]
        clear c1
        refine takeA (i := 4) (d := some 9) (v := ?_) rfl rfl (by kernel_rfl) (by kernel_rfl) (by kernel_rfl) (fun _ _ _ h => h) (Or.inl ⟨by rfl, ?_⟩) ?_
        rotate_left
        · intro w'; go_simp; try with_reducible rfl
        simp only [Act.put, List.setIfInBounds_toArray, List.set_cons_zero, List.set_cons_succ]
        refine takeA (i := 5) (d := some 2) (v := ?_) rfl rfl (by kernel_rfl) (by kernel_rfl) (by kernel_rfl) (fun _ _ _ h => h) (Or.inl ⟨by rfl, ?_⟩) ?_
        rotate_left
        · intro w'; go_simp; try with_reducible rfl
        simp only [Act.put, List.setIfInBounds_toArray, List.set_cons_zero, List.set_cons_succ]
        refine wpAny_done (by kernel_rfl) ?_ _
        go_wp2
        go_ret
        exact ⟨by rw [HO.out]; rfl, b0.trans (hb1.mono b0.size)⟩
    · go_simp
      refine (HT.out _).mono ?_; rintro e w1 ⟨rfl, hb1⟩
      refine hK _ _ ?_
      clear hK K
      try simp only [Act.put, List.setIfInBounds_toArray, List.set_cons_zero, List.set_cons_succ]
      refine wpAny_ready (rs := [0]) (by kernel_rfl) (by simp) ?_
      refine AllReady.cons rfl (fun K hK => ?_) AllReady.nil
      go_simp
      refine hK _ _ ?_
      clear hK K
      try simp only [Act.put, List.setIfInBounds_toArray, List.set_cons_zero, List.set_cons_succ]
      have c1 := HC.out _ _ (heap_alloc_new w1 (.cells #[.int .u8 2, .int .u8 4] 5))
      refine wpAny_ready (rs := [1]) (by kernel_rfl) (by simp) ?_
      refine AllReady.cons rfl (fun K hK => ?_) AllReady.nil
      go_simp
      refine hK _ _ ?_
      clear hK K
      try simp only [Act.put, List.setIfInBounds_toArray, List.set_cons_zero, List.set_cons_succ]
      clear c1
      refine takeA (i := 4) (d := some 9) (v := ?_) rfl rfl (by kernel_rfl) (by kernel_rfl) (by kernel_rfl) (fun _ _ _ h => h) (Or.inl ⟨by rfl, ?_⟩) ?_
      rotate_left
      · intro w'; go_simp; try with_reducible rfl
      simp only [Act.put, List.setIfInBounds_toArray, List.set_cons_zero, List.set_cons_succ]
      refine takeA (i := 5) (d := some 2) (v := ?_) rfl rfl (by kernel_rfl) (by kernel_rfl) (by kernel_rfl) (fun _ _ _ h => h) (Or.inl ⟨by rfl, ?_⟩) ?_
      rotate_left
      · intro w'; go_simp; try with_reducible rfl
      simp only [Act.put, List.setIfInBounds_toArray, List.set_cons_zero, List.set_cons_succ]
      refine wpAny_done (by kernel_rfl) ?_ _
      go_wp2
      go_ret
      exact ⟨by rw [HO.out]; rfl, (((Below.refl _ _).drew).trans hb1).alloc hb1.size _⟩
end Go.Proofs.Ytggoipdmiajckaa
