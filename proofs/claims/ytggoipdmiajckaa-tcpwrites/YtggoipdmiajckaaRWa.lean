/-
  Contract of the document's TcpWrite: the same bytes that Write says (no Mss is told).
-/
import Derived.Test.YtggoipdmiajckaaRWc
import Derived.Test.YtggoipdmiajckaaWr
namespace Go.Proofs.Ytggoipdmiajckaa
open Go.RowKit
set_option linter.unusedVariables false
set_option linter.unusedSimpArgs false


set_option maxHeartbeats 4000000 in
theorem rwrite_n (g : Sg) (w : World) (h : gchk g = 0) (hsa : g.sa < 4294967296) (hda : g.da < 4294967296) (hsq : g.sq < 4294967296) (hak : g.ak < 4294967296) (hm : g.mss = 0) :
    Calls Try.prog 9 #[gv g] w fun e w' => e = .returned (.tuple #[.string (uw g), .int .i64 0]) ∧ Below w.heap.size w w' := by
  obtain ⟨p1, p2, p3, p4, p5, p6, p7, p8, _, hs⟩ := gchk_ok h
  have HC : Hid (∀ w', Calls Try.prog 11 #[gv g] w' fun e w'' => e = .returned (.int .i64 0) ∧ Below w'.heap.size w' w'') := fun w' => by
    have := rchk_any g w'
    rwa [h] at this
  have zo : (op g.mss).size = 0 := by rw [op_sz, if_pos hm]
  have ew : wb g = 80 := by unfold wb; rw [if_pos hm]
  have eo : op g.mss = ⟨#[]⟩ := by unfold op; rw [if_pos hm]
  have HA : Hid (∀ q w', q = g.sp → Calls Try.prog 24 #[.int .u64 q, .int .i64 2] w' fun e w'' => e = .returned (.string (wd g.sp.toNat)) ∧ Below w'.heap.size w' w'') := fun q w' hq => bigN _ _ (by omega) (by omega) w'
  have HB : Hid (∀ q w', q = g.dp → Calls Try.prog 24 #[.int .u64 q, .int .i64 2] w' fun e w'' => e = .returned (.string (wd g.dp.toNat)) ∧ Below w'.heap.size w' w'') := fun q w' hq => bigN _ _ (by omega) (by omega) w'
  have HW : Hid (∀ q w', q = g.win → Calls Try.prog 24 #[.int .u64 q, .int .i64 2] w' fun e w'' => e = .returned (.string (wd g.win.toNat)) ∧ Below w'.heap.size w' w'') := fun q w' hq => bigN _ _ (by omega) (by omega) w'
  have HMs : Hid (∀ q w', q = g.mss → Calls Try.prog 24 #[.int .u64 q, .int .i64 2] w' fun e w'' => e = .returned (.string (wd g.mss.toNat)) ∧ Below w'.heap.size w' w'') := fun q w' hq => bigN _ _ (by omega) (by omega) w'
  have HQ : Hid (∀ q w', q = (g.sq : Int) → Calls Try.prog 24 #[.int .u64 q, .int .i64 4] w' fun e w'' => e = .returned (.string (w4 g.sq)) ∧ Below w'.heap.size w' w'') := fun q w' hq => bigF _ _ hq hsq w'
  have HI : Hid (∀ q w', q = (g.ak : Int) → Calls Try.prog 24 #[.int .u64 q, .int .i64 4] w' fun e w'' => e = .returned (.string (w4 g.ak)) ∧ Below w'.heap.size w' w'') := fun q w' hq => bigF _ _ hq hak w'
  have H2 : Hid (∀ w', Calls Try.prog 23 #[.int .i64 2] w' fun e w'' => e = .returned (.string (one 2)) ∧ Below w'.heap.size w' w'') := fun w' => chrN 2 2 rfl (by omega) w'
  have H4 : Hid (∀ w', Calls Try.prog 23 #[.int .i64 4] w' fun e w'' => e = .returned (.string (one 4)) ∧ Below w'.heap.size w' w'') := fun w' => chrN 4 4 rfl (by omega) w'
  have H0 : Hid (∀ w', Calls Try.prog 23 #[.int .i64 0] w' fun e w'' => e = .returned (.string (one 0)) ∧ Below w'.heap.size w' w'') := fun w' => chrN 0 0 rfl (by omega) w'
  have HCW : Hid (∀ q w', q = 80 → Calls Try.prog 23 #[.int .i64 q] w' fun e w'' => e = .returned (.string (one (wb g))) ∧ Below w'.heap.size w' w'') := fun q w' hq => by rw [ew]; exact chrN 80 q hq (by omega) w'
  have hfl := fl_le g
  have HCF : Hid (∀ q w', q = (fl g : Int) → Calls Try.prog 23 #[.int .i64 q] w' fun e w'' => e = .returned (.string (one (fl g))) ∧ Below w'.heap.size w' w'') := fun q w' hq => chrN _ q hq (by omega) w'
  have HFL : Hid ((fl g : Int) = (g.fin.toNat : Int) + 2 * (g.syn.toNat : Int) + 4 * (g.rst.toNat : Int) + 16 * (g.ack.toNat : Int)) := by show _ = _; unfold fl; omega
  have U1 : Hid (∀ w', Calls Try.prog 25 #[.bool g.fin] w' fun e w'' => e = .returned (.int .i64 (g.fin.toNat : Int)) ∧ w'' = w') := fun w' => truth_any _ w'
  have U2 : Hid (∀ w', Calls Try.prog 25 #[.bool g.syn] w' fun e w'' => e = .returned (.int .i64 (g.syn.toNat : Int)) ∧ w'' = w') := fun w' => truth_any _ w'
  have U3 : Hid (∀ w', Calls Try.prog 25 #[.bool g.rst] w' fun e w'' => e = .returned (.int .i64 (g.rst.toNat : Int)) ∧ w'' = w') := fun w' => truth_any _ w'
  have U4 : Hid (∀ w', Calls Try.prog 25 #[.bool g.ack] w' fun e w'' => e = .returned (.int .i64 (g.ack.toNat : Int)) ∧ w'' = w') := fun w' => truth_any _ w'
  have l1 := Bool.toNat_le g.fin
  have l2 := Bool.toNat_le g.syn
  have l3 := Bool.toNat_le g.rst
  have l4 := Bool.toNat_le g.ack
  have zn : ((ah g ++ wd 0 ++ bh g).size : Int) = 16 + 2 + ((bh g).size : Int) := by simp only [ByteArray.size_append, ah_sz, wd_sz]; omega
  have zb := bh_sz g
  have HP : Hid (∀ q w', q = 16 + 2 + ((bh g).size : Int) → Calls Try.prog 27 #[.int .u32 (g.sa : Int), .int .u32 (g.da : Int), .int .i64 6, .int .i64 q] w' fun e w'' => e = .returned (.string (psd g.sa g.da 6 (16 + 2 + ((bh g).size : Int)))) ∧ Below w'.heap.size w' w'') := fun q w' hq => by
    subst hq
    exact rpseudo_any _ _ _ _ w' hsa hda (by omega) (by omega)
  have zp := psd_sz g.sa g.da 6 (16 + 2 + ((bh g).size : Int))
  have za := ah_sz g
  have hF := Pm.fd_le (Pm.hv true (cst g.sa g.da (ah g) (bh g)).data.toList)
  have HR : Hid (∀ w', Calls Try.prog 26 #[.string (psd g.sa g.da 6 (16 + 2 + ((bh g).size : Int)) ++ ah g ++ bh g)] w' fun e w'' => e = .returned (.int .u16 (Pm.fd (Pm.hv true (cst g.sa g.da (ah g) (bh g)).data.toList) : Int)) ∧ Below w'.heap.size w' w'') := fun w' => by
    have := rsum_any (psd g.sa g.da 6 (16 + 2 + ((bh g).size : Int)) ++ ah g ++ bh g) w' (by simp only [ByteArray.size_append]; omega)
    rwa [sum_eq g _ zn.symm] at this
  have hus : us g ≤ 65535 := cs_le _ _ _ _
  have HUS : Hid ((us g : Int) = 65535 - (Pm.fd (Pm.hv true (cst g.sa g.da (ah g) (bh g)).data.toList) : Int)) := by show _ = _; unfold us cs; omega
  have HS : Hid (∀ q w', q = (us g : Int) → Calls Try.prog 24 #[.int .u64 q, .int .i64 2] w' fun e w'' => e = .returned (.string (wd (us g))) ∧ Below w'.heap.size w' w'') := fun q w' hq => bigN _ _ hq hus w'
  have eA : one (wb g) ++ one (fl g) = wd (wb g * 256 + fl g) := one_two _ _ (by omega)
  have eB : wd g.sp.toNat ++ wd g.dp.toNat ++ w4 g.sq ++ w4 g.ak ++ one (wb g) ++ one (fl g) ++ wd g.win.toNat = ah g := by
    unfold ah; rw [← eA]
    apply ByteArray.ext; apply Array.toList_inj.1
    simp only [ByteArray.data_append, Array.toList_append, List.append_assoc]
  have sz : ∀ a b : ByteArray, a.size ≤ 1000000 → b.size ≤ 1000000 → ∀ w', (Op.stringOp .add a b).run Try.prog w' = .ok (.string (a ++ b)) w' := fun a b ha hb w' => run_string_add_sum w' _ _ (by omega)
  have t1 := sz (wd g.sp.toNat) (wd g.dp.toNat) (by simp only [wd_sz]; omega) (by simp only [wd_sz]; omega)
  have t2 := sz (wd g.sp.toNat ++ wd g.dp.toNat) (w4 g.sq) (by simp only [ByteArray.size_append, wd_sz]; omega) (by simp only [w4_sz]; omega)
  have t3 := sz (wd g.sp.toNat ++ wd g.dp.toNat ++ w4 g.sq) (w4 g.ak) (by simp only [ByteArray.size_append, wd_sz, w4_sz]; omega) (by simp only [w4_sz]; omega)
  have t4 := sz (wd g.sp.toNat ++ wd g.dp.toNat ++ w4 g.sq ++ w4 g.ak) (one (wb g)) (by simp only [ByteArray.size_append, wd_sz, w4_sz]; omega) (by simp only [one_sz]; omega)
  have t5 := sz (wd g.sp.toNat ++ wd g.dp.toNat ++ w4 g.sq ++ w4 g.ak ++ one (wb g)) (one (fl g)) (by simp only [ByteArray.size_append, wd_sz, w4_sz, one_sz]; omega) (by simp only [one_sz]; omega)
  have t6 := sz (wd g.sp.toNat ++ wd g.dp.toNat ++ w4 g.sq ++ w4 g.ak ++ one (wb g) ++ one (fl g)) (wd g.win.toNat) (by simp only [ByteArray.size_append, wd_sz, w4_sz, one_sz]; omega) (by simp only [wd_sz]; omega)
  rw [eB] at t6
  have t7 : ∀ w', (Op.stringOp .add (one 0) (one 0)).run Try.prog w' = .ok (.string (wd 0)) w' := fun w' => by
    have := sz (one 0) (one 0) (by simp only [one_sz]; omega) (by simp only [one_sz]; omega) w'
    rw [one_two 0 0 (by omega)] at this
    exact this
  have t8 : ∀ w', (Op.stringOp .add (wd 0) ⟨#[]⟩).run Try.prog w' = .ok (.string (wd 0 ++ op g.mss)) w' := fun w' => by
    rw [eo]; exact sz (wd 0) _ (by simp only [wd_sz]; omega) (by decide) w'
  have c1 : ¬ (0 : Int) < g.mss := by omega
  have t9 : ∀ w', (Op.stringOp .add (wd 0 ++ op g.mss) g.body).run Try.prog w' = .ok (.string (bh g)) w' := sz (wd 0 ++ op g.mss) g.body (by simp only [ByteArray.size_append, wd_sz]; omega) (by omega)
  have ta := sz (psd g.sa g.da 6 (16 + 2 + ((bh g).size : Int))) (ah g) (by omega) (by omega)
  have tb := sz (psd g.sa g.da 6 (16 + 2 + ((bh g).size : Int)) ++ ah g) (bh g) (by simp only [ByteArray.size_append]; omega) (by omega)
  have tc := sz (ah g) (wd (us g)) (by omega) (by simp only [wd_sz]; omega)
  have td : ∀ w', (Op.stringOp .add (ah g ++ wd (us g)) (bh g)).run Try.prog w' = .ok (.string (uw g)) w' := sz (ah g ++ wd (us g)) (bh g) (by simp only [ByteArray.size_append, wd_sz]; omega) (by omega)
  have zi6 : ((ah g).size : Int) = 16 := by omega
  have zbl : (bh g).size ≤ 2000 := by omega
  clear zo eo eA eB zn zb zp za sz
  generalize uw g = R at *
  generalize ah g ++ wd (us g) = R1 at *
  generalize wd (us g) = X at *
  generalize us g = U at *
  generalize Pm.fd (Pm.hv true (cst g.sa g.da (ah g) (bh g)).data.toList) = C at *
  generalize psd g.sa g.da 6 (16 + 2 + ((bh g).size : Int)) ++ ah g ++ bh g = S2 at *
  generalize psd g.sa g.da 6 (16 + 2 + ((bh g).size : Int)) ++ ah g = S1 at *
  generalize psd g.sa g.da 6 (16 + 2 + ((bh g).size : Int)) = S0 at *
  generalize bh g = V at *
  generalize wd 0 ++ op g.mss = V1 at *
  generalize wd 0 = Z at *
  generalize ah g = F6 at *
  generalize wd g.sp.toNat ++ wd g.dp.toNat ++ w4 g.sq ++ w4 g.ak ++ one (wb g) ++ one (fl g) = F5b at *
  generalize wd g.sp.toNat ++ wd g.dp.toNat ++ w4 g.sq ++ w4 g.ak ++ one (wb g) = F5 at *
  generalize wd g.sp.toNat ++ wd g.dp.toNat ++ w4 g.sq ++ w4 g.ak = F4 at *
  generalize wd g.sp.toNat ++ wd g.dp.toNat ++ w4 g.sq = F3 at *
  generalize wd g.sp.toNat ++ wd g.dp.toNat = F2 at *
  generalize wd g.sp.toNat = A1 at *
  generalize wd g.dp.toNat = A2 at *
  generalize w4 g.sq = A3 at *
  generalize w4 g.ak = A4 at *
  generalize wd g.win.toNat = A6 at *
  generalize one (wb g) = A5 at *
  generalize one (fl g) = A7 at *
  generalize (fl g : Int) = FL at *
  generalize g.fin.toNat = n1 at *
  generalize g.syn.toNat = n2 at *
  generalize g.rst.toNat = n3 at *
  generalize g.ack.toNat = n4 at *
  generalize one 0 = O0 at *
  generalize one 2 = O2 at *
  generalize one 4 = O4 at *
  clear ew hm
  have v1 : IntKind.u64.wrap g.sp = g.sp := wrap_u64_in _ (by omega) (by omega)
  have v2 : IntKind.u64.wrap g.dp = g.dp := wrap_u64_in _ (by omega) (by omega)
  have v3 : IntKind.u64.wrap g.win = g.win := wrap_u64_in _ (by omega) (by omega)
  have v4 : IntKind.u64.wrap g.mss = g.mss := wrap_u64_in _ (by omega) (by omega)
  have v5 : IntKind.u64.wrap (g.sq : Int) = (g.sq : Int) := wrap_u64_in _ (by omega) (by omega)
  have v6 : IntKind.u64.wrap (g.ak : Int) = (g.ak : Int) := wrap_u64_in _ (by omega) (by omega)
  have m2 : IntKind.i64.wrap (2 * (n2 : Int)) = 2 * (n2 : Int) := wraps_i64 _ (by omega) (by omega)
  have m4 : IntKind.i64.wrap (4 * (n3 : Int)) = 4 * (n3 : Int) := wraps_i64 _ (by omega) (by omega)
  have m16 : IntKind.i64.wrap (16 * (n4 : Int)) = 16 * (n4 : Int) := wraps_i64 _ (by omega) (by omega)
  have m1 : IntKind.i64.wrap ((n1 : Int) + 2 * (n2 : Int)) = (n1 : Int) + 2 * (n2 : Int) := wraps_i64 _ (by omega) (by omega)
  have m3 : IntKind.i64.wrap ((n1 : Int) + 2 * (n2 : Int) + 4 * (n3 : Int)) = (n1 : Int) + 2 * (n2 : Int) + 4 * (n3 : Int) := wraps_i64 _ (by omega) (by omega)
  have m5 : IntKind.i64.wrap ((n1 : Int) + 2 * (n2 : Int) + 4 * (n3 : Int) + 16 * (n4 : Int)) = (n1 : Int) + 2 * (n2 : Int) + 4 * (n3 : Int) + 16 * (n4 : Int) := wraps_i64 _ (by omega) (by omega)
  have v7 : IntKind.u16.wrap (65535 - (C : Int)) = 65535 - (C : Int) := by rw [IntKind.wrap_u16]; omega
  have v8 : IntKind.u64.wrap (65535 - (C : Int)) = 65535 - (C : Int) := wrap_u64_in _ (by omega) (by omega)
  have b0 : Below w.heap.size w (w.alloc (.cells (gc g) 26)) := (Below.refl _ _).alloc (Nat.le_refl _) _
  have P0 := Lib.hid (GB.new w g)
  clear h
  go_enter Try.func9, Try.ntmps9
  go_wp2_with fail
  refine (HC.out _).mono ?_; rintro e w1 ⟨rfl, hb1⟩
  have P1 := Lib.hid (P0.out.keep hb1)
  have b1 := b0.trans (hb1.mono (by simp))
  have x11 := P1.out.c11
  clear P0 b0 hb1
  go_wp2_with fail
  refine wp_region_held_drew (S := fun w' => Hid (GB w.heap.size g w')) (by kernel_rfl) (Lib.hid P1.out.drew) (fun hHeld => ?_)
  clear x11
  refine takeH (i := 0) (d := some 25) (v := ?_) rfl rfl (by kernel_rfl) (by kernel_rfl) (by kernel_rfl) (fun _ _ _ h => h) (Or.inl ⟨by rfl, ?_⟩) hHeld ?_
  rotate_left
  · intro w' hSw; (try dsimp only at hSw); go_simp; try with_reducible rfl
  simp only [Act.put, List.setIfInBounds_toArray, List.set_cons_zero, List.set_cons_succ]
  refine takeH (i := 1) (d := some 26) (v := ?_) rfl rfl (by kernel_rfl) (by kernel_rfl) (by kernel_rfl) (fun _ _ _ h => h) (Or.inl ⟨by rfl, ?_⟩) hHeld ?_
  rotate_left
  · intro w' hSw; (try dsimp only at hSw); go_simp; try with_reducible rfl
  simp only [Act.put, List.setIfInBounds_toArray, List.set_cons_zero, List.set_cons_succ]
  refine takeH (i := 5) (d := some 30) (v := ?_) rfl rfl (by kernel_rfl) (by kernel_rfl) (by kernel_rfl) (fun _ _ _ h => h) (Or.inl ⟨by rfl, ?_⟩) hHeld ?_
  rotate_left
  · intro w' hSw; (try dsimp only at hSw); go_simp; try with_reducible rfl
  simp only [Act.put, List.setIfInBounds_toArray, List.set_cons_zero, List.set_cons_succ]
  refine takeH (i := 6) (d := some 31) (v := ?_) rfl rfl (by kernel_rfl) (by kernel_rfl) (by kernel_rfl) (fun _ _ _ h => h) (Or.inl ⟨by rfl, ?_⟩) hHeld ?_
  rotate_left
  · intro w' hSw; (try dsimp only at hSw); go_simp; try with_reducible rfl
  simp only [Act.put, List.setIfInBounds_toArray, List.set_cons_zero, List.set_cons_succ]
  refine takeH (i := 11) (d := some 36) (v := ?_) rfl rfl (by kernel_rfl) (by kernel_rfl) (by kernel_rfl) (fun _ _ _ h => h) (Or.inl ⟨by rfl, ?_⟩) hHeld ?_
  rotate_left
  · intro w' hSw; (try dsimp only at hSw); go_simp; try with_reducible rfl
  simp only [Act.put, List.setIfInBounds_toArray, List.set_cons_zero, List.set_cons_succ]
  refine takeH (i := 16) (d := some 41) (v := ?_) rfl rfl (by kernel_rfl) (by kernel_rfl) (by kernel_rfl) (fun _ _ _ h => h) (Or.inl ⟨by rfl, ?_⟩) hHeld ?_
  rotate_left
  · intro w' hSw; (try dsimp only at hSw); go_simp; try with_reducible rfl
  simp only [Act.put, List.setIfInBounds_toArray, List.set_cons_zero, List.set_cons_succ]
  refine takeH (i := 28) (d := some 53) (v := ?_) rfl rfl (by kernel_rfl) (by kernel_rfl) (by kernel_rfl) (fun _ _ _ h => h) (Or.inl ⟨by rfl, ?_⟩) hHeld ?_
  rotate_left
  · intro w' hSw; (try dsimp only at hSw); go_simp; try with_reducible rfl
  simp only [Act.put, List.setIfInBounds_toArray, List.set_cons_zero, List.set_cons_succ]
  refine takeH (i := 31) (d := some 56) (v := ?_) rfl rfl (by kernel_rfl) (by kernel_rfl) (by kernel_rfl) (fun _ _ _ h => h) (Or.inl ⟨by rfl, ?_⟩) hHeld ?_
  rotate_left
  · intro w' hSw; (try dsimp only at hSw); go_simp; try with_reducible rfl
  simp only [Act.put, List.setIfInBounds_toArray, List.set_cons_zero, List.set_cons_succ]
  refine takeH (i := 36) (d := some 61) (v := ?_) rfl rfl (by kernel_rfl) (by kernel_rfl) (by kernel_rfl) (fun _ _ _ h => h) (Or.inl ⟨by rfl, ?_⟩) hHeld ?_
  rotate_left
  · intro w' hSw; (try dsimp only at hSw); go_simp; try with_reducible rfl
  simp only [Act.put, List.setIfInBounds_toArray, List.set_cons_zero, List.set_cons_succ]
  refine takeH (i := 41) (d := some 66) (v := ?_) rfl rfl (by kernel_rfl) (by kernel_rfl) (by kernel_rfl) (fun _ _ _ h => h) (Or.inl ⟨by rfl, ?_⟩) hHeld ?_
  rotate_left
  · intro w' hSw; (try dsimp only at hSw); go_simp; try with_reducible rfl
  simp only [Act.put, List.setIfInBounds_toArray, List.set_cons_zero, List.set_cons_succ]
  refine takeH (i := 48) (d := some 73) (v := ?_) rfl rfl (by kernel_rfl) (by kernel_rfl) (by kernel_rfl) (fun _ _ _ h => h) (Or.inl ⟨by rfl, ?_⟩) hHeld ?_
  rotate_left
  · intro w' hSw; (try dsimp only at hSw); go_simp; try with_reducible rfl
  simp only [Act.put, List.setIfInBounds_toArray, List.set_cons_zero, List.set_cons_succ]
  refine takeH (i := 2) (d := some 27) (v := ?_) rfl rfl (by kernel_rfl) (by kernel_rfl) (by kernel_rfl) (fun _ _ _ h => h) (Or.inl ⟨by rfl, ?_⟩) hHeld ?_
  rotate_left
  · intro w' hSw; (try dsimp only at hSw); have hc := hSw.out.c1; clear hSw; go_simp; try with_reducible rfl
  simp only [Act.put, List.setIfInBounds_toArray, List.set_cons_zero, List.set_cons_succ]
  refine takeH (i := 7) (d := some 32) (v := ?_) rfl rfl (by kernel_rfl) (by kernel_rfl) (by kernel_rfl) (fun _ _ _ h => h) (Or.inl ⟨by rfl, ?_⟩) hHeld ?_
  rotate_left
  · intro w' hSw; (try dsimp only at hSw); have hc := hSw.out.c3; clear hSw; go_simp; try with_reducible rfl
  simp only [Act.put, List.setIfInBounds_toArray, List.set_cons_zero, List.set_cons_succ]
  refine takeH (i := 12) (d := some 37) (v := ?_) rfl rfl (by kernel_rfl) (by kernel_rfl) (by kernel_rfl) (fun _ _ _ h => h) (Or.inl ⟨by rfl, ?_⟩) hHeld ?_
  rotate_left
  · intro w' hSw; (try dsimp only at hSw); have hc := hSw.out.c4; clear hSw; go_simp; try with_reducible rfl
  simp only [Act.put, List.setIfInBounds_toArray, List.set_cons_zero, List.set_cons_succ]
  refine takeH (i := 17) (d := some 42) (v := ?_) rfl rfl (by kernel_rfl) (by kernel_rfl) (by kernel_rfl) (fun _ _ _ h => h) (Or.inl ⟨by rfl, ?_⟩) hHeld ?_
  rotate_left
  · intro w' hSw; (try dsimp only at hSw); have hc := hSw.out.c5; clear hSw; go_simp; try with_reducible rfl
  simp only [Act.put, List.setIfInBounds_toArray, List.set_cons_zero, List.set_cons_succ]
  refine takeH (i := 29) (d := some 54) (v := ?_) rfl rfl (by kernel_rfl) (by kernel_rfl) (by kernel_rfl) (fun _ _ _ h => h) (Or.inl ⟨by rfl, ?_⟩) hHeld ?_
  rotate_left
  · intro w' hSw; (try dsimp only at hSw); have hc := hSw.out.c8; clear hSw; go_simp; try with_reducible rfl
  simp only [Act.put, List.setIfInBounds_toArray, List.set_cons_zero, List.set_cons_succ]
  refine takeH (i := 32) (d := some 57) (v := ?_) rfl rfl (by kernel_rfl) (by kernel_rfl) (by kernel_rfl) (fun _ _ _ h => h) (Or.inl ⟨by rfl, ?_⟩) hHeld ?_
  rotate_left
  · intro w' hSw; (try dsimp only at hSw); have hc := hSw.out.c6; clear hSw; go_simp; try with_reducible rfl
  simp only [Act.put, List.setIfInBounds_toArray, List.set_cons_zero, List.set_cons_succ]
  refine takeH (i := 37) (d := some 62) (v := ?_) rfl rfl (by kernel_rfl) (by kernel_rfl) (by kernel_rfl) (fun _ _ _ h => h) (Or.inl ⟨by rfl, ?_⟩) hHeld ?_
  rotate_left
  · intro w' hSw; (try dsimp only at hSw); have hc := hSw.out.c9; clear hSw; go_simp; try with_reducible rfl
  simp only [Act.put, List.setIfInBounds_toArray, List.set_cons_zero, List.set_cons_succ]
  refine takeH (i := 42) (d := some 67) (v := ?_) rfl rfl (by kernel_rfl) (by kernel_rfl) (by kernel_rfl) (fun _ _ _ h => h) (Or.inl ⟨by rfl, ?_⟩) hHeld ?_
  rotate_left
  · intro w' hSw; (try dsimp only at hSw); have hc := hSw.out.c7; clear hSw; go_simp; try with_reducible rfl
  simp only [Act.put, List.setIfInBounds_toArray, List.set_cons_zero, List.set_cons_succ]
  refine takeH (i := 49) (d := some 74) (v := ?_) rfl rfl (by kernel_rfl) (by kernel_rfl) (by kernel_rfl) (fun _ _ _ h => h) (Or.inl ⟨by rfl, ?_⟩) hHeld ?_
  rotate_left
  · intro w' hSw; (try dsimp only at hSw); have hc := hSw.out.c10; clear hSw; go_simp; try with_reducible rfl
  simp only [Act.put, List.setIfInBounds_toArray, List.set_cons_zero, List.set_cons_succ]
  refine takeH (i := 3) (d := some 28) (v := ?_) rfl rfl (by kernel_rfl) (by kernel_rfl) (by kernel_rfl) (fun _ _ _ h => h) (Or.inl ⟨by rfl, ?_⟩) hHeld ?_
  rotate_left
  · intro w' hSw; (try dsimp only at hSw); go_simp; try with_reducible rfl
  simp only [Act.put, List.setIfInBounds_toArray, List.set_cons_zero, List.set_cons_succ]
  refine takeH (i := 8) (d := some 33) (v := ?_) rfl rfl (by kernel_rfl) (by kernel_rfl) (by kernel_rfl) (fun _ _ _ h => h) (Or.inl ⟨by rfl, ?_⟩) hHeld ?_
  rotate_left
  · intro w' hSw; (try dsimp only at hSw); go_simp; try with_reducible rfl
  simp only [Act.put, List.setIfInBounds_toArray, List.set_cons_zero, List.set_cons_succ]
  refine takeH (i := 13) (d := some 38) (v := ?_) rfl rfl (by kernel_rfl) (by kernel_rfl) (by kernel_rfl) (fun _ _ _ h => h) (Or.inl ⟨by rfl, ?_⟩) hHeld ?_
  rotate_left
  · intro w' hSw; (try dsimp only at hSw); go_simp; try with_reducible rfl
  simp only [Act.put, List.setIfInBounds_toArray, List.set_cons_zero, List.set_cons_succ]
  refine takeH (i := 18) (d := some 43) (v := ?_) rfl rfl (by kernel_rfl) (by kernel_rfl) (by kernel_rfl) (fun _ _ _ h => h) (Or.inl ⟨by rfl, ?_⟩) hHeld ?_
  rotate_left
  · intro w' hSw; (try dsimp only at hSw); go_simp; try with_reducible rfl
  simp only [Act.put, List.setIfInBounds_toArray, List.set_cons_zero, List.set_cons_succ]
  refine takeH (i := 50) (d := some 75) (v := ?_) rfl rfl (by kernel_rfl) (by kernel_rfl) (by kernel_rfl) (fun _ _ _ h => h) (Or.inl ⟨by rfl, ?_⟩) hHeld ?_
  rotate_left
  · intro w' hSw; (try dsimp only at hSw); go_simp; try with_reducible rfl
  simp only [Act.put, List.setIfInBounds_toArray, List.set_cons_zero, List.set_cons_succ]
  refine takeH (i := 21) (d := some 46) (v := ?_) rfl rfl (by kernel_rfl) (by kernel_rfl) (by kernel_rfl) (fun _ _ _ h => h) (Or.inl ⟨by rfl, ?_⟩) hHeld ?_
  rotate_left
  · intro w' hSw; (try dsimp only at hSw); go_simp; try with_reducible rfl
  simp only [Act.put, List.setIfInBounds_toArray, List.set_cons_zero, List.set_cons_succ]
  refine takeH (i := 22) (d := some 47) (v := ?_) rfl rfl (by kernel_rfl) (by kernel_rfl) (by kernel_rfl) (fun _ _ _ h => h) (Or.inl ⟨by rfl, ?_⟩) hHeld ?_
  rotate_left
  · intro w' hSw; (try dsimp only at hSw); go_simp; try with_reducible rfl
  simp only [Act.put, List.setIfInBounds_toArray, List.set_cons_zero, List.set_cons_succ]
  refine takeH (i := 23) (d := some 48) (v := ?_) rfl rfl (by kernel_rfl) (by kernel_rfl) (by kernel_rfl) (fun _ _ _ h => h) (Or.inl ⟨by rfl, ?_⟩) hHeld ?_
  rotate_left
  · intro w' hSw; (try dsimp only at hSw); go_simp; try with_reducible rfl
  simp only [Act.put, List.setIfInBounds_toArray, List.set_cons_zero, List.set_cons_succ]
  refine takeH (i := 24) (d := some 49) (v := ?_) rfl rfl (by kernel_rfl) (by kernel_rfl) (by kernel_rfl) (fun _ _ _ h => h) (Or.inl ⟨by rfl, ?_⟩) hHeld ?_
  rotate_left
  · intro w' hSw; (try dsimp only at hSw); go_simp; try with_reducible rfl
  simp only [Act.put, List.setIfInBounds_toArray, List.set_cons_zero, List.set_cons_succ]
  refine takeH (i := 25) (d := some 50) (v := ?_) rfl rfl (by kernel_rfl) (by kernel_rfl) (by kernel_rfl) (fun _ _ _ h => h) (Or.inl ⟨by rfl, ?_⟩) hHeld ?_
  rotate_left
  · intro w' hSw; (try dsimp only at hSw); go_simp; try with_reducible rfl
  simp only [Act.put, List.setIfInBounds_toArray, List.set_cons_zero, List.set_cons_succ]
  refine wpAnyH_ready (rs := [4]) (by kernel_rfl) (by simp) ?_
  refine AllReadyH.cons rfl (fun K hK => ?_) AllReadyH.nil
  go_simp
  refine (HA.out _ _ ?_).mono ?_
  · omega
  rintro e y1 ⟨rfl, hb1⟩
  have Q_1 := Lib.hid (hHeld.out.keep hb1)
  have b_1 := b1.drew.trans (hb1.mono b1.drew.size)
  clear hHeld hb1
  refine hK.out _ _ Q_1 (fun hHeld => ?_)
  clear hK K
  try simp only [Act.put, List.setIfInBounds_toArray, List.set_cons_zero, List.set_cons_succ]
  refine wpAnyH_ready (rs := [9]) (by kernel_rfl) (by simp) ?_
  refine AllReadyH.cons rfl (fun K hK => ?_) AllReadyH.nil
  go_simp
  refine (HB.out _ _ ?_).mono ?_
  · omega
  rintro e y2 ⟨rfl, hb2⟩
  have Q_2 := Lib.hid (hHeld.out.keep hb2)
  have b_2 := b_1.trans (hb2.mono b_1.size)
  clear hHeld hb2
  refine hK.out _ _ Q_2 (fun hHeld => ?_)
  clear hK K
  try simp only [Act.put, List.setIfInBounds_toArray, List.set_cons_zero, List.set_cons_succ]
  refine takeH (i := 10) (d := some 35) (v := ?_) rfl rfl (by kernel_rfl) (by kernel_rfl) (by kernel_rfl) (fun _ _ _ h => h) (Or.inl ⟨by rfl, ?_⟩) hHeld ?_
  rotate_left
  · intro w' hSw; (try dsimp only at hSw); go_simp; try with_reducible rfl
  simp only [Act.put, List.setIfInBounds_toArray, List.set_cons_zero, List.set_cons_succ]
  refine wpAnyH_ready (rs := [14]) (by kernel_rfl) (by simp) ?_
  refine AllReadyH.cons rfl (fun K hK => ?_) AllReadyH.nil
  go_simp
  refine (HQ.out _ _ ?_).mono ?_
  · omega
  rintro e y3 ⟨rfl, hb3⟩
  have Q_3 := Lib.hid (hHeld.out.keep hb3)
  have b_3 := b_2.trans (hb3.mono b_2.size)
  clear hHeld hb3
  refine hK.out _ _ Q_3 (fun hHeld => ?_)
  clear hK K
  try simp only [Act.put, List.setIfInBounds_toArray, List.set_cons_zero, List.set_cons_succ]
  refine takeH (i := 15) (d := some 40) (v := ?_) rfl rfl (by kernel_rfl) (by kernel_rfl) (by kernel_rfl) (fun _ _ _ h => h) (Or.inl ⟨by rfl, ?_⟩) hHeld ?_
  rotate_left
  · intro w' hSw; (try dsimp only at hSw); go_simp; try with_reducible rfl
  simp only [Act.put, List.setIfInBounds_toArray, List.set_cons_zero, List.set_cons_succ]
  refine wpAnyH_ready (rs := [19]) (by kernel_rfl) (by simp) ?_
  refine AllReadyH.cons rfl (fun K hK => ?_) AllReadyH.nil
  go_simp
  refine (HI.out _ _ ?_).mono ?_
  · omega
  rintro e y4 ⟨rfl, hb4⟩
  have Q_4 := Lib.hid (hHeld.out.keep hb4)
  have b_4 := b_3.trans (hb4.mono b_3.size)
  clear hHeld hb4
  refine hK.out _ _ Q_4 (fun hHeld => ?_)
  clear hK K
  try simp only [Act.put, List.setIfInBounds_toArray, List.set_cons_zero, List.set_cons_succ]
  refine takeH (i := 20) (d := some 45) (v := ?_) rfl rfl (by kernel_rfl) (by kernel_rfl) (by kernel_rfl) (fun _ _ _ h => h) (Or.inl ⟨by rfl, ?_⟩) hHeld ?_
  rotate_left
  · intro w' hSw; (try dsimp only at hSw); go_simp; try with_reducible rfl
  simp only [Act.put, List.setIfInBounds_toArray, List.set_cons_zero, List.set_cons_succ]
  refine wpAnyH_ready (rs := [26]) (by kernel_rfl) (by simp) ?_
  refine AllReadyH.cons rfl (fun K hK => ?_) AllReadyH.nil
  go_simp
  refine (HCW.out _ _ ?_).mono ?_
  · first | rfl | decide | (simp; done)
  rintro e y5 ⟨rfl, hb5⟩
  have Q_5 := Lib.hid (hHeld.out.keep hb5)
  have b_5 := b_4.trans (hb5.mono b_4.size)
  clear hHeld hb5
  refine hK.out _ _ Q_5 (fun hHeld => ?_)
  clear hK K
  try simp only [Act.put, List.setIfInBounds_toArray, List.set_cons_zero, List.set_cons_succ]
  refine takeH (i := 27) (d := some 52) (v := ?_) rfl rfl (by kernel_rfl) (by kernel_rfl) (by kernel_rfl) (fun _ _ _ h => h) (Or.inl ⟨by rfl, ?_⟩) hHeld ?_
  rotate_left
  · intro w' hSw; (try dsimp only at hSw); go_simp; try with_reducible rfl
  simp only [Act.put, List.setIfInBounds_toArray, List.set_cons_zero, List.set_cons_succ]
  refine wpAnyH_ready (rs := [30]) (by kernel_rfl) (by simp) ?_
  refine AllReadyH.cons rfl (fun K hK => ?_) AllReadyH.nil
  go_simp
  refine (U1.out _).mono ?_
  rintro e _ ⟨rfl, rfl⟩
  have Q_6 := hHeld
  clear hHeld
  refine hK.out _ _ Q_6 (fun hHeld => ?_)
  clear hK K
  try simp only [Act.put, List.setIfInBounds_toArray, List.set_cons_zero, List.set_cons_succ]
  refine wpAnyH_ready (rs := [33]) (by kernel_rfl) (by simp) ?_
  refine AllReadyH.cons rfl (fun K hK => ?_) AllReadyH.nil
  go_simp
  refine (U2.out _).mono ?_
  rintro e _ ⟨rfl, rfl⟩
  have Q_7 := hHeld
  clear hHeld
  refine hK.out _ _ Q_7 (fun hHeld => ?_)
  clear hK K
  try simp only [Act.put, List.setIfInBounds_toArray, List.set_cons_zero, List.set_cons_succ]
  refine takeH (i := 34) (d := some 59) (v := ?_) rfl rfl (by kernel_rfl) (by kernel_rfl) (by kernel_rfl) (fun _ _ _ h => h) (Or.inl ⟨by rfl, ?_⟩) hHeld ?_
  rotate_left
  · intro w' hSw; (try dsimp only at hSw); go_simp; try with_reducible rfl
  simp only [Act.put, List.setIfInBounds_toArray, List.set_cons_zero, List.set_cons_succ]
  refine takeH (i := 35) (d := some 60) (v := ?_) rfl rfl (by kernel_rfl) (by kernel_rfl) (by kernel_rfl) (fun _ _ _ h => h) (Or.inl ⟨by rfl, ?_⟩) hHeld ?_
  rotate_left
  · intro w' hSw; (try dsimp only at hSw); go_simp; try with_reducible rfl
  simp only [Act.put, List.setIfInBounds_toArray, List.set_cons_zero, List.set_cons_succ]
  refine wpAnyH_ready (rs := [38]) (by kernel_rfl) (by simp) ?_
  refine AllReadyH.cons rfl (fun K hK => ?_) AllReadyH.nil
  go_simp
  refine (U3.out _).mono ?_
  rintro e _ ⟨rfl, rfl⟩
  have Q_8 := hHeld
  clear hHeld
  refine hK.out _ _ Q_8 (fun hHeld => ?_)
  clear hK K
  try simp only [Act.put, List.setIfInBounds_toArray, List.set_cons_zero, List.set_cons_succ]
  refine takeH (i := 39) (d := some 64) (v := ?_) rfl rfl (by kernel_rfl) (by kernel_rfl) (by kernel_rfl) (fun _ _ _ h => h) (Or.inl ⟨by rfl, ?_⟩) hHeld ?_
  rotate_left
  · intro w' hSw; (try dsimp only at hSw); go_simp; try with_reducible rfl
  simp only [Act.put, List.setIfInBounds_toArray, List.set_cons_zero, List.set_cons_succ]
  refine takeH (i := 40) (d := some 65) (v := ?_) rfl rfl (by kernel_rfl) (by kernel_rfl) (by kernel_rfl) (fun _ _ _ h => h) (Or.inl ⟨by rfl, ?_⟩) hHeld ?_
  rotate_left
  · intro w' hSw; (try dsimp only at hSw); go_simp; try with_reducible rfl
  simp only [Act.put, List.setIfInBounds_toArray, List.set_cons_zero, List.set_cons_succ]
  refine wpAnyH_ready (rs := [43]) (by kernel_rfl) (by simp) ?_
  refine AllReadyH.cons rfl (fun K hK => ?_) AllReadyH.nil
  go_simp
  refine (U4.out _).mono ?_
  rintro e _ ⟨rfl, rfl⟩
  have Q_9 := hHeld
  clear hHeld
  refine hK.out _ _ Q_9 (fun hHeld => ?_)
  clear hK K
  try simp only [Act.put, List.setIfInBounds_toArray, List.set_cons_zero, List.set_cons_succ]
  refine takeH (i := 44) (d := some 69) (v := ?_) rfl rfl (by kernel_rfl) (by kernel_rfl) (by kernel_rfl) (fun _ _ _ h => h) (Or.inl ⟨by rfl, ?_⟩) hHeld ?_
  rotate_left
  · intro w' hSw; (try dsimp only at hSw); go_simp; try with_reducible rfl
  simp only [Act.put, List.setIfInBounds_toArray, List.set_cons_zero, List.set_cons_succ]
  refine takeH (i := 45) (d := some 70) (v := ?_) rfl rfl (by kernel_rfl) (by kernel_rfl) (by kernel_rfl) (fun _ _ _ h => h) (Or.inl ⟨by rfl, ?_⟩) hHeld ?_
  rotate_left
  · intro w' hSw; (try dsimp only at hSw); go_simp; try with_reducible rfl
  simp only [Act.put, List.setIfInBounds_toArray, List.set_cons_zero, List.set_cons_succ]
  refine wpAnyH_ready (rs := [46]) (by kernel_rfl) (by simp) ?_
  refine AllReadyH.cons rfl (fun K hK => ?_) AllReadyH.nil
  go_simp
  refine (HCF.out _ _ ?_).mono ?_
  · rw [HFL.out]
  rintro e y10 ⟨rfl, hb10⟩
  have Q_10 := Lib.hid (hHeld.out.keep hb10)
  have b_10 := b_5.trans (hb10.mono b_5.size)
  clear hHeld hb10
  refine hK.out _ _ Q_10 (fun hHeld => ?_)
  clear hK K
  try simp only [Act.put, List.setIfInBounds_toArray, List.set_cons_zero, List.set_cons_succ]
  refine takeH (i := 47) (d := some 72) (v := ?_) rfl rfl (by kernel_rfl) (by kernel_rfl) (by kernel_rfl) (fun _ _ _ h => h) (Or.inl ⟨by rfl, ?_⟩) hHeld ?_
  rotate_left
  · intro w' hSw; (try dsimp only at hSw); go_simp; try with_reducible rfl
  simp only [Act.put, List.setIfInBounds_toArray, List.set_cons_zero, List.set_cons_succ]
  refine wpAnyH_ready (rs := [51]) (by kernel_rfl) (by simp) ?_
  refine AllReadyH.cons rfl (fun K hK => ?_) AllReadyH.nil
  go_simp
  refine (HW.out _ _ ?_).mono ?_
  · omega
  rintro e y11 ⟨rfl, hb11⟩
  have Q_11 := Lib.hid (hHeld.out.keep hb11)
  have b_11 := b_10.trans (hb11.mono b_10.size)
  clear hHeld hb11
  refine hK.out _ _ Q_11 (fun hHeld => ?_)
  clear hK K
  try simp only [Act.put, List.setIfInBounds_toArray, List.set_cons_zero, List.set_cons_succ]
  refine takeH (i := 52) (d := some 77) (v := ?_) rfl rfl (by kernel_rfl) (by kernel_rfl) (by kernel_rfl) (fun _ _ _ h => h) (Or.inl ⟨by rfl, ?_⟩) hHeld ?_
  rotate_left
  · intro w' hSw; (try dsimp only at hSw); go_simp; try with_reducible rfl
  simp only [Act.put, List.setIfInBounds_toArray, List.set_cons_zero, List.set_cons_succ]
  refine takeH (i := 53) (d := some 6) (v := ?_) rfl rfl (by kernel_rfl) (by kernel_rfl) (by kernel_rfl) (fun _ _ _ h => h) (Or.inl ⟨by rfl, ?_⟩) hHeld ?_
  rotate_left
  · intro w' hSw; (try dsimp only at hSw); go_simp; try with_reducible rfl
  simp only [Act.put, List.setIfInBounds_toArray, List.set_cons_zero, List.set_cons_succ]
  refine wpAnyH_done (by kernel_rfl) ?_ _
  go_wp2_with fail
  refine wp_region_held_drew (S := fun w' => Hid (GB w.heap.size g w')) (by kernel_rfl) (Lib.hid hHeld.out.drew) (fun hHeld => ?_)
  refine takeH (i := 3) (d := some 81) (v := ?_) rfl rfl (by kernel_rfl) (by kernel_rfl) (by kernel_rfl) (fun _ _ _ h => h) (Or.inl ⟨by rfl, ?_⟩) hHeld ?_
  rotate_left
  · intro w' hSw; (try dsimp only at hSw); go_simp; try with_reducible rfl
  simp only [Act.put, List.setIfInBounds_toArray, List.set_cons_zero, List.set_cons_succ]
  refine takeH (i := 5) (d := some 83) (v := ?_) rfl rfl (by kernel_rfl) (by kernel_rfl) (by kernel_rfl) (fun _ _ _ h => h) (Or.inl ⟨by rfl, ?_⟩) hHeld ?_
  rotate_left
  · intro w' hSw; (try dsimp only at hSw); go_simp; try with_reducible rfl
  simp only [Act.put, List.setIfInBounds_toArray, List.set_cons_zero, List.set_cons_succ]
  refine takeH (i := 6) (d := some 84) (v := ?_) rfl rfl (by kernel_rfl) (by kernel_rfl) (by kernel_rfl) (fun _ _ _ h => h) (Or.inl ⟨by rfl, ?_⟩) hHeld ?_
  rotate_left
  · intro w' hSw; (try dsimp only at hSw); have hc := hSw.out.c12; clear hSw; go_simp; try with_reducible rfl
  simp only [Act.put, List.setIfInBounds_toArray, List.set_cons_zero, List.set_cons_succ]
  refine wpAnyH_ready (rs := [0]) (by kernel_rfl) (by simp) ?_
  refine AllReadyH.cons rfl (fun K hK => ?_) AllReadyH.nil
  go_simp
  refine (H0.out _).mono ?_
  rintro e y12 ⟨rfl, hb12⟩
  have Q_12 := Lib.hid (hHeld.out.keep hb12)
  have b_12 := b_11.drew.trans (hb12.mono b_11.drew.size)
  clear hHeld hb12
  refine hK.out _ _ Q_12 (fun hHeld => ?_)
  clear hK K
  try simp only [Act.put, List.setIfInBounds_toArray, List.set_cons_zero, List.set_cons_succ]
  refine wpAnyH_ready (rs := [1]) (by kernel_rfl) (by simp) ?_
  refine AllReadyH.cons rfl (fun K hK => ?_) AllReadyH.nil
  go_simp
  refine (H0.out _).mono ?_
  rintro e y13 ⟨rfl, hb13⟩
  have Q_13 := Lib.hid (hHeld.out.keep hb13)
  have b_13 := b_12.trans (hb13.mono b_12.size)
  clear hHeld hb13
  refine hK.out _ _ Q_13 (fun hHeld => ?_)
  clear hK K
  try simp only [Act.put, List.setIfInBounds_toArray, List.set_cons_zero, List.set_cons_succ]
  refine takeH (i := 2) (d := some 80) (v := ?_) rfl rfl (by kernel_rfl) (by kernel_rfl) (by kernel_rfl) (fun _ _ _ h => h) (Or.inl ⟨by rfl, ?_⟩) hHeld ?_
  rotate_left
  · intro w' hSw; (try dsimp only at hSw); go_simp; try with_reducible rfl
  simp only [Act.put, List.setIfInBounds_toArray, List.set_cons_zero, List.set_cons_succ]
  refine takeH (i := 4) (d := some 82) (v := ?_) rfl rfl (by kernel_rfl) (by kernel_rfl) (by kernel_rfl) (fun _ _ _ h => h) (Or.inl ⟨by rfl, ?_⟩) hHeld ?_
  rotate_left
  · intro w' hSw; (try dsimp only at hSw); go_simp; try with_reducible rfl
  simp only [Act.put, List.setIfInBounds_toArray, List.set_cons_zero, List.set_cons_succ]
  refine takeH (i := 7) (d := some 85) (v := ?_) rfl rfl (by kernel_rfl) (by kernel_rfl) (by kernel_rfl) (fun _ _ _ h => h) (Or.inl ⟨by rfl, ?_⟩) hHeld ?_
  rotate_left
  · intro w' hSw; (try dsimp only at hSw); go_simp; try with_reducible rfl
  simp only [Act.put, List.setIfInBounds_toArray, List.set_cons_zero, List.set_cons_succ]
  refine takeH (i := 8) (d := some 7) (v := ?_) rfl rfl (by kernel_rfl) (by kernel_rfl) (by kernel_rfl) (fun _ _ _ h => h) (Or.inl ⟨by rfl, ?_⟩) hHeld ?_
  rotate_left
  · intro w' hSw; (try dsimp only at hSw); go_simp; try with_reducible rfl
  simp only [Act.put, List.setIfInBounds_toArray, List.set_cons_zero, List.set_cons_succ]
  refine wpAnyH_done (by kernel_rfl) ?_ _
  have x0 := hHeld.out.c0
  have x2 := hHeld.out.c2
  go_wp2_with fail
  refine (HP.out _ _ ?_).mono ?_
  · first | rfl | omega
  rintro e k1 ⟨rfl, hk1⟩
  have bk1 := b_13.trans (hk1.mono b_13.size)
  clear x0 x2 hHeld
  go_wp2_with fail
  refine (HR.out _).mono ?_; rintro e k2 ⟨rfl, hk2⟩
  have bk2 := bk1.trans (hk2.mono bk1.size)
  go_wp2_with fail
  refine (HS.out _ _ ?_).mono ?_
  · rw [HUS.out]
  rintro e k3 ⟨rfl, hk3⟩
  have bk3 := bk2.trans (hk3.mono bk2.size)
  go_wp2
  go_ret2
  exact ⟨rfl, bk3⟩
end Go.Proofs.Ytggoipdmiajckaa
