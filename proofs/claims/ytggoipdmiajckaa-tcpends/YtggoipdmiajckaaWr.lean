/-
  Contract of Write (package tcp).
-/
import Derived.Test.YtggoipdmiajckaaCk
import Derived.Test.YtggoipdmiajckaaLn
import Derived.Deep.CutRange
namespace Go.Proofs.Ytggoipdmiajckaa
open Go.RowKit
set_option linter.unusedVariables false
set_option linter.unusedSimpArgs false

/-- The byte that tells the words. -/
def wb (g : Sg) : Nat := if g.mss = 0 then 80 else 96
/-- The bytes ahead of the check sum. -/
def ah (g : Sg) : ByteArray := wd g.sp.toNat ++ wd g.dp.toNat ++ w4 g.sq ++ w4 g.ak ++ wd (wb g * 256 + fl g) ++ wd g.win.toNat
theorem ah_sz (g : Sg) : (ah g).size = 16 := by unfold ah; simp only [ByteArray.size_append, wd_sz, w4_sz]
/-- The bytes behind it. -/
def bh (g : Sg) : ByteArray := wd 0 ++ op g.mss ++ g.body
theorem bh_sz (g : Sg) : (bh g).size = 2 + (op g.mss).size + g.body.size := by unfold bh; simp only [ByteArray.size_append, wd_sz]
/-- The check sum of a segment. -/
def us (g : Sg) : Nat := cs g.sa g.da (ah g) (bh g)
/-- The bytes of a segment. -/
def uw (g : Sg) : ByteArray := ah g ++ wd (us g) ++ bh g
theorem uw_sz (g : Sg) : (uw g).size = 20 + (op g.mss).size + g.body.size := by unfold uw; simp only [ByteArray.size_append, ah_sz, bh_sz, wd_sz]; omega

theorem write_bad (g : Sg) (w : World) (h : gchk g ≠ 0) :
    Calls Try.prog 8 #[gv g] w fun e w' => e = .returned (.tuple #[.string ⟨#[]⟩, .int .i64 (gchk g)]) ∧ Below w.heap.size w w' := by
  have HC : Hid (∀ w', Calls Try.prog 10 #[gv g] w' fun e w'' => e = .returned (.int .i64 (gchk g)) ∧ Below w'.heap.size w' w'') := fun w' => gchk_any g w'
  have b0 : Below w.heap.size w (w.alloc (.cells (gc g) 26)) := (Below.refl _ _).alloc (Nat.le_refl _) _
  generalize gchk g = c at *
  have hne : (c != 0) = true := by simpa using h
  go_enter Try.func8, Try.ntmps8
  go_wp2_with fail
  refine (HC.out _).mono ?_; rintro e w1 ⟨rfl, hb1⟩
  go_wp2
  go_ret2
  exact ⟨rfl, b0.trans (hb1.mono (by simp))⟩

theorem conv_two (B F : Nat) (hB : B ≤ 255) (hF : F ≤ 255) (W : World) (k : Nat) (h : W.heap[k]? = some (.cells #[.int .u8 (B : Int), .int .u8 (F : Int)] 5 (0, 0))) :
    (convert 44 9 (.slice (some ⟨k, 0, none⟩) 2 2)).run Try.prog W = .ok (.string (wd (B * 256 + F))) W := by
  refine conv_at h [UInt8.ofNat ((B * 256 + F) / 256), UInt8.ofNat (B * 256 + F)] 2 2 rfl ?_
  simp only [List.map_cons, List.map_nil, UInt8.toNat_ofNat']
  rw [show (B * 256 + F) / 256 % 2 ^ 8 = B from by omega, show (B * 256 + F) % 2 ^ 8 = F from by omega]

set_option maxHeartbeats 4000000 in
theorem write_ok (g : Sg) (w : World) (h : gchk g = 0) (hsa : g.sa < 4294967296) (hda : g.da < 4294967296) (hsq : g.sq < 4294967296) (hak : g.ak < 4294967296) :
    Calls Try.prog 8 #[gv g] w fun e w' => e = .returned (.tuple #[.string (uw g), .int .i64 0]) ∧ Below w.heap.size w w' := by
  obtain ⟨p1, p2, p3, p4, p5, p6, p7, p8, _, hs⟩ := gchk_ok h
  have HC : Hid (∀ w', Calls Try.prog 10 #[gv g] w' fun e w'' => e = .returned (.int .i64 0) ∧ Below w'.heap.size w' w'') := fun w' => by
    have := gchk_any g w'
    rwa [h] at this
  have zo : (op g.mss).size ≤ 4 := by rw [op_sz]; split <;> omega
  have wl : wb g ≤ 96 := by unfold wb; split <;> omega
  obtain ⟨WW, e1, e2, e3, e6, e7, e8⟩ : ∃ WW : Int, (20 + ((op g.mss).size : Int)).tdiv 4 = WW ∧ (20 + ((op g.mss).size : Int)) / 4 = WW ∧ IntKind.i64.wrap (WW * 16) = (wb g : Int) ∧ 0 ≤ WW ∧ WW ≤ 100 ∧ wrap64 WW = WW := by
    rw [op_sz]; unfold wb
    by_cases hm : g.mss = 0
    · rw [if_pos hm, if_pos hm]; exact ⟨5, by decide, by decide, by decide, by decide, by decide, by simp [wrap64]⟩
    · rw [if_neg hm, if_neg hm]; exact ⟨6, by decide, by decide, by decide, by decide, by decide, by simp [wrap64]⟩
  have e4 : IntKind.u8.wrap (wb g : Int) = (wb g : Int) := by rw [IntKind.wrap_u8]; omega
  have e5 : IntKind.i64.wrap (20 + ((op g.mss).size : Int)) = 20 + ((op g.mss).size : Int) := by rw [IntKind.wrap_i64]; omega
  have HO : Hid (∀ w', Calls Try.prog 18 #[.int .i64 g.mss] w' fun e w'' => e = .returned (.string (op g.mss)) ∧ Below w'.heap.size w' w'') := fun w' => options_any _ w' p7 p8
  have HA : Hid (∀ w', Calls Try.prog 19 #[.int .i64 g.sp] w' fun e w'' => e = .returned (.string (wd g.sp.toNat)) ∧ Below w'.heap.size w' w'') := fun w' => utwoN _ _ (by omega) (by omega) w'
  have HB : Hid (∀ w', Calls Try.prog 19 #[.int .i64 g.dp] w' fun e w'' => e = .returned (.string (wd g.dp.toNat)) ∧ Below w'.heap.size w' w'') := fun w' => utwoN _ _ (by omega) (by omega) w'
  have HW : Hid (∀ w', Calls Try.prog 19 #[.int .i64 g.win] w' fun e w'' => e = .returned (.string (wd g.win.toNat)) ∧ Below w'.heap.size w' w'') := fun w' => utwoN _ _ (by omega) (by omega) w'
  have HQ : Hid (∀ w', Calls Try.prog 20 #[.int .u32 (g.sq : Int)] w' fun e w'' => e = .returned (.string (w4 g.sq)) ∧ Below w'.heap.size w' w'') := fun w' => ufour_any _ w' hsq
  have HI : Hid (∀ w', Calls Try.prog 20 #[.int .u32 (g.ak : Int)] w' fun e w'' => e = .returned (.string (w4 g.ak)) ∧ Below w'.heap.size w' w'') := fun w' => ufour_any _ w' hak
  have HF : Hid (∀ w', Calls Try.prog 21 #[gv g] w' fun e w'' => e = .returned (.int .u8 (fl g : Int)) ∧ Below w'.heap.size w' w'') := fun w' => flags_any g w'
  have HZ : Hid (∀ w', Calls Try.prog 19 #[.int .i64 0] w' fun e w'' => e = .returned (.string (wd 0)) ∧ Below w'.heap.size w' w'') := fun w' => utwoN 0 0 rfl (by omega) w'
  have HV : Hid (∀ (W : World) k, W.heap[k]? = some (.cells #[.int .u8 (wb g : Int), .int .u8 (fl g : Int)] 5 (0, 0)) → (convert 44 9 (.slice (some ⟨k, 0, none⟩) 2 2)).run Try.prog W = .ok (.string (wd (wb g * 256 + fl g))) W) := fun W k hk => by
    exact conv_two (wb g) (fl g) (by omega) (by have := fl_le g; omega) W k hk
  have HK : Hid (∀ w', Calls Try.prog 22 #[.int .u32 (g.sa : Int), .int .u32 (g.da : Int), .string (ah g), .string (bh g)] w' fun e w'' => e = .returned (.int .i64 (us g : Int)) ∧ Below w'.heap.size w' w'') := fun w' => checkSum_any _ _ _ _ w' hsa hda (by rw [ah_sz]; omega) (by rw [bh_sz]; omega)
  have hus : us g ≤ 65535 := cs_le _ _ _ _
  have HS : Hid (∀ w', Calls Try.prog 19 #[.int .i64 (us g : Int)] w' fun e w'' => e = .returned (.string (wd (us g))) ∧ Below w'.heap.size w' w'') := fun w' => utwoN _ _ rfl hus w'
  have t1 : ∀ w', (Op.stringOp .add (wd g.sp.toNat) (wd g.dp.toNat)).run Try.prog w' = .ok (.string (wd g.sp.toNat ++ wd g.dp.toNat)) w' := fun w' => run_string_add_sum w' _ _ (by simp only [wd_sz]; omega)
  have t2 : ∀ w', (Op.stringOp .add (wd g.sp.toNat ++ wd g.dp.toNat) (w4 g.sq)).run Try.prog w' = .ok (.string (wd g.sp.toNat ++ wd g.dp.toNat ++ w4 g.sq)) w' := fun w' => run_string_add_sum w' _ _ (by simp only [ByteArray.size_append, wd_sz, w4_sz]; omega)
  have t3 : ∀ w', (Op.stringOp .add (wd g.sp.toNat ++ wd g.dp.toNat ++ w4 g.sq) (w4 g.ak)).run Try.prog w' = .ok (.string (wd g.sp.toNat ++ wd g.dp.toNat ++ w4 g.sq ++ w4 g.ak)) w' := fun w' => run_string_add_sum w' _ _ (by simp only [ByteArray.size_append, wd_sz, w4_sz]; omega)
  have t4 : ∀ w', (Op.stringOp .add (wd g.sp.toNat ++ wd g.dp.toNat ++ w4 g.sq ++ w4 g.ak) (wd (wb g * 256 + fl g))).run Try.prog w' = .ok (.string (wd g.sp.toNat ++ wd g.dp.toNat ++ w4 g.sq ++ w4 g.ak ++ wd (wb g * 256 + fl g))) w' := fun w' => run_string_add_sum w' _ _ (by simp only [ByteArray.size_append, wd_sz, w4_sz]; omega)
  have t5 : ∀ w', (Op.stringOp .add (wd g.sp.toNat ++ wd g.dp.toNat ++ w4 g.sq ++ w4 g.ak ++ wd (wb g * 256 + fl g)) (wd g.win.toNat)).run Try.prog w' = .ok (.string (ah g)) w' := fun w' => run_string_add_sum w' _ _ (by simp only [ByteArray.size_append, wd_sz, w4_sz]; omega)
  have t6 : ∀ w', (Op.stringOp .add (wd 0) (op g.mss)).run Try.prog w' = .ok (.string (wd 0 ++ op g.mss)) w' := fun w' => run_string_add_sum w' _ _ (by simp only [wd_sz]; omega)
  have t7 : ∀ w', (Op.stringOp .add (wd 0 ++ op g.mss) g.body).run Try.prog w' = .ok (.string (bh g)) w' := fun w' => run_string_add_sum w' _ _ (by simp only [ByteArray.size_append, wd_sz]; omega)
  have t8 : ∀ w', (Op.stringOp .add (ah g) (wd (us g))).run Try.prog w' = .ok (.string (ah g ++ wd (us g))) w' := fun w' => run_string_add_sum w' _ _ (by simp only [ah_sz, wd_sz]; omega)
  have t9 : ∀ w', (Op.stringOp .add (ah g ++ wd (us g)) (bh g)).run Try.prog w' = .ok (.string (uw g)) w' := fun w' => run_string_add_sum w' _ _ (by simp only [ByteArray.size_append, ah_sz, bh_sz, wd_sz]; omega)
  have b0 : Below w.heap.size w (w.alloc (.cells (gc g) 26)) := (Below.refl _ _).alloc (Nat.le_refl _) _
  have P0 := Lib.hid (GB.new w g)
  clear zo wl
  generalize uw g = R at *
  generalize ah g ++ wd (us g) = R1 at *
  generalize wd (us g) = X at *
  generalize us g = U at *
  generalize bh g = V at *
  generalize wd 0 ++ op g.mss = V1 at *
  generalize op g.mss = O at *
  generalize wd 0 = Z at *
  generalize ah g = F6 at *
  generalize wd g.sp.toNat ++ wd g.dp.toNat ++ w4 g.sq ++ w4 g.ak ++ wd (wb g * 256 + fl g) = F5 at *
  generalize wd g.sp.toNat ++ wd g.dp.toNat ++ w4 g.sq ++ w4 g.ak = F4 at *
  generalize wd g.sp.toNat ++ wd g.dp.toNat ++ w4 g.sq = F3 at *
  generalize wd g.sp.toNat ++ wd g.dp.toNat = F2 at *
  generalize wd (wb g * 256 + fl g) = A5 at *
  generalize wd g.sp.toNat = A1 at *
  generalize wd g.dp.toNat = A2 at *
  generalize w4 g.sq = A3 at *
  generalize w4 g.ak = A4 at *
  generalize wd g.win.toNat = A6 at *
  generalize fl g = F at *
  generalize wb g = B at *
  clear h
  go_enter Try.func8, Try.ntmps8
  go_wp2_with fail
  refine (HC.out _).mono ?_; rintro e w1 ⟨rfl, hb1⟩
  have P1 := Lib.hid (P0.out.keep hb1)
  have b1 := b0.trans (hb1.mono (by simp))
  have x11 := P1.out.c11
  go_wp2_with fail
  refine (HO.out _).mono ?_; rintro e w2 ⟨rfl, hb2⟩
  have P2 := Lib.hid (P1.out.keep hb2)
  have b2 : Below w.heap.size w w2.drew := (b1.trans (hb2.mono b1.size)).drew
  clear x11 P0 P1 hb1 hb2 b0 b1
  go_wp2_with fail
  go_cut [7] from 22 to 50 (fun v wc => v = .string F6 ∧ GB w.heap.size g wc ∧ Below w.heap.size w wc)
  case first =>
    refine wp_region_held_drew (S := fun w' => Hid (GB w.heap.size g w')) (by kernel_rfl) (Lib.hid P2.out.drew) (fun hHeld => ?_)
    refine takeH (i := 0) (d := some 22) (v := ?_) rfl rfl (by kernel_rfl) (by kernel_rfl) (by kernel_rfl) (fun _ _ _ h => h) (Or.inl ⟨by rfl, ?_⟩) hHeld ?_
    rotate_left
    · intro w' hSw; (try dsimp only at hSw); go_simp; try with_reducible rfl
    simp only [Act.put, List.setIfInBounds_toArray, List.set_cons_zero, List.set_cons_succ]
    refine takeH (i := 1) (d := some 23) (v := ?_) rfl rfl (by kernel_rfl) (by kernel_rfl) (by kernel_rfl) (fun _ _ _ h => h) (Or.inl ⟨by rfl, ?_⟩) hHeld ?_
    rotate_left
    · intro w' hSw; (try dsimp only at hSw); go_simp; try with_reducible rfl
    simp only [Act.put, List.setIfInBounds_toArray, List.set_cons_zero, List.set_cons_succ]
    refine takeH (i := 4) (d := some 26) (v := ?_) rfl rfl (by kernel_rfl) (by kernel_rfl) (by kernel_rfl) (fun _ _ _ h => h) (Or.inl ⟨by rfl, ?_⟩) hHeld ?_
    rotate_left
    · intro w' hSw; (try dsimp only at hSw); go_simp; try with_reducible rfl
    simp only [Act.put, List.setIfInBounds_toArray, List.set_cons_zero, List.set_cons_succ]
    refine takeH (i := 5) (d := some 27) (v := ?_) rfl rfl (by kernel_rfl) (by kernel_rfl) (by kernel_rfl) (fun _ _ _ h => h) (Or.inl ⟨by rfl, ?_⟩) hHeld ?_
    rotate_left
    · intro w' hSw; (try dsimp only at hSw); go_simp; try with_reducible rfl
    simp only [Act.put, List.setIfInBounds_toArray, List.set_cons_zero, List.set_cons_succ]
    refine takeH (i := 9) (d := some 31) (v := ?_) rfl rfl (by kernel_rfl) (by kernel_rfl) (by kernel_rfl) (fun _ _ _ h => h) (Or.inl ⟨by rfl, ?_⟩) hHeld ?_
    rotate_left
    · intro w' hSw; (try dsimp only at hSw); go_simp; try with_reducible rfl
    simp only [Act.put, List.setIfInBounds_toArray, List.set_cons_zero, List.set_cons_succ]
    refine takeH (i := 13) (d := some 35) (v := ?_) rfl rfl (by kernel_rfl) (by kernel_rfl) (by kernel_rfl) (fun _ _ _ h => h) (Or.inl ⟨by rfl, ?_⟩) hHeld ?_
    rotate_left
    · intro w' hSw; (try dsimp only at hSw); go_simp; try with_reducible rfl
    simp only [Act.put, List.setIfInBounds_toArray, List.set_cons_zero, List.set_cons_succ]
    refine takeH (i := 25) (d := some 47) (v := ?_) rfl rfl (by kernel_rfl) (by kernel_rfl) (by kernel_rfl) (fun _ _ _ h => h) (Or.inl ⟨by rfl, ?_⟩) hHeld ?_
    rotate_left
    · intro w' hSw; (try dsimp only at hSw); go_simp; try with_reducible rfl
    simp only [Act.put, List.setIfInBounds_toArray, List.set_cons_zero, List.set_cons_succ]
    refine takeH (i := 2) (d := some 24) (v := ?_) rfl rfl (by kernel_rfl) (by kernel_rfl) (by kernel_rfl) (fun _ _ _ h => h) (Or.inl ⟨by rfl, ?_⟩) hHeld ?_
    rotate_left
    · intro w' hSw; (try dsimp only at hSw); have hc := hSw.out.c1; clear hSw; go_simp; try with_reducible rfl
    simp only [Act.put, List.setIfInBounds_toArray, List.set_cons_zero, List.set_cons_succ]
    refine takeH (i := 6) (d := some 28) (v := ?_) rfl rfl (by kernel_rfl) (by kernel_rfl) (by kernel_rfl) (fun _ _ _ h => h) (Or.inl ⟨by rfl, ?_⟩) hHeld ?_
    rotate_left
    · intro w' hSw; (try dsimp only at hSw); have hc := hSw.out.c3; clear hSw; go_simp; try with_reducible rfl
    simp only [Act.put, List.setIfInBounds_toArray, List.set_cons_zero, List.set_cons_succ]
    refine takeH (i := 10) (d := some 32) (v := ?_) rfl rfl (by kernel_rfl) (by kernel_rfl) (by kernel_rfl) (fun _ _ _ h => h) (Or.inl ⟨by rfl, ?_⟩) hHeld ?_
    rotate_left
    · intro w' hSw; (try dsimp only at hSw); have hc := hSw.out.c4; clear hSw; go_simp; try with_reducible rfl
    simp only [Act.put, List.setIfInBounds_toArray, List.set_cons_zero, List.set_cons_succ]
    refine takeH (i := 14) (d := some 36) (v := ?_) rfl rfl (by kernel_rfl) (by kernel_rfl) (by kernel_rfl) (fun _ _ _ h => h) (Or.inl ⟨by rfl, ?_⟩) hHeld ?_
    rotate_left
    · intro w' hSw; (try dsimp only at hSw); have hc := hSw.out.c5; clear hSw; go_simp; try with_reducible rfl
    simp only [Act.put, List.setIfInBounds_toArray, List.set_cons_zero, List.set_cons_succ]
    refine takeH (i := 26) (d := some 48) (v := ?_) rfl rfl (by kernel_rfl) (by kernel_rfl) (by kernel_rfl) (fun _ _ _ h => h) (Or.inl ⟨by rfl, ?_⟩) hHeld ?_
    rotate_left
    · intro w' hSw; (try dsimp only at hSw); have hc := hSw.out.c10; clear hSw; go_simp; try with_reducible rfl
    simp only [Act.put, List.setIfInBounds_toArray, List.set_cons_zero, List.set_cons_succ]
    refine takeH (i := 20) (d := some 42) (v := ?_) rfl rfl (by kernel_rfl) (by kernel_rfl) (by kernel_rfl) (fun _ _ _ h => h) (Or.inl ⟨by rfl, ?_⟩) hHeld ?_
    rotate_left
    · intro w' hSw; (try dsimp only at hSw); have h0 := hSw.out.c0; have h1 := hSw.out.c1; have h2 := hSw.out.c2; have h3 := hSw.out.c3; have h4 := hSw.out.c4; have h5 := hSw.out.c5; have h6 := hSw.out.c6; have h7 := hSw.out.c7; have h8 := hSw.out.c8; have h9 := hSw.out.c9; have h10 := hSw.out.c10; have h11 := hSw.out.c11; have h12 := hSw.out.c12; clear hSw; go_simp; try with_reducible rfl
    simp only [Act.put, List.setIfInBounds_toArray, List.set_cons_zero, List.set_cons_succ]
    refine takeH (i := 17) (d := some 39) (v := ?_) rfl rfl (by kernel_rfl) (by kernel_rfl) (by kernel_rfl) (fun _ _ _ h => h) (Or.inl ⟨by rfl, ?_⟩) hHeld ?_
    rotate_left
    · intro w' hSw; (try dsimp only at hSw); go_simp; try with_reducible rfl
    simp only [Act.put, List.setIfInBounds_toArray, List.set_cons_zero, List.set_cons_succ]
    refine takeH (i := 18) (d := some 40) (v := ?_) rfl rfl (by kernel_rfl) (by kernel_rfl) (by kernel_rfl) (fun _ _ _ h => h) (Or.inl ⟨by rfl, ?_⟩) hHeld ?_
    rotate_left
    · intro w' hSw; (try dsimp only at hSw); go_simp; try with_reducible rfl
    simp only [Act.put, List.setIfInBounds_toArray, List.set_cons_zero, List.set_cons_succ]
    refine takeH (i := 19) (d := some 41) (v := ?_) rfl rfl (by kernel_rfl) (by kernel_rfl) (by kernel_rfl) (fun _ _ _ h => h) (Or.inl ⟨by rfl, ?_⟩) hHeld ?_
    rotate_left
    · intro w' hSw; (try dsimp only at hSw); go_simp; try with_reducible rfl
    simp only [Act.put, List.setIfInBounds_toArray, List.set_cons_zero, List.set_cons_succ]
    refine wpAnyH_ready (rs := [3]) (by kernel_rfl) (by simp) ?_
    refine AllReadyH.cons rfl (fun K hK => ?_) AllReadyH.nil
    go_simp
    refine (HA.out _).mono ?_; rintro e y1 ⟨rfl, hb1⟩
    have Q_1 := Lib.hid (hHeld.out.keep hb1)
    have b_1 := b2.trans (hb1.mono b2.size)
    clear hHeld
    refine hK.out _ _ Q_1 (fun hHeld => ?_)
    clear hK K
    try simp only [Act.put, List.setIfInBounds_toArray, List.set_cons_zero, List.set_cons_succ]
    refine wpAnyH_ready (rs := [7]) (by kernel_rfl) (by simp) ?_
    refine AllReadyH.cons rfl (fun K hK => ?_) AllReadyH.nil
    go_simp
    refine (HB.out _).mono ?_; rintro e y2 ⟨rfl, hb2⟩
    have Q_2 := Lib.hid (hHeld.out.keep hb2)
    have b_2 := b_1.trans (hb2.mono b_1.size)
    clear hHeld
    refine hK.out _ _ Q_2 (fun hHeld => ?_)
    clear hK K
    try simp only [Act.put, List.setIfInBounds_toArray, List.set_cons_zero, List.set_cons_succ]
    refine takeH (i := 8) (d := some 30) (v := ?_) rfl rfl (by kernel_rfl) (by kernel_rfl) (by kernel_rfl) (fun _ _ _ h => h) (Or.inl ⟨by rfl, ?_⟩) hHeld ?_
    rotate_left
    · intro w' hSw; (try dsimp only at hSw); go_simp; try with_reducible rfl
    simp only [Act.put, List.setIfInBounds_toArray, List.set_cons_zero, List.set_cons_succ]
    refine wpAnyH_ready (rs := [11]) (by kernel_rfl) (by simp) ?_
    refine AllReadyH.cons rfl (fun K hK => ?_) AllReadyH.nil
    go_simp
    refine (HQ.out _).mono ?_; rintro e y3 ⟨rfl, hb3⟩
    have Q_3 := Lib.hid (hHeld.out.keep hb3)
    have b_3 := b_2.trans (hb3.mono b_2.size)
    clear hHeld
    refine hK.out _ _ Q_3 (fun hHeld => ?_)
    clear hK K
    try simp only [Act.put, List.setIfInBounds_toArray, List.set_cons_zero, List.set_cons_succ]
    refine takeH (i := 12) (d := some 34) (v := ?_) rfl rfl (by kernel_rfl) (by kernel_rfl) (by kernel_rfl) (fun _ _ _ h => h) (Or.inl ⟨by rfl, ?_⟩) hHeld ?_
    rotate_left
    · intro w' hSw; (try dsimp only at hSw); go_simp; try with_reducible rfl
    simp only [Act.put, List.setIfInBounds_toArray, List.set_cons_zero, List.set_cons_succ]
    refine wpAnyH_ready (rs := [15]) (by kernel_rfl) (by simp) ?_
    refine AllReadyH.cons rfl (fun K hK => ?_) AllReadyH.nil
    go_simp
    refine (HI.out _).mono ?_; rintro e y4 ⟨rfl, hb4⟩
    have Q_4 := Lib.hid (hHeld.out.keep hb4)
    have b_4 := b_3.trans (hb4.mono b_3.size)
    clear hHeld
    refine hK.out _ _ Q_4 (fun hHeld => ?_)
    clear hK K
    try simp only [Act.put, List.setIfInBounds_toArray, List.set_cons_zero, List.set_cons_succ]
    refine takeH (i := 16) (d := some 38) (v := ?_) rfl rfl (by kernel_rfl) (by kernel_rfl) (by kernel_rfl) (fun _ _ _ h => h) (Or.inl ⟨by rfl, ?_⟩) hHeld ?_
    rotate_left
    · intro w' hSw; (try dsimp only at hSw); go_simp; try with_reducible rfl
    simp only [Act.put, List.setIfInBounds_toArray, List.set_cons_zero, List.set_cons_succ]
    refine wpAnyH_ready (rs := [21]) (by kernel_rfl) (by simp) ?_
    refine AllReadyH.cons rfl (fun K hK => ?_) AllReadyH.nil
    go_simp
    refine (HF.out _).mono ?_; rintro e y5 ⟨rfl, hb5⟩
    have Q_5 := Lib.hid (hHeld.out.keep hb5)
    have b_5 := b_4.trans (hb5.mono b_4.size)
    clear hHeld
    refine hK.out _ _ Q_5 (fun hHeld => ?_)
    clear hK K
    try simp only [Act.put, List.setIfInBounds_toArray, List.set_cons_zero, List.set_cons_succ]
    refine wpAnyH_ready (rs := [22, 27]) (by kernel_rfl) (by simp) ?_
    refine AllReadyH.cons rfl (fun K hK => ?_) (AllReadyH.cons rfl (fun K hK => ?_) AllReadyH.nil)
    · go_simp
      have Q_a := Lib.hid (hHeld.out.alloc (.cells #[.int .u8 (B : Int), .int .u8 (F : Int)] 5))
      have G_a : Hid ((World.alloc y5 (.cells #[.int .u8 (B : Int), .int .u8 (F : Int)] 5)).heap[y5.heap.size]? = some (.cells #[.int .u8 (B : Int), .int .u8 (F : Int)] 5 (0, 0))) := heap_alloc_new y5 _
      have b_a := b_5.alloc b_5.size (.cells #[.int .u8 (B : Int), .int .u8 (F : Int)] 5)
      clear hHeld
      refine hK.out _ _ Q_a (fun hHeld => ?_)
      clear hK K
      try simp only [Act.put, List.setIfInBounds_toArray, List.set_cons_zero, List.set_cons_succ]
      refine wpAnyH_ready (rs := [23, 27]) (by kernel_rfl) (by simp) ?_
      refine AllReadyH.cons rfl (fun K hK => ?_) (AllReadyH.cons rfl (fun K hK => ?_) AllReadyH.nil)
      · have cv := HV.out _ _ G_a.out
        go_simp
        clear cv
        have Q_c := hHeld
        clear hHeld
        refine hK.out _ _ Q_c (fun hHeld => ?_)
        clear hK K
        try simp only [Act.put, List.setIfInBounds_toArray, List.set_cons_zero, List.set_cons_succ]
        refine takeH (i := 24) (d := some 46) (v := ?_) rfl rfl (by kernel_rfl) (by kernel_rfl) (by kernel_rfl) (fun _ _ _ h => h) (Or.inl ⟨by rfl, ?_⟩) hHeld ?_
        rotate_left
        · intro w' hSw; (try dsimp only at hSw); go_simp; try with_reducible rfl
        simp only [Act.put, List.setIfInBounds_toArray, List.set_cons_zero, List.set_cons_succ]
        refine wpAnyH_ready (rs := [27]) (by kernel_rfl) (by simp) ?_
        refine AllReadyH.cons rfl (fun K hK => ?_) AllReadyH.nil
        go_simp
        refine (HW.out _).mono ?_; rintro e y21 ⟨rfl, hb21⟩
        have Q_21 := Lib.hid (hHeld.out.keep hb21)
        have b_21 := b_a.trans (hb21.mono b_a.size)
        clear hHeld
        refine hK.out _ _ Q_21 (fun hHeld => ?_)
        clear hK K
        try simp only [Act.put, List.setIfInBounds_toArray, List.set_cons_zero, List.set_cons_succ]
        refine takeH (i := 28) (d := some 50) (v := ?_) rfl rfl (by kernel_rfl) (by kernel_rfl) (by kernel_rfl) (fun _ _ _ h => h) (Or.inl ⟨by rfl, ?_⟩) hHeld ?_
        rotate_left
        · intro w' hSw; (try dsimp only at hSw); go_simp; try with_reducible rfl
        simp only [Act.put, List.setIfInBounds_toArray, List.set_cons_zero, List.set_cons_succ]
        refine takeH (i := 29) (d := some 7) (v := ?_) rfl rfl (by kernel_rfl) (by kernel_rfl) (by kernel_rfl) (fun _ _ _ h => h) (Or.inl ⟨by rfl, ?_⟩) hHeld ?_
        rotate_left
        · intro w' hSw; (try dsimp only at hSw); go_simp; try with_reducible rfl
        simp only [Act.put, List.setIfInBounds_toArray, List.set_cons_zero, List.set_cons_succ]
        refine wpAnyH_done (by kernel_rfl) ?_ _
        try go_wp2_with fail
        go_meet
        exact ⟨rfl, hHeld.out, b_21⟩
      · go_simp
        refine (HW.out _).mono ?_; rintro e y31 ⟨rfl, hb31⟩
        have Q_31 := Lib.hid (hHeld.out.keep hb31)
        have b_31 := b_a.trans (hb31.mono b_a.size)
        clear hHeld
        refine hK.out _ _ Q_31 (fun hHeld => ?_)
        clear hK K
        try simp only [Act.put, List.setIfInBounds_toArray, List.set_cons_zero, List.set_cons_succ]
        replace G_a := Lib.hid ((hb31.block _ (lt_of_heap G_a.out)).trans G_a.out)
        refine wpAnyH_ready (rs := [23]) (by kernel_rfl) (by simp) ?_
        refine AllReadyH.cons rfl (fun K hK => ?_) AllReadyH.nil
        have cv := HV.out _ _ G_a.out
        go_simp
        clear cv
        have Q_c := hHeld
        clear hHeld
        refine hK.out _ _ Q_c (fun hHeld => ?_)
        clear hK K
        try simp only [Act.put, List.setIfInBounds_toArray, List.set_cons_zero, List.set_cons_succ]
        refine takeH (i := 24) (d := some 46) (v := ?_) rfl rfl (by kernel_rfl) (by kernel_rfl) (by kernel_rfl) (fun _ _ _ h => h) (Or.inl ⟨by rfl, ?_⟩) hHeld ?_
        rotate_left
        · intro w' hSw; (try dsimp only at hSw); go_simp; try with_reducible rfl
        simp only [Act.put, List.setIfInBounds_toArray, List.set_cons_zero, List.set_cons_succ]
        refine takeH (i := 28) (d := some 50) (v := ?_) rfl rfl (by kernel_rfl) (by kernel_rfl) (by kernel_rfl) (fun _ _ _ h => h) (Or.inl ⟨by rfl, ?_⟩) hHeld ?_
        rotate_left
        · intro w' hSw; (try dsimp only at hSw); go_simp; try with_reducible rfl
        simp only [Act.put, List.setIfInBounds_toArray, List.set_cons_zero, List.set_cons_succ]
        refine takeH (i := 29) (d := some 7) (v := ?_) rfl rfl (by kernel_rfl) (by kernel_rfl) (by kernel_rfl) (fun _ _ _ h => h) (Or.inl ⟨by rfl, ?_⟩) hHeld ?_
        rotate_left
        · intro w' hSw; (try dsimp only at hSw); go_simp; try with_reducible rfl
        simp only [Act.put, List.setIfInBounds_toArray, List.set_cons_zero, List.set_cons_succ]
        refine wpAnyH_done (by kernel_rfl) ?_ _
        try go_wp2_with fail
        go_meet
        exact ⟨rfl, hHeld.out, b_31⟩
    · go_simp
      refine (HW.out _).mono ?_; rintro e y41 ⟨rfl, hb41⟩
      have Q_41 := Lib.hid (hHeld.out.keep hb41)
      have b_41 := b_5.trans (hb41.mono b_5.size)
      clear hHeld
      refine hK.out _ _ Q_41 (fun hHeld => ?_)
      clear hK K
      try simp only [Act.put, List.setIfInBounds_toArray, List.set_cons_zero, List.set_cons_succ]
      refine wpAnyH_ready (rs := [22]) (by kernel_rfl) (by simp) ?_
      refine AllReadyH.cons rfl (fun K hK => ?_) AllReadyH.nil
      go_simp
      have Q_a := Lib.hid (hHeld.out.alloc (.cells #[.int .u8 (B : Int), .int .u8 (F : Int)] 5))
      have G_a : Hid ((World.alloc y41 (.cells #[.int .u8 (B : Int), .int .u8 (F : Int)] 5)).heap[y41.heap.size]? = some (.cells #[.int .u8 (B : Int), .int .u8 (F : Int)] 5 (0, 0))) := heap_alloc_new y41 _
      have b_a := b_41.alloc b_41.size (.cells #[.int .u8 (B : Int), .int .u8 (F : Int)] 5)
      clear hHeld
      refine hK.out _ _ Q_a (fun hHeld => ?_)
      clear hK K
      try simp only [Act.put, List.setIfInBounds_toArray, List.set_cons_zero, List.set_cons_succ]
      refine wpAnyH_ready (rs := [23]) (by kernel_rfl) (by simp) ?_
      refine AllReadyH.cons rfl (fun K hK => ?_) AllReadyH.nil
      have cv := HV.out _ _ G_a.out
      go_simp
      clear cv
      have Q_c := hHeld
      clear hHeld
      refine hK.out _ _ Q_c (fun hHeld => ?_)
      clear hK K
      try simp only [Act.put, List.setIfInBounds_toArray, List.set_cons_zero, List.set_cons_succ]
      refine takeH (i := 24) (d := some 46) (v := ?_) rfl rfl (by kernel_rfl) (by kernel_rfl) (by kernel_rfl) (fun _ _ _ h => h) (Or.inl ⟨by rfl, ?_⟩) hHeld ?_
      rotate_left
      · intro w' hSw; (try dsimp only at hSw); go_simp; try with_reducible rfl
      simp only [Act.put, List.setIfInBounds_toArray, List.set_cons_zero, List.set_cons_succ]
      refine takeH (i := 28) (d := some 50) (v := ?_) rfl rfl (by kernel_rfl) (by kernel_rfl) (by kernel_rfl) (fun _ _ _ h => h) (Or.inl ⟨by rfl, ?_⟩) hHeld ?_
      rotate_left
      · intro w' hSw; (try dsimp only at hSw); go_simp; try with_reducible rfl
      simp only [Act.put, List.setIfInBounds_toArray, List.set_cons_zero, List.set_cons_succ]
      refine takeH (i := 29) (d := some 7) (v := ?_) rfl rfl (by kernel_rfl) (by kernel_rfl) (by kernel_rfl) (fun _ _ _ h => h) (Or.inl ⟨by rfl, ?_⟩) hHeld ?_
      rotate_left
      · intro w' hSw; (try dsimp only at hSw); go_simp; try with_reducible rfl
      simp only [Act.put, List.setIfInBounds_toArray, List.set_cons_zero, List.set_cons_succ]
      refine wpAnyH_done (by kernel_rfl) ?_ _
      try go_wp2_with fail
      go_meet
      exact ⟨rfl, hHeld.out, b_a⟩
  case rest =>
    obtain ⟨rfl, Q, b⟩ := hcut
    have P3 := Lib.hid Q
    clear Q P2 b2
    go_wp2_with fail
    refine wp_region_held_drew (S := fun w' => Hid (GB w.heap.size g w')) (by kernel_rfl) (Lib.hid P3.out.drew) (fun hHeld => ?_)
    refine takeH (i := 1) (d := some 52) (v := ?_) rfl rfl (by kernel_rfl) (by kernel_rfl) (by kernel_rfl) (fun _ _ _ h => h) (Or.inl ⟨by rfl, ?_⟩) hHeld ?_
    rotate_left
    · intro w' hSw; (try dsimp only at hSw); go_simp; try with_reducible rfl
    simp only [Act.put, List.setIfInBounds_toArray, List.set_cons_zero, List.set_cons_succ]
    refine takeH (i := 3) (d := some 54) (v := ?_) rfl rfl (by kernel_rfl) (by kernel_rfl) (by kernel_rfl) (fun _ _ _ h => h) (Or.inl ⟨by rfl, ?_⟩) hHeld ?_
    rotate_left
    · intro w' hSw; (try dsimp only at hSw); go_simp; try with_reducible rfl
    simp only [Act.put, List.setIfInBounds_toArray, List.set_cons_zero, List.set_cons_succ]
    refine takeH (i := 4) (d := some 55) (v := ?_) rfl rfl (by kernel_rfl) (by kernel_rfl) (by kernel_rfl) (fun _ _ _ h => h) (Or.inl ⟨by rfl, ?_⟩) hHeld ?_
    rotate_left
    · intro w' hSw; (try dsimp only at hSw); have hc := hSw.out.c12; clear hSw; go_simp; try with_reducible rfl
    simp only [Act.put, List.setIfInBounds_toArray, List.set_cons_zero, List.set_cons_succ]
    refine wpAnyH_ready (rs := [0]) (by kernel_rfl) (by simp) ?_
    refine AllReadyH.cons rfl (fun K hK => ?_) AllReadyH.nil
    go_simp
    refine (HZ.out _).mono ?_; rintro e y51 ⟨rfl, hb51⟩
    have Q_51 := Lib.hid (hHeld.out.keep hb51)
    have b_51 := b.drew.trans (hb51.mono b.drew.size)
    clear hHeld
    refine hK.out _ _ Q_51 (fun hHeld => ?_)
    clear hK K
    try simp only [Act.put, List.setIfInBounds_toArray, List.set_cons_zero, List.set_cons_succ]
    refine takeH (i := 2) (d := some 53) (v := ?_) rfl rfl (by kernel_rfl) (by kernel_rfl) (by kernel_rfl) (fun _ _ _ h => h) (Or.inl ⟨by rfl, ?_⟩) hHeld ?_
    rotate_left
    · intro w' hSw; (try dsimp only at hSw); go_simp; try with_reducible rfl
    simp only [Act.put, List.setIfInBounds_toArray, List.set_cons_zero, List.set_cons_succ]
    refine takeH (i := 5) (d := some 56) (v := ?_) rfl rfl (by kernel_rfl) (by kernel_rfl) (by kernel_rfl) (fun _ _ _ h => h) (Or.inl ⟨by rfl, ?_⟩) hHeld ?_
    rotate_left
    · intro w' hSw; (try dsimp only at hSw); go_simp; try with_reducible rfl
    simp only [Act.put, List.setIfInBounds_toArray, List.set_cons_zero, List.set_cons_succ]
    refine takeH (i := 6) (d := some 8) (v := ?_) rfl rfl (by kernel_rfl) (by kernel_rfl) (by kernel_rfl) (fun _ _ _ h => h) (Or.inl ⟨by rfl, ?_⟩) hHeld ?_
    rotate_left
    · intro w' hSw; (try dsimp only at hSw); go_simp; try with_reducible rfl
    simp only [Act.put, List.setIfInBounds_toArray, List.set_cons_zero, List.set_cons_succ]
    refine wpAnyH_done (by kernel_rfl) ?_ _
    have x0 := hHeld.out.c0
    have x2 := hHeld.out.c2
    go_wp2_with fail
    refine (HK.out _).mono ?_; rintro e w5 ⟨rfl, hb5⟩
    have b5 := b_51.trans (hb5.mono b_51.size)
    clear x0 x2 hHeld
    go_wp2_with fail
    refine (HS.out _).mono ?_; rintro e w6 ⟨rfl, hb6⟩
    have b6 := b5.trans (hb6.mono b5.size)
    go_wp2
    go_ret2
    exact ⟨rfl, b6⟩

/-- What Write says, whatever is handed in. -/
def wtx (g : Sg) : ByteArray := if gchk g = 0 then uw g else ⟨#[]⟩
theorem write_any (g : Sg) (w : World) (hsa : g.sa < 4294967296) (hda : g.da < 4294967296) (hsq : g.sq < 4294967296) (hak : g.ak < 4294967296) :
    Calls Try.prog 8 #[gv g] w fun e w' => e = .returned (.tuple #[.string (wtx g), .int .i64 (gchk g)]) ∧ Below w.heap.size w w' := by
  by_cases h : gchk g = 0
  · unfold wtx; rw [if_pos h, h]; exact write_ok g w h hsa hda hsq hak
  · unfold wtx; rw [if_neg h]; exact write_bad g w h
end Go.Proofs.Ytggoipdmiajckaa
