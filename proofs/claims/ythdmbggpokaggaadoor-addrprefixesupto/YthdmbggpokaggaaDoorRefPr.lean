/-
  The contract of the document's answer's AddrPrint.
-/
import Derived.Test.YthdmbggpokaggaaDoorRefT
namespace Go.Proofs.YthdmbggpokaggaaDoor
open Go.RowKit
set_option linter.unusedVariables false
set_option linter.unusedSimpArgs false

set_option maxRecDepth 100000 in
set_option maxHeartbeats 1000000 in
theorem rprint_any (a : Nat) (h : a < 4294967296) (w : World) :
    Calls Tryd.prog 11 #[.int .u32 a] w fun e w' => e = .returned (.string ⟨(prtL a).toArray⟩) ∧ Below w.heap.size w w' := by
  have HB : Hid (∀ w', Calls Tryd.prog 28 #[.int .u64 (a : Int), .int .i64 4] w' fun e w'' => e = .returned (.string ⟨(bb a 4).toArray⟩) ∧ Below w'.heap.size w' w'') := fun w' => big_any 4 a w' (by omega) (by omega)
  have HS : Hid (∀ (q : Int) (u : Nat) w', q = (u : Int) → u ≤ 255 → Calls Tryd.prog 29 #[.int .i64 q] w' fun e w'' => e = .returned (.string ⟨(Lib.decDigits u).toArray⟩) ∧ Below w'.heap.size w' w'') := fun q u w' hq hu => by rw [hq]; exact digits_any u w' (by omega)
  have e4 : bb a 4 = [UInt8.ofNat (a / 256 / 256 / 256 % 256), UInt8.ofNat (a / 256 / 256 % 256), UInt8.ofNat (a / 256 % 256), UInt8.ofNat (a % 256)] := by simp [bb]
  have x0 : ∀ w', (Instr.index 9 (.string ⟨(bb a 4).toArray⟩) (.int .i64 0)).run Tryd.prog w' = .ok (.int .u8 ((a / 16777216 : Nat) : Int)) w' := fun w' => by
    have := ba_index (bb a 4) 0 (by rw [bb_length]; omega) w'
    rw [show (((0 : Nat) : Int)) = 0 from rfl] at this
    rw [this]; congr 2
    simp only [e4, List.getElem_cons_zero, UInt8.toNat_ofNat']
    omega
  have x1 : ∀ w', (Instr.index 9 (.string ⟨(bb a 4).toArray⟩) (.int .i64 1)).run Tryd.prog w' = .ok (.int .u8 ((a / 65536 % 256 : Nat) : Int)) w' := fun w' => by
    have := ba_index (bb a 4) 1 (by rw [bb_length]; omega) w'
    rw [show (((1 : Nat) : Int)) = 1 from rfl] at this
    rw [this]; congr 2
    simp only [e4, List.getElem_cons_succ, List.getElem_cons_zero, UInt8.toNat_ofNat']
    omega
  have x2 : ∀ w', (Instr.index 9 (.string ⟨(bb a 4).toArray⟩) (.int .i64 2)).run Tryd.prog w' = .ok (.int .u8 ((a / 256 % 256 : Nat) : Int)) w' := fun w' => by
    have := ba_index (bb a 4) 2 (by rw [bb_length]; omega) w'
    rw [show (((2 : Nat) : Int)) = 2 from rfl] at this
    rw [this]; congr 2
    simp only [e4, List.getElem_cons_succ, List.getElem_cons_zero, UInt8.toNat_ofNat']
    omega
  have x3 : ∀ w', (Instr.index 9 (.string ⟨(bb a 4).toArray⟩) (.int .i64 3)).run Tryd.prog w' = .ok (.int .u8 ((a % 256 : Nat) : Int)) w' := fun w' => by
    have := ba_index (bb a 4) 3 (by rw [bb_length]; omega) w'
    rw [show (((3 : Nat) : Int)) = 3 from rfl] at this
    rw [this]; congr 2
    simp only [e4, List.getElem_cons_succ, List.getElem_cons_zero, UInt8.toNat_ofNat']
    omega
  have l0 := dec_len (a / 16777216) (by omega)
  have l1 := dec_len (a / 65536 % 256) (by omega)
  have l2 := dec_len (a / 256 % 256) (by omega)
  have l3 := dec_len (a % 256) (by omega)
  have HE : Hid ((⟨(prtL a).toArray⟩ : ByteArray) = ((((((⟨(Lib.decDigits (a / 16777216)).toArray⟩ : ByteArray) ++ ⟨#[46]⟩) ++ ⟨(Lib.decDigits (a / 65536 % 256)).toArray⟩) ++ ⟨#[46]⟩) ++ ⟨(Lib.decDigits (a / 256 % 256)).toArray⟩) ++ ⟨#[46]⟩) ++ ⟨(Lib.decDigits (a % 256)).toArray⟩) := by
    show _ = _
    rw [show (⟨#[46]⟩ : ByteArray) = ⟨[46].toArray⟩ from rfl]
    simp only [ba_app]
    unfold prtL
    simp
  have u0 : a / 16777216 ≤ 255 := by omega
  have u1 : a / 65536 % 256 ≤ 255 := by omega
  have u2 : a / 256 % 256 ≤ 255 := by omega
  have u3 : a % 256 ≤ 255 := by omega
  have HS0 : Hid (∀ (q : Int) w', q = ((a / 16777216 : Nat) : Int) → Calls Tryd.prog 29 #[.int .i64 q] w' fun e w'' => e = .returned (.string ⟨(Lib.decDigits (a / 16777216)).toArray⟩) ∧ Below w'.heap.size w' w'') := fun q w' hq => HS.out _ _ _ hq u0
  have HS1 : Hid (∀ (q : Int) w', q = ((a / 65536 % 256 : Nat) : Int) → Calls Tryd.prog 29 #[.int .i64 q] w' fun e w'' => e = .returned (.string ⟨(Lib.decDigits (a / 65536 % 256)).toArray⟩) ∧ Below w'.heap.size w' w'') := fun q w' hq => HS.out _ _ _ hq u1
  have HS2 : Hid (∀ (q : Int) w', q = ((a / 256 % 256 : Nat) : Int) → Calls Tryd.prog 29 #[.int .i64 q] w' fun e w'' => e = .returned (.string ⟨(Lib.decDigits (a / 256 % 256)).toArray⟩) ∧ Below w'.heap.size w' w'') := fun q w' hq => HS.out _ _ _ hq u2
  have HS3 : Hid (∀ (q : Int) w', q = ((a % 256 : Nat) : Int) → Calls Tryd.prog 29 #[.int .i64 q] w' fun e w'' => e = .returned (.string ⟨(Lib.decDigits (a % 256)).toArray⟩) ∧ Below w'.heap.size w' w'') := fun q w' hq => HS.out _ _ _ hq u3
  rw [HE.out]
  clear HE HS e4
  generalize Lib.decDigits (a / 16777216) = D0 at *
  generalize a / 16777216 = y0 at *
  generalize Lib.decDigits (a / 65536 % 256) = D1 at *
  generalize a / 65536 % 256 = y1 at *
  generalize Lib.decDigits (a / 256 % 256) = D2 at *
  generalize a / 256 % 256 = y2 at *
  generalize Lib.decDigits (a % 256) = D3 at *
  generalize a % 256 = y3 at *
  generalize (⟨(bb a 4).toArray⟩ : ByteArray) = S at *
  have t1 : ∀ w', (Op.stringOp .add ((⟨D0.toArray⟩ : ByteArray)) ⟨#[46]⟩).run Tryd.prog w' = .ok (.string ((⟨D0.toArray⟩ : ByteArray) ++ ⟨#[46]⟩)) w' := fun w' => run_string_add_sum w' _ _ (by simp only [ByteArray.size_append', ByteArray.size_mk', List.size_toArray, List.length_cons, List.length_nil]; omega)
  have t2 : ∀ w', (Op.stringOp .add ((⟨D0.toArray⟩ : ByteArray) ++ ⟨#[46]⟩) ⟨D1.toArray⟩).run Tryd.prog w' = .ok (.string ((⟨D0.toArray⟩ : ByteArray) ++ ⟨#[46]⟩ ++ ⟨D1.toArray⟩)) w' := fun w' => run_string_add_sum w' _ _ (by simp only [ByteArray.size_append', ByteArray.size_mk', List.size_toArray, List.length_cons, List.length_nil]; omega)
  have t3 : ∀ w', (Op.stringOp .add ((⟨D0.toArray⟩ : ByteArray) ++ ⟨#[46]⟩ ++ ⟨D1.toArray⟩) ⟨#[46]⟩).run Tryd.prog w' = .ok (.string ((⟨D0.toArray⟩ : ByteArray) ++ ⟨#[46]⟩ ++ ⟨D1.toArray⟩ ++ ⟨#[46]⟩)) w' := fun w' => run_string_add_sum w' _ _ (by simp only [ByteArray.size_append', ByteArray.size_mk', List.size_toArray, List.length_cons, List.length_nil]; omega)
  have t4 : ∀ w', (Op.stringOp .add ((⟨D0.toArray⟩ : ByteArray) ++ ⟨#[46]⟩ ++ ⟨D1.toArray⟩ ++ ⟨#[46]⟩) ⟨D2.toArray⟩).run Tryd.prog w' = .ok (.string ((⟨D0.toArray⟩ : ByteArray) ++ ⟨#[46]⟩ ++ ⟨D1.toArray⟩ ++ ⟨#[46]⟩ ++ ⟨D2.toArray⟩)) w' := fun w' => run_string_add_sum w' _ _ (by simp only [ByteArray.size_append', ByteArray.size_mk', List.size_toArray, List.length_cons, List.length_nil]; omega)
  have t5 : ∀ w', (Op.stringOp .add ((⟨D0.toArray⟩ : ByteArray) ++ ⟨#[46]⟩ ++ ⟨D1.toArray⟩ ++ ⟨#[46]⟩ ++ ⟨D2.toArray⟩) ⟨#[46]⟩).run Tryd.prog w' = .ok (.string ((⟨D0.toArray⟩ : ByteArray) ++ ⟨#[46]⟩ ++ ⟨D1.toArray⟩ ++ ⟨#[46]⟩ ++ ⟨D2.toArray⟩ ++ ⟨#[46]⟩)) w' := fun w' => run_string_add_sum w' _ _ (by simp only [ByteArray.size_append', ByteArray.size_mk', List.size_toArray, List.length_cons, List.length_nil]; omega)
  have t6 : ∀ w', (Op.stringOp .add ((⟨D0.toArray⟩ : ByteArray) ++ ⟨#[46]⟩ ++ ⟨D1.toArray⟩ ++ ⟨#[46]⟩ ++ ⟨D2.toArray⟩ ++ ⟨#[46]⟩) ⟨D3.toArray⟩).run Tryd.prog w' = .ok (.string ((⟨D0.toArray⟩ : ByteArray) ++ ⟨#[46]⟩ ++ ⟨D1.toArray⟩ ++ ⟨#[46]⟩ ++ ⟨D2.toArray⟩ ++ ⟨#[46]⟩ ++ ⟨D3.toArray⟩)) w' := fun w' => run_string_add_sum w' _ _ (by simp only [ByteArray.size_append', ByteArray.size_mk', List.size_toArray, List.length_cons, List.length_nil]; omega)
  go_enter Tryd.func11, Tryd.ntmps11
  go_wp2_with fail
  refine (HB.out _).mono ?_; rintro e w1 ⟨rfl, hb1⟩
  have s1 := hb1.size
  go_upto_region 2 with fail
  refine wp_region_any (by kernel_rfl) ?_
  change wpAny _ _ _ _ _ _ _ (World.drew _)
  refine wpAny_take (i := 0) (v := ?_) rfl (by kernel_rfl) (by kernel_rfl) (by kernel_rfl) (fun _ _ _ h => h) (Or.inl ⟨by rfl, ?_⟩) ?_
  rotate_left
  · intro w'; go_simp; try with_reducible rfl
  try simp only [Act.put, List.setIfInBounds_toArray, List.set_cons_zero, List.set_cons_succ]
  refine wpAny_take (i := 5) (v := ?_) rfl (by kernel_rfl) (by kernel_rfl) (by kernel_rfl) (fun _ _ _ h => h) (Or.inl ⟨by rfl, ?_⟩) ?_
  rotate_left
  · intro w'; go_simp; try with_reducible rfl
  try simp only [Act.put, List.setIfInBounds_toArray, List.set_cons_zero, List.set_cons_succ]
  refine wpAny_take (i := 11) (v := ?_) rfl (by kernel_rfl) (by kernel_rfl) (by kernel_rfl) (fun _ _ _ h => h) (Or.inl ⟨by rfl, ?_⟩) ?_
  rotate_left
  · intro w'; go_simp; try with_reducible rfl
  try simp only [Act.put, List.setIfInBounds_toArray, List.set_cons_zero, List.set_cons_succ]
  refine wpAny_take (i := 17) (v := ?_) rfl (by kernel_rfl) (by kernel_rfl) (by kernel_rfl) (fun _ _ _ h => h) (Or.inl ⟨by rfl, ?_⟩) ?_
  rotate_left
  · intro w'; go_simp; try with_reducible rfl
  try simp only [Act.put, List.setIfInBounds_toArray, List.set_cons_zero, List.set_cons_succ]
  refine wpAny_take (i := 1) (v := ?_) rfl (by kernel_rfl) (by kernel_rfl) (by kernel_rfl) (fun _ _ _ h => h) (Or.inl ⟨by rfl, ?_⟩) ?_
  rotate_left
  · intro w'; go_simp; try with_reducible rfl
  try simp only [Act.put, List.setIfInBounds_toArray, List.set_cons_zero, List.set_cons_succ]
  refine wpAny_take (i := 6) (v := ?_) rfl (by kernel_rfl) (by kernel_rfl) (by kernel_rfl) (fun _ _ _ h => h) (Or.inl ⟨by rfl, ?_⟩) ?_
  rotate_left
  · intro w'; go_simp; try with_reducible rfl
  try simp only [Act.put, List.setIfInBounds_toArray, List.set_cons_zero, List.set_cons_succ]
  refine wpAny_take (i := 12) (v := ?_) rfl (by kernel_rfl) (by kernel_rfl) (by kernel_rfl) (fun _ _ _ h => h) (Or.inl ⟨by rfl, ?_⟩) ?_
  rotate_left
  · intro w'; go_simp; try with_reducible rfl
  try simp only [Act.put, List.setIfInBounds_toArray, List.set_cons_zero, List.set_cons_succ]
  refine wpAny_take (i := 18) (v := ?_) rfl (by kernel_rfl) (by kernel_rfl) (by kernel_rfl) (fun _ _ _ h => h) (Or.inl ⟨by rfl, ?_⟩) ?_
  rotate_left
  · intro w'; go_simp; try with_reducible rfl
  try simp only [Act.put, List.setIfInBounds_toArray, List.set_cons_zero, List.set_cons_succ]
  refine wpAny_take (i := 2) (v := ?_) rfl (by kernel_rfl) (by kernel_rfl) (by kernel_rfl) (fun _ _ _ h => h) (Or.inl ⟨by rfl, ?_⟩) ?_
  rotate_left
  · intro w'; go_simp; try with_reducible rfl
  try simp only [Act.put, List.setIfInBounds_toArray, List.set_cons_zero, List.set_cons_succ]
  refine wpAny_take (i := 7) (v := ?_) rfl (by kernel_rfl) (by kernel_rfl) (by kernel_rfl) (fun _ _ _ h => h) (Or.inl ⟨by rfl, ?_⟩) ?_
  rotate_left
  · intro w'; go_simp; try with_reducible rfl
  try simp only [Act.put, List.setIfInBounds_toArray, List.set_cons_zero, List.set_cons_succ]
  refine wpAny_take (i := 13) (v := ?_) rfl (by kernel_rfl) (by kernel_rfl) (by kernel_rfl) (fun _ _ _ h => h) (Or.inl ⟨by rfl, ?_⟩) ?_
  rotate_left
  · intro w'; go_simp; try with_reducible rfl
  try simp only [Act.put, List.setIfInBounds_toArray, List.set_cons_zero, List.set_cons_succ]
  refine wpAny_take (i := 19) (v := ?_) rfl (by kernel_rfl) (by kernel_rfl) (by kernel_rfl) (fun _ _ _ h => h) (Or.inl ⟨by rfl, ?_⟩) ?_
  rotate_left
  · intro w'; go_simp; try with_reducible rfl
  try simp only [Act.put, List.setIfInBounds_toArray, List.set_cons_zero, List.set_cons_succ]
  refine wpAny_ready (rs := [3]) (by kernel_rfl) (by simp) ?_
  refine AllReady.cons rfl (fun K hK => ?_) AllReady.nil
  go_simp
  refine (HS0.out _ _ ?_).mono ?_
  · first | rfl | omega | (simp only [IntKind.wrap_i64]; omega)
  rintro e w2 ⟨rfl, hb2⟩
  have sw2 := hb2.size
  refine hK _ _ ?_
  clear hK K
  try simp only [Act.put, List.setIfInBounds_toArray, List.set_cons_zero, List.set_cons_succ]
  refine wpAny_take (i := 4) (v := ?_) rfl (by kernel_rfl) (by kernel_rfl) (by kernel_rfl) (fun _ _ _ h => h) (Or.inl ⟨by rfl, ?_⟩) ?_
  rotate_left
  · intro w'; go_simp; try with_reducible rfl
  try simp only [Act.put, List.setIfInBounds_toArray, List.set_cons_zero, List.set_cons_succ]
  refine wpAny_ready (rs := [8]) (by kernel_rfl) (by simp) ?_
  refine AllReady.cons rfl (fun K hK => ?_) AllReady.nil
  go_simp
  refine (HS1.out _ _ ?_).mono ?_
  · first | rfl | omega | (simp only [IntKind.wrap_i64]; omega)
  rintro e w3 ⟨rfl, hb3⟩
  have sw3 := hb3.size
  refine hK _ _ ?_
  clear hK K
  try simp only [Act.put, List.setIfInBounds_toArray, List.set_cons_zero, List.set_cons_succ]
  refine wpAny_take (i := 9) (v := ?_) rfl (by kernel_rfl) (by kernel_rfl) (by kernel_rfl) (fun _ _ _ h => h) (Or.inl ⟨by rfl, ?_⟩) ?_
  rotate_left
  · intro w'; go_simp; try with_reducible rfl
  try simp only [Act.put, List.setIfInBounds_toArray, List.set_cons_zero, List.set_cons_succ]
  refine wpAny_take (i := 10) (v := ?_) rfl (by kernel_rfl) (by kernel_rfl) (by kernel_rfl) (fun _ _ _ h => h) (Or.inl ⟨by rfl, ?_⟩) ?_
  rotate_left
  · intro w'; go_simp; try with_reducible rfl
  try simp only [Act.put, List.setIfInBounds_toArray, List.set_cons_zero, List.set_cons_succ]
  refine wpAny_ready (rs := [14]) (by kernel_rfl) (by simp) ?_
  refine AllReady.cons rfl (fun K hK => ?_) AllReady.nil
  go_simp
  refine (HS2.out _ _ ?_).mono ?_
  · first | rfl | omega | (simp only [IntKind.wrap_i64]; omega)
  rintro e w4 ⟨rfl, hb4⟩
  have sw4 := hb4.size
  refine hK _ _ ?_
  clear hK K
  try simp only [Act.put, List.setIfInBounds_toArray, List.set_cons_zero, List.set_cons_succ]
  refine wpAny_take (i := 15) (v := ?_) rfl (by kernel_rfl) (by kernel_rfl) (by kernel_rfl) (fun _ _ _ h => h) (Or.inl ⟨by rfl, ?_⟩) ?_
  rotate_left
  · intro w'; go_simp; try with_reducible rfl
  try simp only [Act.put, List.setIfInBounds_toArray, List.set_cons_zero, List.set_cons_succ]
  refine wpAny_take (i := 16) (v := ?_) rfl (by kernel_rfl) (by kernel_rfl) (by kernel_rfl) (fun _ _ _ h => h) (Or.inl ⟨by rfl, ?_⟩) ?_
  rotate_left
  · intro w'; go_simp; try with_reducible rfl
  try simp only [Act.put, List.setIfInBounds_toArray, List.set_cons_zero, List.set_cons_succ]
  refine wpAny_ready (rs := [20]) (by kernel_rfl) (by simp) ?_
  refine AllReady.cons rfl (fun K hK => ?_) AllReady.nil
  go_simp
  refine (HS3.out _ _ ?_).mono ?_
  · first | rfl | omega | (simp only [IntKind.wrap_i64]; omega)
  rintro e w5 ⟨rfl, hb5⟩
  have sw5 := hb5.size
  refine hK _ _ ?_
  clear hK K
  try simp only [Act.put, List.setIfInBounds_toArray, List.set_cons_zero, List.set_cons_succ]
  refine wpAny_ready (rs := [21]) (by kernel_rfl) (by simp) ?_
  refine AllReady.cons rfl (fun K hK => ?_) AllReady.nil
  go_simp
  refine hK _ _ ?_
  clear hK K
  refine wpAny_ready (rs := [22]) (by kernel_rfl) (by simp) ?_
  refine AllReady.cons rfl (fun K hK => ?_) AllReady.nil
  go_simp
  refine hK _ _ ?_
  clear hK K
  refine wpAny_done (by kernel_rfl) ?_ _
  go_wp2
  go_ret
  have q2 : w.heap.size ≤ w2.heap.size := Nat.le_trans s1 sw2
  have q3 : w.heap.size ≤ w3.heap.size := Nat.le_trans q2 sw3
  have q4 : w.heap.size ≤ w4.heap.size := Nat.le_trans q3 sw4
  exact ⟨rfl, (((hb1.drew.trans (hb2.mono s1)).trans (hb3.mono q2)).trans (hb4.mono q3)).trans (hb5.mono q4)⟩
end Go.Proofs.YthdmbggpokaggaaDoor
