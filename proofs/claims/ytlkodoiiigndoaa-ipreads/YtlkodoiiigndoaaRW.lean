/-
  Contract of the document's IpWrite.
-/
import Derived.Test.YtlkodoiiigndoaaWr
namespace Go.Proofs.Ytlkodoiiigndoaa
open Go.RowKit
set_option linter.unusedVariables false
set_option linter.unusedSimpArgs false

theorem PB.c0 {g : Nat} {p : Pk} {W : World} (h : PB g p W) : W.cell? ⟨g, 0, none⟩ = some (.int .u32 (p.src : Int)) := Joins.cell_of_block h 0
theorem PB.c1 {g : Nat} {p : Pk} {W : World} (h : PB g p W) : W.cell? ⟨g, 1, none⟩ = some (.int .u32 (p.dst : Int)) := Joins.cell_of_block h 1
theorem PB.c2 {g : Nat} {p : Pk} {W : World} (h : PB g p W) : W.cell? ⟨g, 2, none⟩ = some (.int .i64 p.proto) := Joins.cell_of_block h 2
theorem PB.c3 {g : Nat} {p : Pk} {W : World} (h : PB g p W) : W.cell? ⟨g, 3, none⟩ = some (.int .i64 p.ttl) := Joins.cell_of_block h 3
theorem PB.c4 {g : Nat} {p : Pk} {W : World} (h : PB g p W) : W.cell? ⟨g, 4, none⟩ = some (.int .i64 p.id) := Joins.cell_of_block h 4
theorem PB.c5 {g : Nat} {p : Pk} {W : World} (h : PB g p W) : W.cell? ⟨g, 5, none⟩ = some (.bool p.dont) := Joins.cell_of_block h 5
theorem PB.c6 {g : Nat} {p : Pk} {W : World} (h : PB g p W) : W.cell? ⟨g, 6, none⟩ = some (.bool p.more) := Joins.cell_of_block h 6
theorem PB.c7 {g : Nat} {p : Pk} {W : World} (h : PB g p W) : W.cell? ⟨g, 7, none⟩ = some (.int .i64 p.off) := Joins.cell_of_block h 7
theorem PB.c8 {g : Nat} {p : Pk} {W : World} (h : PB g p W) : W.cell? ⟨g, 8, none⟩ = some (.string p.body) := Joins.cell_of_block h 8
/-- A text of one byte. -/
def one (n : Nat) : ByteArray := ⟨#[UInt8.ofNat n]⟩
theorem one_sz (n : Nat) : (one n).size = 1 := rfl
theorem chrN (n : Nat) (q : Int) (hq : q = n) (hn : n ≤ 255) (w : World) :
    Calls Try.prog 19 #[.int .i64 q] w fun e w' => e = .returned (.string (one n)) ∧ Below w.heap.size w w' := by
  subst hq
  exact chr_any n w hn
theorem bigN (n : Nat) (q : Int) (hq : q = n) (hn : n ≤ 65535) (w : World) :
    Calls Try.prog 20 #[.int .u64 q, .int .i64 2] w fun e w' => e = .returned (.string (wd n)) ∧ Below w.heap.size w w' := by
  subst hq
  exact big_two n w hn
theorem ofNat_mod (n m : Nat) (h : n % 256 = m % 256) : UInt8.ofNat n = UInt8.ofNat m := by
  apply UInt8.toNat_inj.1; rw [UInt8.toNat_ofNat', UInt8.toNat_ofNat']; exact h
theorem bigF (n : Nat) (q : Int) (hq : q = n) (hn : n < 4294967296) (w : World) :
    Calls Try.prog 20 #[.int .u64 q, .int .i64 4] w fun e w' => e = .returned (.string (w4 n)) ∧ Below w.heap.size w w' := by
  subst hq
  refine (big_any 4 n w (by omega) (by omega)).mono ?_
  rintro e w1 ⟨rfl, hb⟩
  refine ⟨?_, hb⟩
  have e4 : (⟨(Pm.bb n 4).toArray⟩ : ByteArray) = w4 n := by
    apply ByteArray.ext
    apply Array.toList_inj.1
    rw [w4_data]
    simp only [Pm.bb, List.nil_append, List.toList_toArray, List.cons_append]
    rw [ofNat_mod (n / 256 / 256 / 256 % 256) (n / 65536 / 256) (by omega), ofNat_mod (n / 256 / 256 % 256) (n / 65536) (by omega), ofNat_mod (n / 256 % 256) (n % 65536 / 256) (by omega), ofNat_mod (n % 256) (n % 65536) (by omega)]
  rw [e4]

theorem rwrite_bad (p : Pk) (w : World) (h : chk p ≠ 0) :
    Calls Try.prog 9 #[pv p] w fun e w' => e = .returned (.tuple #[.string ⟨#[]⟩, .int .i64 (chk p)]) ∧ Below w.heap.size w w' := by
  have HC : Hid (∀ w', Calls Try.prog 11 #[pv p] w' fun e w'' => e = .returned (.int .i64 (chk p)) ∧ Below w'.heap.size w' w'') := fun w' => rchk_any p w'
  have b0 : Below w.heap.size w (w.alloc (.cells (pc p) 24)) := (Below.refl _ _).alloc (Nat.le_refl _) _
  generalize chk p = c at *
  have hne : (c != 0) = true := by simpa using h
  go_enter Try.func9, Try.ntmps9
  go_wp2_with fail
  refine (HC.out _).mono ?_; rintro e w1 ⟨rfl, hb1⟩
  go_wp2
  go_ret2
  exact ⟨rfl, b0.trans (hb1.mono (by simp))⟩

theorem wr_eq (p : Pk) : one 69 ++ one 0 ++ wd (20 + p.body.size) ++ wd p.id.toNat ++ wd (obits p) ++ one p.ttl.toNat ++ one p.proto.toNat ++ wd (sm p) ++ (w4 p.src ++ w4 p.dst) ++ p.body = wr p := by
  apply ByteArray.ext
  apply Array.toList_inj.1
  simp only [ByteArray.data_append, Array.toList_append, wr, hd, pre, post, one, List.toList_toArray]
  rfl
theorem sum_eq (p : Pk) : Pm.hv true (one 69 ++ one 0 ++ wd (20 + p.body.size) ++ wd p.id.toNat ++ wd (obits p) ++ one p.ttl.toNat ++ one p.proto.toNat ++ (w4 p.src ++ w4 p.dst)).data.toList = Pm.hv true (pre p ++ post p) := by
  congr 1

set_option maxHeartbeats 4000000 in
theorem rwrite_ok (p : Pk) (w : World) (h : chk p = 0) (hsrc : p.src < 4294967296) (hdst : p.dst < 4294967296) :
    Calls Try.prog 9 #[pv p] w fun e w' => e = .returned (.tuple #[.string (wr p), .int .i64 0]) ∧ Below w.heap.size w w' := by
  have hb : ¬ bads p := fun hc => by unfold chk at h; rw [if_pos hc] at h; cases h
  have hs : p.body.size ≤ 1400 := by
    unfold chk at h; rw [if_neg hb] at h
    split at h
    · cases h
    · omega
  have hpr : 0 ≤ p.proto ∧ p.proto ≤ 255 := by unfold bads bad at hb; omega
  have httl : 0 ≤ p.ttl ∧ p.ttl ≤ 255 := by unfold bads bad at hb; omega
  have hid : 0 ≤ p.id ∧ p.id ≤ 65535 := by unfold bads bad at hb; omega
  have hoff : 0 ≤ p.off ∧ p.off ≤ 8191 := by unfold bads bad at hb; omega
  have hob : obits p ≤ 65535 := by unfold obits; split <;> split <;> omega
  have HO : Hid ((obits p : Int) = p.off + (if p.dont then 16384 else 0) + (if p.more then 8192 else 0)) := by show _ = _; unfold obits; split <;> split <;> omega
  have hsm : sm p ≤ 65535 := by unfold sm; omega
  have HC : Hid (∀ w', Calls Try.prog 11 #[pv p] w' fun e w'' => e = .returned (.int .i64 0) ∧ Below w'.heap.size w' w'') := fun w' => by
    have := rchk_any p w'
    rwa [h] at this
  have K0 : Hid (∀ w', Calls Try.prog 19 #[.int .i64 69] w' fun e w'' => e = .returned (.string (one 69)) ∧ Below w'.heap.size w' w'') := fun w' => chrN 69 69 rfl (by omega) w'
  have K1 : Hid (∀ w', Calls Try.prog 19 #[.int .i64 0] w' fun e w'' => e = .returned (.string (one 0)) ∧ Below w'.heap.size w' w'') := fun w' => chrN 0 0 rfl (by omega) w'
  have K2 : Hid (∀ q w', q = ((20 + p.body.size : Nat) : Int) → Calls Try.prog 20 #[.int .u64 q, .int .i64 2] w' fun e w'' => e = .returned (.string (wd (20 + p.body.size))) ∧ Below w'.heap.size w' w'') := fun q w' hq => bigN _ _ hq (by omega) w'
  have K3 : Hid (∀ q w', q = p.id → Calls Try.prog 20 #[.int .u64 q, .int .i64 2] w' fun e w'' => e = .returned (.string (wd p.id.toNat)) ∧ Below w'.heap.size w' w'') := fun q w' hq => bigN _ _ (by omega) (by omega) w'
  have K4 : Hid (∀ q w', q = (obits p : Int) → Calls Try.prog 20 #[.int .u64 q, .int .i64 2] w' fun e w'' => e = .returned (.string (wd (obits p))) ∧ Below w'.heap.size w' w'') := fun q w' hq => bigN _ _ hq (by omega) w'
  have K5 : Hid (∀ w', Calls Try.prog 19 #[.int .i64 p.ttl] w' fun e w'' => e = .returned (.string (one p.ttl.toNat)) ∧ Below w'.heap.size w' w'') := fun w' => chrN _ _ (by omega) (by omega) w'
  have K6 : Hid (∀ w', Calls Try.prog 19 #[.int .i64 p.proto] w' fun e w'' => e = .returned (.string (one p.proto.toNat)) ∧ Below w'.heap.size w' w'') := fun w' => chrN _ _ (by omega) (by omega) w'
  have K7 : Hid (∀ q w', q = (p.src : Int) → Calls Try.prog 20 #[.int .u64 q, .int .i64 4] w' fun e w'' => e = .returned (.string (w4 p.src)) ∧ Below w'.heap.size w' w'') := fun q w' hq => bigF _ _ hq hsrc w'
  have K8 : Hid (∀ q w', q = (p.dst : Int) → Calls Try.prog 20 #[.int .u64 q, .int .i64 4] w' fun e w'' => e = .returned (.string (w4 p.dst)) ∧ Below w'.heap.size w' w'') := fun q w' hq => bigF _ _ hq hdst w'
  have K9 : Hid (∀ q w', q = (sm p : Int) → Calls Try.prog 20 #[.int .u64 q, .int .i64 2] w' fun e w'' => e = .returned (.string (wd (sm p))) ∧ Below w'.heap.size w' w'') := fun q w' hq => bigN _ _ hq hsm w'
  have HW := Lib.hid (wr_eq p)
  have HS := Lib.hid (sum_eq p)
  have HM : Hid (sm p = 65535 - Pm.fd (Pm.hv true (pre p ++ post p))) := rfl
  have z0 := one_sz 69
  have z1 := one_sz 0
  have z2 := wd_sz (20 + p.body.size)
  have z3 := wd_sz p.id.toNat
  have z4 := wd_sz (obits p)
  have z5 := one_sz p.ttl.toNat
  have z6 := one_sz p.proto.toNat
  have z7 := w4_sz p.src
  have z8 := w4_sz p.dst
  have z9 := wd_sz (sm p)
  generalize wr p = R at *
  generalize one 69 = A0 at *
  generalize one 0 = A1 at *
  generalize wd (20 + p.body.size) = A2 at *
  generalize wd p.id.toNat = A3 at *
  generalize wd (obits p) = A4 at *
  generalize one p.ttl.toNat = A5 at *
  generalize one p.proto.toNat = A6 at *
  generalize w4 p.src = A7 at *
  generalize w4 p.dst = A8 at *
  generalize wd (sm p) = A9 at *
  generalize Pm.hv true (pre p ++ post p) = M at *
  generalize sm p = sM at *
  generalize obits p = oB at *
  have t1 : ∀ w', (Op.stringOp .add (A0) A1).run Try.prog w' = .ok (.string (A0 ++ A1)) w' := fun w' => run_string_add_sum w' _ _ (by first | omega | (simp only [ByteArray.size_append]; omega))
  have t2 : ∀ w', (Op.stringOp .add (A0 ++ A1) A2).run Try.prog w' = .ok (.string (A0 ++ A1 ++ A2)) w' := fun w' => run_string_add_sum w' _ _ (by first | omega | (simp only [ByteArray.size_append]; omega))
  have t3 : ∀ w', (Op.stringOp .add (A0 ++ A1 ++ A2) A3).run Try.prog w' = .ok (.string (A0 ++ A1 ++ A2 ++ A3)) w' := fun w' => run_string_add_sum w' _ _ (by first | omega | (simp only [ByteArray.size_append]; omega))
  have t4 : ∀ w', (Op.stringOp .add (A0 ++ A1 ++ A2 ++ A3) A4).run Try.prog w' = .ok (.string (A0 ++ A1 ++ A2 ++ A3 ++ A4)) w' := fun w' => run_string_add_sum w' _ _ (by first | omega | (simp only [ByteArray.size_append]; omega))
  have t5 : ∀ w', (Op.stringOp .add (A0 ++ A1 ++ A2 ++ A3 ++ A4) A5).run Try.prog w' = .ok (.string (A0 ++ A1 ++ A2 ++ A3 ++ A4 ++ A5)) w' := fun w' => run_string_add_sum w' _ _ (by first | omega | (simp only [ByteArray.size_append]; omega))
  have t6 : ∀ w', (Op.stringOp .add (A0 ++ A1 ++ A2 ++ A3 ++ A4 ++ A5) A6).run Try.prog w' = .ok (.string (A0 ++ A1 ++ A2 ++ A3 ++ A4 ++ A5 ++ A6)) w' := fun w' => run_string_add_sum w' _ _ (by first | omega | (simp only [ByteArray.size_append]; omega))
  have t7 : ∀ w', (Op.stringOp .add (A7) A8).run Try.prog w' = .ok (.string (A7 ++ A8)) w' := fun w' => run_string_add_sum w' _ _ (by first | omega | (simp only [ByteArray.size_append]; omega))
  have t8 : ∀ w', (Op.stringOp .add (A0 ++ A1 ++ A2 ++ A3 ++ A4 ++ A5 ++ A6) (A7 ++ A8)).run Try.prog w' = .ok (.string (A0 ++ A1 ++ A2 ++ A3 ++ A4 ++ A5 ++ A6 ++ (A7 ++ A8))) w' := fun w' => run_string_add_sum w' _ _ (by first | omega | (simp only [ByteArray.size_append]; omega))
  have t9 : ∀ w', (Op.stringOp .add (A0 ++ A1 ++ A2 ++ A3 ++ A4 ++ A5 ++ A6) A9).run Try.prog w' = .ok (.string (A0 ++ A1 ++ A2 ++ A3 ++ A4 ++ A5 ++ A6 ++ A9)) w' := fun w' => run_string_add_sum w' _ _ (by first | omega | (simp only [ByteArray.size_append]; omega))
  have t10 : ∀ w', (Op.stringOp .add (A0 ++ A1 ++ A2 ++ A3 ++ A4 ++ A5 ++ A6 ++ A9) (A7 ++ A8)).run Try.prog w' = .ok (.string (A0 ++ A1 ++ A2 ++ A3 ++ A4 ++ A5 ++ A6 ++ A9 ++ (A7 ++ A8))) w' := fun w' => run_string_add_sum w' _ _ (by first | omega | (simp only [ByteArray.size_append]; omega))
  have t11 : ∀ w', (Op.stringOp .add (A0 ++ A1 ++ A2 ++ A3 ++ A4 ++ A5 ++ A6 ++ A9 ++ (A7 ++ A8)) p.body).run Try.prog w' = .ok (.string (A0 ++ A1 ++ A2 ++ A3 ++ A4 ++ A5 ++ A6 ++ A9 ++ (A7 ++ A8) ++ p.body)) w' := fun w' => run_string_add_sum w' _ _ (by first | omega | (simp only [ByteArray.size_append]; omega))
  have HQ : Hid (∀ w', Calls Try.prog 21 #[.string (A0 ++ A1 ++ A2 ++ A3 ++ A4 ++ A5 ++ A6 ++ (A7 ++ A8))] w' fun e w'' => e = .returned (.int .u16 (Pm.fd M : Int)) ∧ Below w'.heap.size w' w'') := fun w' => by
    have := rsum_even (A0 ++ A1 ++ A2 ++ A3 ++ A4 ++ A5 ++ A6 ++ (A7 ++ A8)) w' (by simp only [ByteArray.size_append]; omega) (by simp only [ByteArray.size_append]; omega)
    rwa [HS.out] at this
  have hF := Pm.fd_le M
  generalize Pm.fd M = F at *
  have b0 : Below w.heap.size w (w.alloc (.cells (pc p) 24)) := (Below.refl _ _).alloc (Nat.le_refl _) _
  have P0 := Lib.hid (PB.new w p)
  have v1 : IntKind.i64.wrap (20 + (p.body.size : Int)) = 20 + (p.body.size : Int) := wraps_i64 _ (by omega) (by omega)
  have v2 : IntKind.u64.wrap (20 + (p.body.size : Int)) = 20 + (p.body.size : Int) := wrap_u64_in _ (by omega) (by omega)
  have v3 : IntKind.u64.wrap p.id = p.id := wrap_u64_in _ (by omega) (by omega)
  have v4 : IntKind.u64.wrap (p.src : Int) = (p.src : Int) := wrap_u64_in _ (by omega) (by omega)
  have v5 : IntKind.u64.wrap (p.dst : Int) = (p.dst : Int) := wrap_u64_in _ (by omega) (by omega)
  have v6 : IntKind.u16.wrap (65535 - (F : Int)) = 65535 - (F : Int) := by rw [IntKind.wrap_u16]; omega
  have v7 : IntKind.u64.wrap (65535 - (F : Int)) = 65535 - (F : Int) := wrap_u64_in _ (by omega) (by omega)
  clear hb h z0 z1 z2 z3 z4 z5 z6 z7 z8 z9 HS
  go_enter Try.func9, Try.ntmps9
  go_wp2_with fail
  refine (HC.out _).mono ?_; rintro e w1 ⟨rfl, hb1⟩
  have P1 := Lib.hid (P0.out.keep hb1)
  have b1 := b0.trans (hb1.mono (by simp))
  have x5 := P1.out.c5
  have x6 := P1.out.c6
  have x7 := P1.out.c7
  clear b0 P0 hb1
  rcases hD : p.dont with _ | _ <;> rcases hM : p.more with _ | _
  all_goals
    rw [hD] at x5
    rw [hM] at x6
    go_wp2
    clear x5 x6 x7
    refine wp_region_held_drew (S := fun w' => Hid (PB w.heap.size p w')) (by kernel_rfl) (Lib.hid P1.out.drew) (fun hHeld => ?_)
    refine takeH (i := 3) (d := some 27) (v := ?_) rfl rfl (by kernel_rfl) (by kernel_rfl) (by kernel_rfl) (fun _ _ _ h => h) (Or.inl ⟨by rfl, ?_⟩) hHeld ?_
    rotate_left
    · intro w' hSw; (try dsimp only at hSw); go_simp; try with_reducible rfl
    simp only [Act.put, List.setIfInBounds_toArray, List.set_cons_zero, List.set_cons_succ]
    refine takeH (i := 10) (d := some 34) (v := ?_) rfl rfl (by kernel_rfl) (by kernel_rfl) (by kernel_rfl) (fun _ _ _ h => h) (Or.inl ⟨by rfl, ?_⟩) hHeld ?_
    rotate_left
    · intro w' hSw; (try dsimp only at hSw); go_simp; try with_reducible rfl
    simp only [Act.put, List.setIfInBounds_toArray, List.set_cons_zero, List.set_cons_succ]
    refine takeH (i := 18) (d := some 42) (v := ?_) rfl rfl (by kernel_rfl) (by kernel_rfl) (by kernel_rfl) (fun _ _ _ h => h) (Or.inl ⟨by rfl, ?_⟩) hHeld ?_
    rotate_left
    · intro w' hSw; (try dsimp only at hSw); go_simp; try with_reducible rfl
    simp only [Act.put, List.setIfInBounds_toArray, List.set_cons_zero, List.set_cons_succ]
    refine takeH (i := 22) (d := some 46) (v := ?_) rfl rfl (by kernel_rfl) (by kernel_rfl) (by kernel_rfl) (fun _ _ _ h => h) (Or.inl ⟨by rfl, ?_⟩) hHeld ?_
    rotate_left
    · intro w' hSw; (try dsimp only at hSw); go_simp; try with_reducible rfl
    simp only [Act.put, List.setIfInBounds_toArray, List.set_cons_zero, List.set_cons_succ]
    refine takeH (i := 4) (d := some 28) (v := ?_) rfl rfl (by kernel_rfl) (by kernel_rfl) (by kernel_rfl) (fun _ _ _ h => h) (Or.inl ⟨by rfl, ?_⟩) hHeld ?_
    rotate_left
    · intro w' hSw; (try dsimp only at hSw); have hc := hSw.out.c8; clear hSw; go_simp; try with_reducible rfl
    simp only [Act.put, List.setIfInBounds_toArray, List.set_cons_zero, List.set_cons_succ]
    refine takeH (i := 11) (d := some 35) (v := ?_) rfl rfl (by kernel_rfl) (by kernel_rfl) (by kernel_rfl) (fun _ _ _ h => h) (Or.inl ⟨by rfl, ?_⟩) hHeld ?_
    rotate_left
    · intro w' hSw; (try dsimp only at hSw); have hc := hSw.out.c4; clear hSw; go_simp; try with_reducible rfl
    simp only [Act.put, List.setIfInBounds_toArray, List.set_cons_zero, List.set_cons_succ]
    refine takeH (i := 19) (d := some 43) (v := ?_) rfl rfl (by kernel_rfl) (by kernel_rfl) (by kernel_rfl) (fun _ _ _ h => h) (Or.inl ⟨by rfl, ?_⟩) hHeld ?_
    rotate_left
    · intro w' hSw; (try dsimp only at hSw); have hc := hSw.out.c3; clear hSw; go_simp; try with_reducible rfl
    simp only [Act.put, List.setIfInBounds_toArray, List.set_cons_zero, List.set_cons_succ]
    refine takeH (i := 23) (d := some 47) (v := ?_) rfl rfl (by kernel_rfl) (by kernel_rfl) (by kernel_rfl) (fun _ _ _ h => h) (Or.inl ⟨by rfl, ?_⟩) hHeld ?_
    rotate_left
    · intro w' hSw; (try dsimp only at hSw); have hc := hSw.out.c2; clear hSw; go_simp; try with_reducible rfl
    simp only [Act.put, List.setIfInBounds_toArray, List.set_cons_zero, List.set_cons_succ]
    refine takeH (i := 5) (d := some 29) (v := ?_) rfl rfl (by kernel_rfl) (by kernel_rfl) (by kernel_rfl) (fun _ _ _ h => h) (Or.inl ⟨by rfl, ?_⟩) hHeld ?_
    rotate_left
    · intro w' hSw; (try dsimp only at hSw); go_simp; try with_reducible rfl
    simp only [Act.put, List.setIfInBounds_toArray, List.set_cons_zero, List.set_cons_succ]
    refine takeH (i := 6) (d := some 30) (v := ?_) rfl rfl (by kernel_rfl) (by kernel_rfl) (by kernel_rfl) (fun _ _ _ h => h) (Or.inl ⟨by rfl, ?_⟩) hHeld ?_
    rotate_left
    · intro w' hSw; (try dsimp only at hSw); go_simp; try with_reducible rfl
    simp only [Act.put, List.setIfInBounds_toArray, List.set_cons_zero, List.set_cons_succ]
    refine takeH (i := 7) (d := some 31) (v := ?_) rfl rfl (by kernel_rfl) (by kernel_rfl) (by kernel_rfl) (fun _ _ _ h => h) (Or.inl ⟨by rfl, ?_⟩) hHeld ?_
    rotate_left
    · intro w' hSw; (try dsimp only at hSw); go_simp; try with_reducible rfl
    simp only [Act.put, List.setIfInBounds_toArray, List.set_cons_zero, List.set_cons_succ]
    refine takeH (i := 12) (d := some 36) (v := ?_) rfl rfl (by kernel_rfl) (by kernel_rfl) (by kernel_rfl) (fun _ _ _ h => h) (Or.inl ⟨by rfl, ?_⟩) hHeld ?_
    rotate_left
    · intro w' hSw; (try dsimp only at hSw); go_simp; try with_reducible rfl
    simp only [Act.put, List.setIfInBounds_toArray, List.set_cons_zero, List.set_cons_succ]
    refine takeH (i := 15) (d := some 39) (v := ?_) rfl rfl (by kernel_rfl) (by kernel_rfl) (by kernel_rfl) (fun _ _ _ h => h) (Or.inl ⟨by rfl, ?_⟩) hHeld ?_
    rotate_left
    · intro w' hSw; (try dsimp only at hSw); go_simp; try with_reducible rfl
    simp only [Act.put, List.setIfInBounds_toArray, List.set_cons_zero, List.set_cons_succ]
    refine wpAnyH_ready (rs := [0]) (by kernel_rfl) (by simp) ?_
    refine AllReadyH.cons rfl (fun K hK => ?_) AllReadyH.nil
    go_simp
    refine (K0.out _).mono ?_
    rintro e u10 ⟨rfl, hb10⟩
    have Q10 := Lib.hid (hHeld.out.keep hb10)
    have b10 := b1.drew.trans (hb10.mono (Nat.le_of_lt hHeld.out.lt))
    clear hHeld hb10
    refine hK.out _ _ Q10 (fun hHeld => ?_)
    clear hK K
    try simp only [Act.put, List.setIfInBounds_toArray, List.set_cons_zero, List.set_cons_succ]
    refine wpAnyH_ready (rs := [1]) (by kernel_rfl) (by simp) ?_
    refine AllReadyH.cons rfl (fun K hK => ?_) AllReadyH.nil
    go_simp
    refine (K1.out _).mono ?_
    rintro e u11 ⟨rfl, hb11⟩
    have Q11 := Lib.hid (hHeld.out.keep hb11)
    have b11 := b10.trans (hb11.mono (Nat.le_of_lt hHeld.out.lt))
    clear hHeld hb11
    refine hK.out _ _ Q11 (fun hHeld => ?_)
    clear hK K
    try simp only [Act.put, List.setIfInBounds_toArray, List.set_cons_zero, List.set_cons_succ]
    refine takeH (i := 2) (d := some 26) (v := ?_) rfl rfl (by kernel_rfl) (by kernel_rfl) (by kernel_rfl) (fun _ _ _ h => h) (Or.inl ⟨by rfl, ?_⟩) hHeld ?_
    rotate_left
    · intro w' hSw; (try dsimp only at hSw); go_simp; try with_reducible rfl
    simp only [Act.put, List.setIfInBounds_toArray, List.set_cons_zero, List.set_cons_succ]
    refine wpAnyH_ready (rs := [8]) (by kernel_rfl) (by simp) ?_
    refine AllReadyH.cons rfl (fun K hK => ?_) AllReadyH.nil
    go_simp
    refine (K2.out _ _ ?_).mono ?_
    · omega
    rintro e u12 ⟨rfl, hb12⟩
    have Q12 := Lib.hid (hHeld.out.keep hb12)
    have b12 := b11.trans (hb12.mono (Nat.le_of_lt hHeld.out.lt))
    clear hHeld hb12
    refine hK.out _ _ Q12 (fun hHeld => ?_)
    clear hK K
    try simp only [Act.put, List.setIfInBounds_toArray, List.set_cons_zero, List.set_cons_succ]
    refine takeH (i := 9) (d := some 33) (v := ?_) rfl rfl (by kernel_rfl) (by kernel_rfl) (by kernel_rfl) (fun _ _ _ h => h) (Or.inl ⟨by rfl, ?_⟩) hHeld ?_
    rotate_left
    · intro w' hSw; (try dsimp only at hSw); go_simp; try with_reducible rfl
    simp only [Act.put, List.setIfInBounds_toArray, List.set_cons_zero, List.set_cons_succ]
    refine wpAnyH_ready (rs := [13]) (by kernel_rfl) (by simp) ?_
    refine AllReadyH.cons rfl (fun K hK => ?_) AllReadyH.nil
    go_simp
    refine (K3.out _ _ ?_).mono ?_
    · omega
    rintro e u13 ⟨rfl, hb13⟩
    have Q13 := Lib.hid (hHeld.out.keep hb13)
    have b13 := b12.trans (hb13.mono (Nat.le_of_lt hHeld.out.lt))
    clear hHeld hb13
    refine hK.out _ _ Q13 (fun hHeld => ?_)
    clear hK K
    try simp only [Act.put, List.setIfInBounds_toArray, List.set_cons_zero, List.set_cons_succ]
    refine takeH (i := 14) (d := some 38) (v := ?_) rfl rfl (by kernel_rfl) (by kernel_rfl) (by kernel_rfl) (fun _ _ _ h => h) (Or.inl ⟨by rfl, ?_⟩) hHeld ?_
    rotate_left
    · intro w' hSw; (try dsimp only at hSw); go_simp; try with_reducible rfl
    simp only [Act.put, List.setIfInBounds_toArray, List.set_cons_zero, List.set_cons_succ]
    refine wpAnyH_ready (rs := [16]) (by kernel_rfl) (by simp) ?_
    refine AllReadyH.cons rfl (fun K hK => ?_) AllReadyH.nil
    go_simp
    refine (K4.out _ _ ?_).mono ?_
    · have hO := HO.out; simp [hD, hM] at hO; omega
    rintro e u14 ⟨rfl, hb14⟩
    have Q14 := Lib.hid (hHeld.out.keep hb14)
    have b14 := b13.trans (hb14.mono (Nat.le_of_lt hHeld.out.lt))
    clear hHeld hb14
    refine hK.out _ _ Q14 (fun hHeld => ?_)
    clear hK K
    try simp only [Act.put, List.setIfInBounds_toArray, List.set_cons_zero, List.set_cons_succ]
    refine takeH (i := 17) (d := some 41) (v := ?_) rfl rfl (by kernel_rfl) (by kernel_rfl) (by kernel_rfl) (fun _ _ _ h => h) (Or.inl ⟨by rfl, ?_⟩) hHeld ?_
    rotate_left
    · intro w' hSw; (try dsimp only at hSw); go_simp; try with_reducible rfl
    simp only [Act.put, List.setIfInBounds_toArray, List.set_cons_zero, List.set_cons_succ]
    refine wpAnyH_ready (rs := [20]) (by kernel_rfl) (by simp) ?_
    refine AllReadyH.cons rfl (fun K hK => ?_) AllReadyH.nil
    go_simp
    refine (K5.out _).mono ?_
    rintro e u15 ⟨rfl, hb15⟩
    have Q15 := Lib.hid (hHeld.out.keep hb15)
    have b15 := b14.trans (hb15.mono (Nat.le_of_lt hHeld.out.lt))
    clear hHeld hb15
    refine hK.out _ _ Q15 (fun hHeld => ?_)
    clear hK K
    try simp only [Act.put, List.setIfInBounds_toArray, List.set_cons_zero, List.set_cons_succ]
    refine takeH (i := 21) (d := some 45) (v := ?_) rfl rfl (by kernel_rfl) (by kernel_rfl) (by kernel_rfl) (fun _ _ _ h => h) (Or.inl ⟨by rfl, ?_⟩) hHeld ?_
    rotate_left
    · intro w' hSw; (try dsimp only at hSw); go_simp; try with_reducible rfl
    simp only [Act.put, List.setIfInBounds_toArray, List.set_cons_zero, List.set_cons_succ]
    refine wpAnyH_ready (rs := [24]) (by kernel_rfl) (by simp) ?_
    refine AllReadyH.cons rfl (fun K hK => ?_) AllReadyH.nil
    go_simp
    refine (K6.out _).mono ?_
    rintro e u16 ⟨rfl, hb16⟩
    have Q16 := Lib.hid (hHeld.out.keep hb16)
    have b16 := b15.trans (hb16.mono (Nat.le_of_lt hHeld.out.lt))
    clear hHeld hb16
    refine hK.out _ _ Q16 (fun hHeld => ?_)
    clear hK K
    try simp only [Act.put, List.setIfInBounds_toArray, List.set_cons_zero, List.set_cons_succ]
    refine takeH (i := 25) (d := some 49) (v := ?_) rfl rfl (by kernel_rfl) (by kernel_rfl) (by kernel_rfl) (fun _ _ _ h => h) (Or.inl ⟨by rfl, ?_⟩) hHeld ?_
    rotate_left
    · intro w' hSw; (try dsimp only at hSw); go_simp; try with_reducible rfl
    simp only [Act.put, List.setIfInBounds_toArray, List.set_cons_zero, List.set_cons_succ]
    refine takeH (i := 26) (d := some 6) (v := ?_) rfl rfl (by kernel_rfl) (by kernel_rfl) (by kernel_rfl) (fun _ _ _ h => h) (Or.inl ⟨by rfl, ?_⟩) hHeld ?_
    rotate_left
    · intro w' hSw; (try dsimp only at hSw); go_simp; try with_reducible rfl
    simp only [Act.put, List.setIfInBounds_toArray, List.set_cons_zero, List.set_cons_succ]
    refine wpAnyH_done (by kernel_rfl) ?_ _
    go_wp2
    refine wp_region_held_drew (S := fun w' => Hid (PB w.heap.size p w')) (by kernel_rfl) (Lib.hid hHeld.out.drew) (fun hHeld => ?_)
    refine takeH (i := 0) (d := some 50) (v := ?_) rfl rfl (by kernel_rfl) (by kernel_rfl) (by kernel_rfl) (fun _ _ _ h => h) (Or.inl ⟨by rfl, ?_⟩) hHeld ?_
    rotate_left
    · intro w' hSw; (try dsimp only at hSw); go_simp; try with_reducible rfl
    simp only [Act.put, List.setIfInBounds_toArray, List.set_cons_zero, List.set_cons_succ]
    refine takeH (i := 4) (d := some 54) (v := ?_) rfl rfl (by kernel_rfl) (by kernel_rfl) (by kernel_rfl) (fun _ _ _ h => h) (Or.inl ⟨by rfl, ?_⟩) hHeld ?_
    rotate_left
    · intro w' hSw; (try dsimp only at hSw); go_simp; try with_reducible rfl
    simp only [Act.put, List.setIfInBounds_toArray, List.set_cons_zero, List.set_cons_succ]
    refine takeH (i := 1) (d := some 51) (v := ?_) rfl rfl (by kernel_rfl) (by kernel_rfl) (by kernel_rfl) (fun _ _ _ h => h) (Or.inl ⟨by rfl, ?_⟩) hHeld ?_
    rotate_left
    · intro w' hSw; (try dsimp only at hSw); have hc := hSw.out.c0; clear hSw; go_simp; try with_reducible rfl
    simp only [Act.put, List.setIfInBounds_toArray, List.set_cons_zero, List.set_cons_succ]
    refine takeH (i := 5) (d := some 55) (v := ?_) rfl rfl (by kernel_rfl) (by kernel_rfl) (by kernel_rfl) (fun _ _ _ h => h) (Or.inl ⟨by rfl, ?_⟩) hHeld ?_
    rotate_left
    · intro w' hSw; (try dsimp only at hSw); have hc := hSw.out.c1; clear hSw; go_simp; try with_reducible rfl
    simp only [Act.put, List.setIfInBounds_toArray, List.set_cons_zero, List.set_cons_succ]
    refine takeH (i := 2) (d := some 52) (v := ?_) rfl rfl (by kernel_rfl) (by kernel_rfl) (by kernel_rfl) (fun _ _ _ h => h) (Or.inl ⟨by rfl, ?_⟩) hHeld ?_
    rotate_left
    · intro w' hSw; (try dsimp only at hSw); go_simp; try with_reducible rfl
    simp only [Act.put, List.setIfInBounds_toArray, List.set_cons_zero, List.set_cons_succ]
    refine takeH (i := 6) (d := some 56) (v := ?_) rfl rfl (by kernel_rfl) (by kernel_rfl) (by kernel_rfl) (fun _ _ _ h => h) (Or.inl ⟨by rfl, ?_⟩) hHeld ?_
    rotate_left
    · intro w' hSw; (try dsimp only at hSw); go_simp; try with_reducible rfl
    simp only [Act.put, List.setIfInBounds_toArray, List.set_cons_zero, List.set_cons_succ]
    refine wpAnyH_ready (rs := [3]) (by kernel_rfl) (by simp) ?_
    refine AllReadyH.cons rfl (fun K hK => ?_) AllReadyH.nil
    go_simp
    refine (K7.out _ _ ?_).mono ?_
    · omega
    rintro e u17 ⟨rfl, hb17⟩
    have Q17 := Lib.hid (hHeld.out.keep hb17)
    have b17 := b16.drew.trans (hb17.mono (Nat.le_of_lt hHeld.out.lt))
    clear hHeld hb17
    refine hK.out _ _ Q17 (fun hHeld => ?_)
    clear hK K
    try simp only [Act.put, List.setIfInBounds_toArray, List.set_cons_zero, List.set_cons_succ]
    refine wpAnyH_ready (rs := [7]) (by kernel_rfl) (by simp) ?_
    refine AllReadyH.cons rfl (fun K hK => ?_) AllReadyH.nil
    go_simp
    refine (K8.out _ _ ?_).mono ?_
    · omega
    rintro e u18 ⟨rfl, hb18⟩
    have Q18 := Lib.hid (hHeld.out.keep hb18)
    have b18 := b17.trans (hb18.mono (Nat.le_of_lt hHeld.out.lt))
    clear hHeld hb18
    refine hK.out _ _ Q18 (fun hHeld => ?_)
    clear hK K
    try simp only [Act.put, List.setIfInBounds_toArray, List.set_cons_zero, List.set_cons_succ]
    refine takeH (i := 8) (d := some 58) (v := ?_) rfl rfl (by kernel_rfl) (by kernel_rfl) (by kernel_rfl) (fun _ _ _ h => h) (Or.inl ⟨by rfl, ?_⟩) hHeld ?_
    rotate_left
    · intro w' hSw; (try dsimp only at hSw); go_simp; try with_reducible rfl
    simp only [Act.put, List.setIfInBounds_toArray, List.set_cons_zero, List.set_cons_succ]
    refine takeH (i := 9) (d := some 7) (v := ?_) rfl rfl (by kernel_rfl) (by kernel_rfl) (by kernel_rfl) (fun _ _ _ h => h) (Or.inl ⟨by rfl, ?_⟩) hHeld ?_
    rotate_left
    · intro w' hSw; (try dsimp only at hSw); go_simp; try with_reducible rfl
    simp only [Act.put, List.setIfInBounds_toArray, List.set_cons_zero, List.set_cons_succ]
    refine wpAnyH_done (by kernel_rfl) ?_ _
    go_wp2
    refine wp_region_held_drew (S := fun w' => Hid (PB w.heap.size p w')) (by kernel_rfl) (Lib.hid hHeld.out.drew) (fun hHeld => ?_)
    refine takeH (i := 0) (d := some 59) (v := ?_) rfl rfl (by kernel_rfl) (by kernel_rfl) (by kernel_rfl) (fun _ _ _ h => h) (Or.inl ⟨by rfl, ?_⟩) hHeld ?_
    rotate_left
    · intro w' hSw; (try dsimp only at hSw); go_simp; try with_reducible rfl
    simp only [Act.put, List.setIfInBounds_toArray, List.set_cons_zero, List.set_cons_succ]
    refine takeH (i := 1) (d := some 60) (v := ?_) rfl rfl (by kernel_rfl) (by kernel_rfl) (by kernel_rfl) (fun _ _ _ h => h) (Or.inl ⟨by rfl, ?_⟩) hHeld ?_
    rotate_left
    · intro w' hSw; (try dsimp only at hSw); go_simp; try with_reducible rfl
    simp only [Act.put, List.setIfInBounds_toArray, List.set_cons_zero, List.set_cons_succ]
    refine takeH (i := 2) (d := some 61) (v := ?_) rfl rfl (by kernel_rfl) (by kernel_rfl) (by kernel_rfl) (fun _ _ _ h => h) (Or.inl ⟨by rfl, ?_⟩) hHeld ?_
    rotate_left
    · intro w' hSw; (try dsimp only at hSw); go_simp; try with_reducible rfl
    simp only [Act.put, List.setIfInBounds_toArray, List.set_cons_zero, List.set_cons_succ]
    refine takeH (i := 9) (d := some 68) (v := ?_) rfl rfl (by kernel_rfl) (by kernel_rfl) (by kernel_rfl) (fun _ _ _ h => h) (Or.inl ⟨by rfl, ?_⟩) hHeld ?_
    rotate_left
    · intro w' hSw; (try dsimp only at hSw); go_simp; try with_reducible rfl
    simp only [Act.put, List.setIfInBounds_toArray, List.set_cons_zero, List.set_cons_succ]
    refine takeH (i := 11) (d := some 70) (v := ?_) rfl rfl (by kernel_rfl) (by kernel_rfl) (by kernel_rfl) (fun _ _ _ h => h) (Or.inl ⟨by rfl, ?_⟩) hHeld ?_
    rotate_left
    · intro w' hSw; (try dsimp only at hSw); go_simp; try with_reducible rfl
    simp only [Act.put, List.setIfInBounds_toArray, List.set_cons_zero, List.set_cons_succ]
    refine takeH (i := 12) (d := some 71) (v := ?_) rfl rfl (by kernel_rfl) (by kernel_rfl) (by kernel_rfl) (fun _ _ _ h => h) (Or.inl ⟨by rfl, ?_⟩) hHeld ?_
    rotate_left
    · intro w' hSw; (try dsimp only at hSw); have hc := hSw.out.c8; clear hSw; go_simp; try with_reducible rfl
    simp only [Act.put, List.setIfInBounds_toArray, List.set_cons_zero, List.set_cons_succ]
    refine takeH (i := 3) (d := some 62) (v := ?_) rfl rfl (by kernel_rfl) (by kernel_rfl) (by kernel_rfl) (fun _ _ _ h => h) (Or.inl ⟨by rfl, ?_⟩) hHeld ?_
    rotate_left
    · intro w' hSw; (try dsimp only at hSw); go_simp; try with_reducible rfl
    simp only [Act.put, List.setIfInBounds_toArray, List.set_cons_zero, List.set_cons_succ]
    refine wpAnyH_ready (rs := [4]) (by kernel_rfl) (by simp) ?_
    refine AllReadyH.cons rfl (fun K hK => ?_) AllReadyH.nil
    go_simp
    refine (HQ.out _).mono ?_
    rintro e u19 ⟨rfl, hb19⟩
    have Q19 := Lib.hid (hHeld.out.keep hb19)
    have b19 := b18.drew.trans (hb19.mono (Nat.le_of_lt hHeld.out.lt))
    clear hHeld hb19
    refine hK.out _ _ Q19 (fun hHeld => ?_)
    clear hK K
    try simp only [Act.put, List.setIfInBounds_toArray, List.set_cons_zero, List.set_cons_succ]
    refine takeH (i := 5) (d := some 64) (v := ?_) rfl rfl (by kernel_rfl) (by kernel_rfl) (by kernel_rfl) (fun _ _ _ h => h) (Or.inl ⟨by rfl, ?_⟩) hHeld ?_
    rotate_left
    · intro w' hSw; (try dsimp only at hSw); go_simp; try with_reducible rfl
    simp only [Act.put, List.setIfInBounds_toArray, List.set_cons_zero, List.set_cons_succ]
    refine takeH (i := 6) (d := some 65) (v := ?_) rfl rfl (by kernel_rfl) (by kernel_rfl) (by kernel_rfl) (fun _ _ _ h => h) (Or.inl ⟨by rfl, ?_⟩) hHeld ?_
    rotate_left
    · intro w' hSw; (try dsimp only at hSw); go_simp; try with_reducible rfl
    simp only [Act.put, List.setIfInBounds_toArray, List.set_cons_zero, List.set_cons_succ]
    refine wpAnyH_ready (rs := [7]) (by kernel_rfl) (by simp) ?_
    refine AllReadyH.cons rfl (fun K hK => ?_) AllReadyH.nil
    go_simp
    refine (K9.out _ _ ?_).mono ?_
    · have hO := HM.out; omega
    rintro e u20 ⟨rfl, hb20⟩
    have Q20 := Lib.hid (hHeld.out.keep hb20)
    have b20 := b19.trans (hb20.mono (Nat.le_of_lt hHeld.out.lt))
    clear hHeld hb20
    refine hK.out _ _ Q20 (fun hHeld => ?_)
    clear hK K
    try simp only [Act.put, List.setIfInBounds_toArray, List.set_cons_zero, List.set_cons_succ]
    refine takeH (i := 8) (d := some 67) (v := ?_) rfl rfl (by kernel_rfl) (by kernel_rfl) (by kernel_rfl) (fun _ _ _ h => h) (Or.inl ⟨by rfl, ?_⟩) hHeld ?_
    rotate_left
    · intro w' hSw; (try dsimp only at hSw); go_simp; try with_reducible rfl
    simp only [Act.put, List.setIfInBounds_toArray, List.set_cons_zero, List.set_cons_succ]
    refine takeH (i := 10) (d := some 69) (v := ?_) rfl rfl (by kernel_rfl) (by kernel_rfl) (by kernel_rfl) (fun _ _ _ h => h) (Or.inl ⟨by rfl, ?_⟩) hHeld ?_
    rotate_left
    · intro w' hSw; (try dsimp only at hSw); go_simp; try with_reducible rfl
    simp only [Act.put, List.setIfInBounds_toArray, List.set_cons_zero, List.set_cons_succ]
    refine takeH (i := 13) (d := some 72) (v := ?_) rfl rfl (by kernel_rfl) (by kernel_rfl) (by kernel_rfl) (fun _ _ _ h => h) (Or.inl ⟨by rfl, ?_⟩) hHeld ?_
    rotate_left
    · intro w' hSw; (try dsimp only at hSw); go_simp; try with_reducible rfl
    simp only [Act.put, List.setIfInBounds_toArray, List.set_cons_zero, List.set_cons_succ]
    refine takeH (i := 14) (d := some 2) (v := ?_) rfl rfl (by kernel_rfl) (by kernel_rfl) (by kernel_rfl) (fun _ _ _ h => h) (Or.inl ⟨by rfl, ?_⟩) hHeld ?_
    rotate_left
    · intro w' hSw; (try dsimp only at hSw); go_simp; try with_reducible rfl
    simp only [Act.put, List.setIfInBounds_toArray, List.set_cons_zero, List.set_cons_succ]
    refine takeH (i := 15) (d := some 3) (v := ?_) rfl rfl (by kernel_rfl) (by kernel_rfl) (by kernel_rfl) (fun _ _ _ h => h) (Or.inl ⟨by rfl, ?_⟩) hHeld ?_
    rotate_left
    · intro w' hSw; (try dsimp only at hSw); go_simp; try with_reducible rfl
    simp only [Act.put, List.setIfInBounds_toArray, List.set_cons_zero, List.set_cons_succ]
    refine wpAnyH_done (by kernel_rfl) ?_ _
    go_wp2
    go_ret2
    exact ⟨by rw [← HW.out]; rfl, b20⟩
end Go.Proofs.Ytlkodoiiigndoaa
