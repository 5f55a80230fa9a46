/-
  Contracts of Pseudo (package ip) and of the document's Pseudo.
-/
import Derived.Test.YtlkodoiiigndoaaRW
namespace Go.Proofs.Ytlkodoiiigndoaa
open Go.RowKit
set_option linter.unusedVariables false
set_option linter.unusedSimpArgs false

theorem and255 (x : Int) : bits BinOp.and IntKind.i64 x 255 = x % 256 := by
  show IntKind.i64.wrap ((BitVec.ofInt 64 x &&& BitVec.ofInt 64 255).toNat : Int) = _
  rw [BitVec.toNat_and, BitVec.toNat_ofInt, BitVec.toNat_ofInt, show ((255 : Int) % ((2 ^ 64 : Nat) : Int)).toNat = 2 ^ 8 - 1 from rfl, Nat.and_two_pow_sub_one_eq_mod, IntKind.wrap_i64]
  have h0 : 0 ≤ x % ((2 ^ 64 : Nat) : Int) := Int.emod_nonneg _ (by decide)
  have h1 : x % ((2 ^ 64 : Nat) : Int) < ((2 ^ 64 : Nat) : Int) := Int.emod_lt_of_pos _ (by decide)
  rw [show ((2 ^ 64 : Nat) : Int) = 18446744073709551616 from rfl] at *
  omega

/-- What a check sum has ahead of the bytes. -/
def psd (src dst : Nat) (pr ln : Int) : ByteArray := w4 src ++ w4 dst ++ wd (pr % 256).toNat ++ wd (ln % 65536).toNat
theorem wd_one (n : Nat) (h : n < 256) : one 0 ++ one n = wd n := by
  unfold one wd
  rw [ByteArray.mk_append_mk, show n / 256 = 0 from by omega]
  rfl

theorem pseudo_any (src dst : Nat) (pr ln : Int) (w : World) (h1 : src < 4294967296) (h2 : dst < 4294967296) (hp : -9223372036854775808 ≤ pr ∧ pr ≤ 9223372036854775807) (hl : -9223372036854775808 ≤ ln ∧ ln ≤ 9223372036854775807) :
    Calls Try.prog 14 #[.int .u32 (src : Int), .int .u32 (dst : Int), .int .i64 pr, .int .i64 ln] w fun e w' => e = .returned (.string (psd src dst pr ln)) ∧ Below w.heap.size w w' := by
  have HA : Hid (∀ w', Calls Try.prog 28 #[.int .u32 (src : Int)] w' fun e w'' => e = .returned (.string (w4 src)) ∧ Below w'.heap.size w' w'') := fun w' => four_any _ w' h1
  have HB : Hid (∀ w', Calls Try.prog 28 #[.int .u32 (dst : Int)] w' fun e w'' => e = .returned (.string (w4 dst)) ∧ Below w'.heap.size w' w'') := fun w' => four_any _ w' h2
  have HC : Hid (∀ w', Calls Try.prog 29 #[.int .i64 (pr % 256)] w' fun e w'' => e = .returned (.string (wd (pr % 256).toNat)) ∧ Below w'.heap.size w' w'') := fun w' => twoN _ _ (by omega) (by omega) w'
  have HD : Hid (∀ w', Calls Try.prog 29 #[.int .i64 ln] w' fun e w'' => e = .returned (.string (wd (ln % 65536).toNat)) ∧ Below w'.heap.size w' w'') := fun w' => two_any ln w' hl.1 hl.2
  have ha := and255 pr
  have HP : Hid (psd src dst pr ln = w4 src ++ w4 dst ++ wd (pr % 256).toNat ++ wd (ln % 65536).toNat) := rfl
  have z1 := w4_sz src
  have z2 := w4_sz dst
  have z3 := wd_sz (pr % 256).toNat
  have z4 := wd_sz (ln % 65536).toNat
  generalize psd src dst pr ln = R at *
  generalize w4 src = A at *
  generalize w4 dst = B at *
  generalize wd (pr % 256).toNat = C at *
  generalize wd (ln % 65536).toNat = D at *
  generalize pr % 256 = Q at *
  have t1 : ∀ w', (Op.stringOp .add A B).run Try.prog w' = .ok (.string (A ++ B)) w' := fun w' => run_string_add_sum w' _ _ (by omega)
  have t2 : ∀ w', (Op.stringOp .add (A ++ B) C).run Try.prog w' = .ok (.string (A ++ B ++ C)) w' := fun w' => run_string_add_sum w' _ _ (by simp only [ByteArray.size_append]; omega)
  have t3 : ∀ w', (Op.stringOp .add (A ++ B ++ C) D).run Try.prog w' = .ok (.string (A ++ B ++ C ++ D)) w' := fun w' => run_string_add_sum w' _ _ (by simp only [ByteArray.size_append]; omega)
  clear z1 z2 z3 z4
  go_enter Try.func14, Try.ntmps14
  go_wp2_with fail
  refine (HA.out _).mono ?_; rintro e w1 ⟨rfl, hb1⟩
  go_wp2_with fail
  refine (HB.out _).mono ?_; rintro e w2 ⟨rfl, hb2⟩
  have b2 := hb1.trans (hb2.mono hb1.size)
  go_wp2_with fail
  refine (HC.out _).mono ?_; rintro e w3 ⟨rfl, hb3⟩
  have b3 := b2.trans (hb3.mono b2.size)
  go_wp2_with fail
  refine (HD.out _).mono ?_; rintro e w4 ⟨rfl, hb4⟩
  have b4 := b3.trans (hb4.mono b3.size)
  go_wp2
  go_ret
  exact ⟨by rw [HP.out]; rfl, b4⟩

set_option maxHeartbeats 1000000 in
theorem rpseudo_any (src dst : Nat) (pr ln : Int) (w : World) (h1 : src < 4294967296) (h2 : dst < 4294967296) (hp : -9223372036854775808 ≤ pr ∧ pr ≤ 9223372036854775807) (hl : -9223372036854775808 ≤ ln ∧ ln ≤ 9223372036854775807) :
    Calls Try.prog 15 #[.int .u32 (src : Int), .int .u32 (dst : Int), .int .i64 pr, .int .i64 ln] w fun e w' => e = .returned (.string (psd src dst pr ln)) ∧ Below w.heap.size w w' := by
  have HA : Hid (∀ w', Calls Try.prog 20 #[.int .u64 (src : Int), .int .i64 4] w' fun e w'' => e = .returned (.string (w4 src)) ∧ Below w'.heap.size w' w'') := fun w' => bigF _ _ rfl h1 w'
  have HB : Hid (∀ w', Calls Try.prog 20 #[.int .u64 (dst : Int), .int .i64 4] w' fun e w'' => e = .returned (.string (w4 dst)) ∧ Below w'.heap.size w' w'') := fun w' => bigF _ _ rfl h2 w'
  have HO : Hid (∀ w', Calls Try.prog 19 #[.int .i64 0] w' fun e w'' => e = .returned (.string (one 0)) ∧ Below w'.heap.size w' w'') := fun w' => chrN 0 0 rfl (by omega) w'
  have HR : Hid (∀ w', Calls Try.prog 17 #[.int .i64 pr, .int .i64 256] w' fun e w'' => e = .returned (.int .i64 (pr % 256)) ∧ w'' = w') := fun w' => rest_any pr 256 w' (by omega) (by omega) hp.1 hp.2
  have HC : Hid (∀ w', Calls Try.prog 19 #[.int .i64 (pr % 256)] w' fun e w'' => e = .returned (.string (one (pr % 256).toNat)) ∧ Below w'.heap.size w' w'') := fun w' => chrN _ _ (by omega) (by omega) w'
  have HL : Hid (∀ w', Calls Try.prog 17 #[.int .i64 ln, .int .i64 65536] w' fun e w'' => e = .returned (.int .i64 (ln % 65536)) ∧ w'' = w') := fun w' => rest_any ln 65536 w' (by omega) (by omega) hl.1 hl.2
  have HD : Hid (∀ w', Calls Try.prog 20 #[.int .u64 (ln % 65536), .int .i64 2] w' fun e w'' => e = .returned (.string (wd (ln % 65536).toNat)) ∧ Below w'.heap.size w' w'') := fun w' => bigN _ _ (by omega) (by omega) w'
  have HP : Hid (psd src dst pr ln = w4 src ++ w4 dst ++ one 0 ++ one (pr % 256).toNat ++ wd (ln % 65536).toNat) := by
    show _ = _
    have e := wd_one (pr % 256).toNat (by omega)
    unfold psd
    rw [← e]
    apply ByteArray.ext; apply Array.toList_inj.1
    simp only [ByteArray.data_append, Array.toList_append, List.append_assoc]
  have z1 := w4_sz src
  have z2 := w4_sz dst
  have z3 := one_sz 0
  have z4 := one_sz (pr % 256).toNat
  have z5 := wd_sz (ln % 65536).toNat
  have v1 : IntKind.u64.wrap (src : Int) = (src : Int) := wrap_u64_in _ (by omega) (by omega)
  have v2 : IntKind.u64.wrap (dst : Int) = (dst : Int) := wrap_u64_in _ (by omega) (by omega)
  have v3 : IntKind.u64.wrap (ln % 65536) = ln % 65536 := wrap_u64_in _ (by omega) (by omega)
  generalize psd src dst pr ln = R at *
  generalize w4 src = A at *
  generalize w4 dst = B at *
  generalize one 0 = C at *
  generalize one (pr % 256).toNat = D at *
  generalize wd (ln % 65536).toNat = E at *
  generalize pr % 256 = Q at *
  generalize ln % 65536 = M at *
  have t1 : ∀ w', (Op.stringOp .add A B).run Try.prog w' = .ok (.string (A ++ B)) w' := fun w' => run_string_add_sum w' _ _ (by omega)
  have t2 : ∀ w', (Op.stringOp .add (A ++ B) C).run Try.prog w' = .ok (.string (A ++ B ++ C)) w' := fun w' => run_string_add_sum w' _ _ (by simp only [ByteArray.size_append]; omega)
  have t3 : ∀ w', (Op.stringOp .add (A ++ B ++ C) D).run Try.prog w' = .ok (.string (A ++ B ++ C ++ D)) w' := fun w' => run_string_add_sum w' _ _ (by simp only [ByteArray.size_append]; omega)
  have t4 : ∀ w', (Op.stringOp .add (A ++ B ++ C ++ D) E).run Try.prog w' = .ok (.string (A ++ B ++ C ++ D ++ E)) w' := fun w' => run_string_add_sum w' _ _ (by simp only [ByteArray.size_append]; omega)
  clear z1 z2 z3 z4 z5
  go_enter Try.func15, Try.ntmps15
  go_wp2_with fail
  refine (HA.out _).mono ?_; rintro e w1 ⟨rfl, hb1⟩
  go_wp2_with fail
  refine (HB.out _).mono ?_; rintro e w2 ⟨rfl, hb2⟩
  have b2 := hb1.trans (hb2.mono hb1.size)
  go_wp2_with fail
  refine (HO.out _).mono ?_; rintro e w3 ⟨rfl, hb3⟩
  have b3 := b2.trans (hb3.mono b2.size)
  go_wp2_with fail
  refine (HR.out _).mono ?_; rintro e w3 ⟨rfl, rfl⟩
  go_wp2_with fail
  refine (HC.out _).mono ?_; rintro e w4 ⟨rfl, hb4⟩
  have b4 := b3.trans (hb4.mono b3.size)
  go_wp2_with fail
  refine (HL.out _).mono ?_; rintro e w4 ⟨rfl, rfl⟩
  go_wp2_with fail
  refine (HD.out _).mono ?_; rintro e w5 ⟨rfl, hb5⟩
  have b5 := b4.trans (hb5.mono b4.size)
  go_wp2
  go_ret
  exact ⟨by rw [HP.out]; rfl, b5⟩
end Go.Proofs.Ytlkodoiiigndoaa
