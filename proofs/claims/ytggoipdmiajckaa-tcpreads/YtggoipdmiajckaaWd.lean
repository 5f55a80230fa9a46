/-
  Words as bytes: contracts of two (packages udp and ip), four, of the document's chr and big, of Pseudo and of the document's Pseudo; how an operation of a drawn region is taken first.
-/
import Derived.Test.YtggoipdmiajckaaTurn
import Derived.Deep.RegionHeld3
import Derived.Laws.NewBlocks
import Derived.BigCall
import Derived.BigGuard
import Derived.Lib.Hide
import Derived.Below
import Derived.Laws.Tables
import Derived.Lib.SmallJoins
import Derived.Lib.BufferWrite
import Derived.Laws.CopyOwn
import Derived.Deep.MidRow
namespace Go.Proofs.Ytggoipdmiajckaa
open Go.RowKit
set_option linter.unusedVariables false
set_option linter.unusedSimpArgs false

theorem ret_bool {a b : Bool} (h : a = b) : Ending.returned (.bool a) = .returned (.bool b) := by rw [h]
theorem lt_of_heap {W : World} {k : Nat} {o : Obj} (h : W.heap[k]? = some o) : k < W.heap.size := (Array.getElem?_eq_some_iff.1 h).1
/-- The lowest 16 bits of n. -/
def lo (n : Int) : Nat := (n % 65536).toNat

theorem two_any (n : Int) (w : World) (h1 : -9223372036854775808 ≤ n) (h2 : n ≤ 9223372036854775807) :
    Calls Try.prog 47 #[.int .i64 n] w fun e w' => e = .returned (.string (wd (lo n))) ∧ Below w.heap.size w w' := by
  have hc := conv_new w [UInt8.ofNat (lo n / 256), UInt8.ofNat (lo n)] 2 #[.int .u8 (n / 256 % 256), .int .u8 (n % 256)] (by
    unfold lo
    simp only [List.map_cons, List.map_nil, UInt8.toNat_ofNat']
    rw [show (n / 256 % 256) = (((n % 65536).toNat / 256 % 2 ^ 8 : Nat) : Int) from by omega, show (n % 256) = (((n % 65536).toNat % 2 ^ 8 : Nat) : Int) from by omega])
  simp only [List.length_cons, List.length_nil, Nat.zero_add, Nat.reduceAdd] at hc
  go_enter Try.func47, Try.ntmps47
  go_wp2
  go_ret
  exact ⟨rfl, (Below.refl _ _).alloc (Nat.le_refl _) _⟩

theorem utwo_any (n : Int) (w : World) (h1 : -9223372036854775808 ≤ n) (h2 : n ≤ 9223372036854775807) :
    Calls Try.prog 19 #[.int .i64 n] w fun e w' => e = .returned (.string (wd (lo n))) ∧ Below w.heap.size w w' := by
  have hc := conv_new w [UInt8.ofNat (lo n / 256), UInt8.ofNat (lo n)] 2 #[.int .u8 (n / 256 % 256), .int .u8 (n % 256)] (by
    unfold lo
    simp only [List.map_cons, List.map_nil, UInt8.toNat_ofNat']
    rw [show (n / 256 % 256) = (((n % 65536).toNat / 256 % 2 ^ 8 : Nat) : Int) from by omega, show (n % 256) = (((n % 65536).toNat % 2 ^ 8 : Nat) : Int) from by omega])
  simp only [List.length_cons, List.length_nil, Nat.zero_add, Nat.reduceAdd] at hc
  go_enter Try.func19, Try.ntmps19
  go_wp2
  go_ret
  exact ⟨rfl, (Below.refl _ _).alloc (Nat.le_refl _) _⟩

theorem wd_data (n : Nat) : (wd n).data.toList = [UInt8.ofNat (n / 256), UInt8.ofNat n] := rfl

/-- A number of 32 bits as four bytes. -/
def w4 (n : Nat) : ByteArray := wd (n / 65536) ++ wd (n % 65536)
theorem four_any (n : Nat) (w : World) (hn : n < 4294967296) :
    Calls Try.prog 46 #[.int .u32 n] w fun e w' => e = .returned (.string (w4 n)) ∧ Below w.heap.size w w' := by
  have za := wd_size (n / 65536)
  have zb := wd_size (n % 65536)
  have H1 : Hid (∀ w', Calls Try.prog 47 #[.int .i64 ((n : Int) / 65536)] w' fun e w'' => e = .returned (.string (wd (n / 65536))) ∧ Below w'.heap.size w' w'') := fun w' => by
    have := two_any ((n : Int) / 65536) w' (by omega) (by omega)
    rwa [show lo ((n : Int) / 65536) = n / 65536 from by unfold lo; omega] at this
  have H2 : Hid (∀ w', Calls Try.prog 47 #[.int .i64 (n : Int)] w' fun e w'' => e = .returned (.string (wd (n % 65536))) ∧ Below w'.heap.size w' w'') := fun w' => by
    have := two_any (n : Int) w' (by omega) (by omega)
    rwa [show lo (n : Int) = n % 65536 from by unfold lo; omega] at this
  have H4 : Hid (w4 n = wd (n / 65536) ++ wd (n % 65536)) := rfl
  generalize wd (n / 65536) = A at *
  generalize wd (n % 65536) = B at *
  go_enter Try.func46, Try.ntmps46
  go_wp2_with fail
  refine (H1.out _).mono ?_; rintro e w1 ⟨rfl, hb1⟩
  go_wp2_with fail
  refine (H2.out _).mono ?_; rintro e w2 ⟨rfl, hb2⟩
  go_wp2
  go_ret
  exact ⟨by rw [H4.out]; rfl, hb1.trans (hb2.mono hb1.size)⟩

theorem wraps_i64 (n : Int) (h0 : 0 ≤ n) (h1 : n < 2 ^ 32) : IntKind.i64.wrap n = n := by rw [IntKind.wrap_i64]; omega
/-- The number of two bytes. -/
def w16 (a b : UInt8) : Nat := a.toNat * 256 + b.toNat
theorem w16_le (a b : UInt8) : w16 a b ≤ 65535 := by
  have := a.toNat_lt
  have := b.toNat_lt
  unfold w16; omega
theorem or_bytes (a b : Nat) (ha : a < 256) (hb : b < 256) : bits BinOp.or IntKind.i64 ((a : Int) * 256) (b : Int) = (a : Int) * 256 + b :=
  bits_join .i64 32 (by decide) wraps_i64 8 ((a : Int) * 256) (b : Int) (by omega) (by omega) (by omega) (by omega) (by omega) (by omega)

/-- To take an operation first, the slot that it writes named. -/
theorem takeH {P : Program} {md : Region.Mode} {ops : Array Oper} {Q : Exit → Act → World → Prop} {S : World → Prop} {i : Nat} {oi : Oper} {d : Option Tmp} {v : Value} {fuel : Nat} {listed : Array Bool} {a : Act} {w : World} (hi : ops[i]? = some oi) (hd : oi.dst = d)
    (hs : Region.noSelect ops = true) (hf : Region.free md ops listed i = true) (hr : (Region.ready md ops listed).contains i = true)
    (hQ : ∀ c a w, Q (.panic c) (a.put d v) w → Q (.panic c) a w) (hy : YieldsIf P ops S oi v a) (hS : S w)
    (h : wpAnyH P md ops Q S fuel (listed.setIfInBounds i true) (a.put d v) w) : wpAnyH P md ops Q S (fuel + 1) listed a w := by
  subst hd
  exact wpAnyH_take hi hs hf hr hQ hy hS h

theorem takeA {P : Program} {md : Region.Mode} {ops : Array Oper} {Q : Exit → Act → World → Prop} {i : Nat} {oi : Oper} {d : Option Tmp} {v : Value} {fuel : Nat} {listed : Array Bool} {a : Act} {w : World} (hi : ops[i]? = some oi) (hd : oi.dst = d)
    (hs : Region.noSelect ops = true) (hf : Region.free md ops listed i = true) (hr : (Region.ready md ops listed).contains i = true)
    (hQ : ∀ c a w, Q (.panic c) (a.put d v) w → Q (.panic c) a w) (hy : Yields P ops oi v a)
    (h : wpAny P md ops Q fuel (listed.setIfInBounds i true) (a.put d v) w) : wpAny P md ops Q (fuel + 1) listed a w := by
  subst hd
  exact wpAny_take hi hs hf hr hQ hy h

theorem wd_sz (n : Nat) : (wd n).size = 2 := rfl
theorem w4_sz (n : Nat) : (w4 n).size = 4 := by unfold w4; rw [ByteArray.size_append]; rfl
theorem w4_data (n : Nat) : (w4 n).data.toList = [UInt8.ofNat (n / 65536 / 256), UInt8.ofNat (n / 65536), UInt8.ofNat (n % 65536 / 256), UInt8.ofNat (n % 65536)] := by
  unfold w4; rw [ByteArray.data_append, Array.toList_append]; rfl
/-- A text of one byte. -/
def one (n : Nat) : ByteArray := ⟨#[UInt8.ofNat n]⟩
theorem one_sz (n : Nat) : (one n).size = 1 := rfl
theorem chrN (n : Nat) (q : Int) (hq : q = n) (hn : n ≤ 255) (w : World) :
    Calls Try.prog 23 #[.int .i64 q] w fun e w' => e = .returned (.string (one n)) ∧ Below w.heap.size w w' := by
  subst hq
  exact chr_any n w hn
theorem bigN (n : Nat) (q : Int) (hq : q = n) (hn : n ≤ 65535) (w : World) :
    Calls Try.prog 24 #[.int .u64 q, .int .i64 2] w fun e w' => e = .returned (.string (wd n)) ∧ Below w.heap.size w w' := by
  subst hq
  exact big_two n w hn
theorem ofNat_mod (n m : Nat) (h : n % 256 = m % 256) : UInt8.ofNat n = UInt8.ofNat m := by
  apply UInt8.toNat_inj.1; rw [UInt8.toNat_ofNat', UInt8.toNat_ofNat']; exact h
theorem bigF (n : Nat) (q : Int) (hq : q = n) (hn : n < 4294967296) (w : World) :
    Calls Try.prog 24 #[.int .u64 q, .int .i64 4] w fun e w' => e = .returned (.string (w4 n)) ∧ Below w.heap.size w w' := by
  subst hq
  refine (big_any 4 n w (by omega) (by omega)).mono ?_
  rintro e w1 ⟨rfl, hb⟩
  refine ⟨?_, hb⟩
  have e4 : (⟨(Pm.bb n 4).toArray⟩ : ByteArray) = w4 n := by
    apply ByteArray.ext
    apply Array.toList_inj.1
    rw [w4_data]
    simp only [Pm.bb, List.nil_append, List.toList_toArray, List.cons_append]
    rw [ofNat_mod (n / 256 / 256 / 256 % 256) (n / 65536 / 256) (by omega), ofNat_mod (n / 256 / 256 % 256) (n / 65536) (by omega), ofNat_mod (n / 256 % 256) (n % 65536 / 256) (by omega), ofNat_mod (n % 256) (n % 65536) (by omega)]
  rw [e4]

theorem twoN (n : Nat) (q : Int) (hq : q = n) (hn : n ≤ 65535) (w : World) :
    Calls Try.prog 47 #[.int .i64 q] w fun e w' => e = .returned (.string (wd n)) ∧ Below w.heap.size w w' := by
  subst hq
  have := two_any (n : Int) w (by omega) (by omega)
  rwa [show lo (n : Int) = n from by unfold lo; omega] at this
theorem utwoN (n : Nat) (q : Int) (hq : q = n) (hn : n ≤ 65535) (w : World) :
    Calls Try.prog 19 #[.int .i64 q] w fun e w' => e = .returned (.string (wd n)) ∧ Below w.heap.size w w' := by
  subst hq
  have := utwo_any (n : Int) w (by omega) (by omega)
  rwa [show lo (n : Int) = n from by unfold lo; omega] at this
theorem and255 (x : Int) : bits BinOp.and IntKind.i64 x 255 = x % 256 := by
  show IntKind.i64.wrap ((BitVec.ofInt 64 x &&& BitVec.ofInt 64 255).toNat : Int) = _
  rw [BitVec.toNat_and, BitVec.toNat_ofInt, BitVec.toNat_ofInt, show ((255 : Int) % ((2 ^ 64 : Nat) : Int)).toNat = 2 ^ 8 - 1 from rfl, Nat.and_two_pow_sub_one_eq_mod, IntKind.wrap_i64]
  have h0 : 0 ≤ x % ((2 ^ 64 : Nat) : Int) := Int.emod_nonneg _ (by decide)
  have h1 : x % ((2 ^ 64 : Nat) : Int) < ((2 ^ 64 : Nat) : Int) := Int.emod_lt_of_pos _ (by decide)
  rw [show ((2 ^ 64 : Nat) : Int) = 18446744073709551616 from rfl] at *
  omega

/-- What a check sum has ahead of the bytes. -/
def psd (src dst : Nat) (pr ln : Int) : ByteArray := w4 src ++ w4 dst ++ wd (pr % 256).toNat ++ wd (ln % 65536).toNat
theorem wd_one (n : Nat) (h : n < 256) : one 0 ++ one n = wd n := by
  unfold one wd
  rw [ByteArray.mk_append_mk, show n / 256 = 0 from by omega]
  rfl

theorem pseudo_any (src dst : Nat) (pr ln : Int) (w : World) (h1 : src < 4294967296) (h2 : dst < 4294967296) (hp : -9223372036854775808 ≤ pr ∧ pr ≤ 9223372036854775807) (hl : -9223372036854775808 ≤ ln ∧ ln ≤ 9223372036854775807) :
    Calls Try.prog 40 #[.int .u32 (src : Int), .int .u32 (dst : Int), .int .i64 pr, .int .i64 ln] w fun e w' => e = .returned (.string (psd src dst pr ln)) ∧ Below w.heap.size w w' := by
  have HA : Hid (∀ w', Calls Try.prog 46 #[.int .u32 (src : Int)] w' fun e w'' => e = .returned (.string (w4 src)) ∧ Below w'.heap.size w' w'') := fun w' => four_any _ w' h1
  have HB : Hid (∀ w', Calls Try.prog 46 #[.int .u32 (dst : Int)] w' fun e w'' => e = .returned (.string (w4 dst)) ∧ Below w'.heap.size w' w'') := fun w' => four_any _ w' h2
  have HC : Hid (∀ w', Calls Try.prog 47 #[.int .i64 (pr % 256)] w' fun e w'' => e = .returned (.string (wd (pr % 256).toNat)) ∧ Below w'.heap.size w' w'') := fun w' => twoN _ _ (by omega) (by omega) w'
  have HD : Hid (∀ w', Calls Try.prog 47 #[.int .i64 ln] w' fun e w'' => e = .returned (.string (wd (ln % 65536).toNat)) ∧ Below w'.heap.size w' w'') := fun w' => two_any ln w' hl.1 hl.2
  have ha := and255 pr
  have HP : Hid (psd src dst pr ln = w4 src ++ w4 dst ++ wd (pr % 256).toNat ++ wd (ln % 65536).toNat) := rfl
  have z1 := w4_sz src
  have z2 := w4_sz dst
  have z3 := wd_sz (pr % 256).toNat
  have z4 := wd_sz (ln % 65536).toNat
  generalize psd src dst pr ln = R at *
  generalize w4 src = A at *
  generalize w4 dst = B at *
  generalize wd (pr % 256).toNat = C at *
  generalize wd (ln % 65536).toNat = D at *
  generalize pr % 256 = Q at *
  have t1 : ∀ w', (Op.stringOp .add A B).run Try.prog w' = .ok (.string (A ++ B)) w' := fun w' => run_string_add_sum w' _ _ (by omega)
  have t2 : ∀ w', (Op.stringOp .add (A ++ B) C).run Try.prog w' = .ok (.string (A ++ B ++ C)) w' := fun w' => run_string_add_sum w' _ _ (by simp only [ByteArray.size_append]; omega)
  have t3 : ∀ w', (Op.stringOp .add (A ++ B ++ C) D).run Try.prog w' = .ok (.string (A ++ B ++ C ++ D)) w' := fun w' => run_string_add_sum w' _ _ (by simp only [ByteArray.size_append]; omega)
  clear z1 z2 z3 z4
  go_enter Try.func40, Try.ntmps40
  go_wp2_with fail
  refine (HA.out _).mono ?_; rintro e w1 ⟨rfl, hb1⟩
  go_wp2_with fail
  refine (HB.out _).mono ?_; rintro e w2 ⟨rfl, hb2⟩
  have b2 := hb1.trans (hb2.mono hb1.size)
  go_wp2_with fail
  refine (HC.out _).mono ?_; rintro e w3 ⟨rfl, hb3⟩
  have b3 := b2.trans (hb3.mono b2.size)
  go_wp2_with fail
  refine (HD.out _).mono ?_; rintro e w4 ⟨rfl, hb4⟩
  have b4 := b3.trans (hb4.mono b3.size)
  go_wp2
  go_ret
  exact ⟨by rw [HP.out]; rfl, b4⟩

set_option maxHeartbeats 1000000 in
theorem rpseudo_any (src dst : Nat) (pr ln : Int) (w : World) (h1 : src < 4294967296) (h2 : dst < 4294967296) (hp : -9223372036854775808 ≤ pr ∧ pr ≤ 9223372036854775807) (hl : -9223372036854775808 ≤ ln ∧ ln ≤ 9223372036854775807) :
    Calls Try.prog 27 #[.int .u32 (src : Int), .int .u32 (dst : Int), .int .i64 pr, .int .i64 ln] w fun e w' => e = .returned (.string (psd src dst pr ln)) ∧ Below w.heap.size w w' := by
  have HA : Hid (∀ w', Calls Try.prog 24 #[.int .u64 (src : Int), .int .i64 4] w' fun e w'' => e = .returned (.string (w4 src)) ∧ Below w'.heap.size w' w'') := fun w' => bigF _ _ rfl h1 w'
  have HB : Hid (∀ w', Calls Try.prog 24 #[.int .u64 (dst : Int), .int .i64 4] w' fun e w'' => e = .returned (.string (w4 dst)) ∧ Below w'.heap.size w' w'') := fun w' => bigF _ _ rfl h2 w'
  have HO : Hid (∀ w', Calls Try.prog 23 #[.int .i64 0] w' fun e w'' => e = .returned (.string (one 0)) ∧ Below w'.heap.size w' w'') := fun w' => chrN 0 0 rfl (by omega) w'
  have HR : Hid (∀ w', Calls Try.prog 38 #[.int .i64 pr, .int .i64 256] w' fun e w'' => e = .returned (.int .i64 (pr % 256)) ∧ w'' = w') := fun w' => rest_any pr 256 w' (by omega) (by omega) hp.1 hp.2
  have HC : Hid (∀ w', Calls Try.prog 23 #[.int .i64 (pr % 256)] w' fun e w'' => e = .returned (.string (one (pr % 256).toNat)) ∧ Below w'.heap.size w' w'') := fun w' => chrN _ _ (by omega) (by omega) w'
  have HL : Hid (∀ w', Calls Try.prog 38 #[.int .i64 ln, .int .i64 65536] w' fun e w'' => e = .returned (.int .i64 (ln % 65536)) ∧ w'' = w') := fun w' => rest_any ln 65536 w' (by omega) (by omega) hl.1 hl.2
  have HD : Hid (∀ w', Calls Try.prog 24 #[.int .u64 (ln % 65536), .int .i64 2] w' fun e w'' => e = .returned (.string (wd (ln % 65536).toNat)) ∧ Below w'.heap.size w' w'') := fun w' => bigN _ _ (by omega) (by omega) w'
  have HP : Hid (psd src dst pr ln = w4 src ++ w4 dst ++ one 0 ++ one (pr % 256).toNat ++ wd (ln % 65536).toNat) := by
    show _ = _
    have e := wd_one (pr % 256).toNat (by omega)
    unfold psd
    rw [← e]
    apply ByteArray.ext; apply Array.toList_inj.1
    simp only [ByteArray.data_append, Array.toList_append, List.append_assoc]
  have z1 := w4_sz src
  have z2 := w4_sz dst
  have z3 := one_sz 0
  have z4 := one_sz (pr % 256).toNat
  have z5 := wd_sz (ln % 65536).toNat
  have v1 : IntKind.u64.wrap (src : Int) = (src : Int) := wrap_u64_in _ (by omega) (by omega)
  have v2 : IntKind.u64.wrap (dst : Int) = (dst : Int) := wrap_u64_in _ (by omega) (by omega)
  have v3 : IntKind.u64.wrap (ln % 65536) = ln % 65536 := wrap_u64_in _ (by omega) (by omega)
  generalize psd src dst pr ln = R at *
  generalize w4 src = A at *
  generalize w4 dst = B at *
  generalize one 0 = C at *
  generalize one (pr % 256).toNat = D at *
  generalize wd (ln % 65536).toNat = E at *
  generalize pr % 256 = Q at *
  generalize ln % 65536 = M at *
  have t1 : ∀ w', (Op.stringOp .add A B).run Try.prog w' = .ok (.string (A ++ B)) w' := fun w' => run_string_add_sum w' _ _ (by omega)
  have t2 : ∀ w', (Op.stringOp .add (A ++ B) C).run Try.prog w' = .ok (.string (A ++ B ++ C)) w' := fun w' => run_string_add_sum w' _ _ (by simp only [ByteArray.size_append]; omega)
  have t3 : ∀ w', (Op.stringOp .add (A ++ B ++ C) D).run Try.prog w' = .ok (.string (A ++ B ++ C ++ D)) w' := fun w' => run_string_add_sum w' _ _ (by simp only [ByteArray.size_append]; omega)
  have t4 : ∀ w', (Op.stringOp .add (A ++ B ++ C ++ D) E).run Try.prog w' = .ok (.string (A ++ B ++ C ++ D ++ E)) w' := fun w' => run_string_add_sum w' _ _ (by simp only [ByteArray.size_append]; omega)
  clear z1 z2 z3 z4 z5
  go_enter Try.func27, Try.ntmps27
  go_wp2_with fail
  refine (HA.out _).mono ?_; rintro e w1 ⟨rfl, hb1⟩
  go_wp2_with fail
  refine (HB.out _).mono ?_; rintro e w2 ⟨rfl, hb2⟩
  have b2 := hb1.trans (hb2.mono hb1.size)
  go_wp2_with fail
  refine (HO.out _).mono ?_; rintro e w3 ⟨rfl, hb3⟩
  have b3 := b2.trans (hb3.mono b2.size)
  go_wp2_with fail
  refine (HR.out _).mono ?_; rintro e w3 ⟨rfl, rfl⟩
  go_wp2_with fail
  refine (HC.out _).mono ?_; rintro e w4 ⟨rfl, hb4⟩
  have b4 := b3.trans (hb4.mono b3.size)
  go_wp2_with fail
  refine (HL.out _).mono ?_; rintro e w4 ⟨rfl, rfl⟩
  go_wp2_with fail
  refine (HD.out _).mono ?_; rintro e w5 ⟨rfl, hb5⟩
  have b5 := b4.trans (hb5.mono b4.size)
  go_wp2
  go_ret
  exact ⟨by rw [HP.out]; rfl, b5⟩
end Go.Proofs.Ytggoipdmiajckaa
