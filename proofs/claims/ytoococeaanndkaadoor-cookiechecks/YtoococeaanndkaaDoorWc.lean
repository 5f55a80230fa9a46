/-
  The walk of CookieChecks.
-/
import Derived.Test.YtoococeaanndkaaDoorWm
namespace Go.Proofs.YtoococeaanndkaaDoor
open Go.RowKit
set_option linter.unusedVariables false
set_option linter.unusedSimpArgs false

set_option maxHeartbeats 2000000 in
theorem checks_walk (k0 k1 : Int) (e f : En) (i c : Nat) (n : Int) (w : World) (b0 : 0 ≤ k0 ∧ k0 ≤ 18446744073709551615) (b1 : 0 ≤ k1 ∧ k1 ≤ 18446744073709551615) (he : EFits e) (hf : EFits f) (i1 : (i : Int) < 4294967296) (c1 : (c : Int) < 4294967296) (n0 : -9223372036854775808 ≤ n ∧ n ≤ 9223372036854775807) (hT : Tab w) :
    Calls Tryd.prog 4 #[.int .u64 k0, .int .u64 k1, ev e, ev f, .int .u32 i, .int .u32 c, .int .i64 n] w fun x w' => x = .returned (.bool true) ∧ Below w.heap.size w w' := by
  have HN : Hid (∀ W, Calls Tryd.prog 7 #[.int .u64 k0, .int .u64 k1] W fun x w' => x = .returned (.pointer (some ⟨W.heap.size, 0, none⟩)) ∧ KB W.heap.size k0 k1 w' ∧ Below W.heap.size W w') := new_any k0 k1
  have HM : Hid (∀ W p, KB p k0 k1 W → Tab W → Calls Tryd.prog 10 #[.pointer (some ⟨p, 0, none⟩), ev e, ev f, .int .u32 i, .int .u32 c, .int .i64 n] W fun x w' => x = .returned (.tuple #[.int .i64 (chk k0 k1 e f i c n).1, .int .i64 (chk k0 k1 e f i c n).2]) ∧ Below W.heap.size W w') := fun W p h t => check_any e f i c n he hf (by omega) i1 (by omega) c1 W h t
  have HD : Hid (∀ W, Calls Tryd.prog 11 #[kv k0 k1, ev e, ev f, .int .u32 i, .int .u32 c, .int .i64 n] W fun x w' => x = .returned (.tuple #[.int .i64 (chk k0 k1 e f i c n).1, .int .i64 (chk k0 k1 e f i c n).2]) ∧ Below W.heap.size W w') := fun W => dcheck_any k0 k1 e f i c n he hf (by omega) i1 (by omega) c1 W
  have N0 := Lib.hid (E2.new e f w)
  have L0 := Lib.hid (e2_below e f w)
  have HU := Lib.hid Tryd.underlying25
  have HUc := Lib.hid Tryd.underlying29
  have T0 : Hid (Tab ((w.alloc (.cells #[.int .u32 (e.a : Int), .int .i64 e.p] 25)).alloc (.cells #[.int .u32 (f.a : Int), .int .i64 f.p] 25))) := hT.below L0.out
  generalize (chk k0 k1 e f i c n).1 = X at *
  generalize (chk k0 k1 e f i c n).2 = Y at *
  clear he hf hT n0
  unfold ev
  go_enter Tryd.func4, Tryd.ntmps4
  go_upto_region 1 with fail
  generalize ((w.alloc (.cells #[.int .u32 (e.a : Int), .int .i64 e.p] 25)).alloc (.cells #[.int .u32 (f.a : Int), .int .i64 f.p] 25)) = W0 at *
  go_upto_region 2 with fail
  refine (HN.out _).mono ?_; rintro x w1 ⟨rfl, hk, hb⟩
  go_upto_region 2 with fail
  have hA : Below w1.heap.size w1 (w1.alloc (.cells #[.int .u64 k0, .int .u64 k1] 29)) := (Below.refl _ _).alloc (Nat.le_refl _) _
  have E1 : Hid (Ev W0.heap.size w.heap.size (w.heap.size + 1) w1.heap.size k0 k1 e f (w1.alloc (.cells #[.int .u64 k0, .int .u64 k1] 29))) :=
    ⟨hk.keep hA, (N0.out.a.keep hb).keep hA, (N0.out.b.keep hb).keep hA, CB.new k0 k1 w1, (T0.out.below hb).below hA⟩
  have hL1 := L0.out.trans (hb.mono L0.out.size)
  have L1 := Lib.hid (hL1.trans (hA.mono hL1.size))
  clear hA hk hb hL1 N0 L0 T0
  generalize w1.alloc (.cells #[.int .u64 k0, .int .u64 k1] 29) = W1 at *
  generalize W0.heap.size = p at *
  generalize w1.heap.size = s at *
  go_wp2_with (first | (refine wpList_load_mid rfl 25 _ rfl _ _ rfl (ecl e) _ (EB.range E1.out.a) HU.out rfl infoEnd ?_) | (refine wpList_load_mid rfl 25 _ rfl _ _ rfl (ecl f) _ (EB.range E1.out.b) HU.out rfl infoEnd ?_))
  refine (HM.out _ _ E1.out.k E1.out.t).mono ?_; rintro x w4 ⟨rfl, hb⟩
  have E2 := Lib.hid (E1.out.keep hb)
  have L2 := Lib.hid (L1.out.trans (hb.mono L1.out.size))
  clear hb E1 L1
  go_wp2_with (first | (refine wpList_load_mid rfl 29 _ rfl _ _ rfl [.int .u64 k0, .int .u64 k1] _ (CB.range E2.out.c) HUc.out rfl infoCookies ?_) | (refine wpList_load_mid rfl 25 _ rfl _ _ rfl (ecl e) _ (EB.range E2.out.a) HU.out rfl infoEnd ?_) | (refine wpList_load_mid rfl 25 _ rfl _ _ rfl (ecl f) _ (EB.range E2.out.b) HU.out rfl infoEnd ?_))
  refine (HD.out _).mono ?_; rintro x w5 ⟨rfl, hb⟩
  have L3 := Lib.hid (L2.out.trans (hb.mono L2.out.size))
  clear hb E2 L2
  go_wp2_with fail
  go_ret
  exact ⟨rfl, L3.out⟩
end Go.Proofs.YtoococeaanndkaaDoor
