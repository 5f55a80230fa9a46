/-
  The walk of CookieMakes.
-/
import Derived.Test.YtoococeaanndkaaDoorDo
namespace Go.Proofs.YtoococeaanndkaaDoor
open Go.RowKit
set_option linter.unusedVariables false
set_option linter.unusedSimpArgs false

/-- What Make tells. -/
def mk (k0 k1 : Int) (e f : En) (i m n : Int) : Int × Int := if (0 ≤ n ∧ n ≤ 1099511627776) ∧ 8 ≤ m then (ck k0 k1 e f i (hd m n), 0) else (0, 1)
theorem make_any {p : Nat} {k0 k1 : Int} (e f : En) (i m n : Int) (he : EFits e) (hf : EFits f) (i0 : 0 ≤ i) (i1 : i < 4294967296) (w : World) (hk : KB p k0 k1 w) (hT : Tab w) :
    Calls Tryd.prog 8 #[.pointer (some ⟨p, 0, none⟩), ev e, ev f, .int .u32 i, .int .i64 m, .int .i64 n] w fun x w' => x = .returned (.tuple #[.int .u32 (mk k0 k1 e f i m n).1, .int .i64 (mk k0 k1 e f i m n).2]) ∧ Below w.heap.size w w' := by
  by_cases h : mok m n
  · have : mk k0 k1 e f i m n = (ck k0 k1 e f i (hd m n), 0) := if_pos h
    rw [this]; exact make_ok e f i m n he hf i0 i1 w hk hT h
  · have : mk k0 k1 e f i m n = (0, 1) := if_neg h
    rw [this]; exact make_bad e f i m n w hk hT h
theorem dmake_any (k0 k1 : Int) (e f : En) (i m n : Int) (he : EFits e) (hf : EFits f) (i0 : 0 ≤ i) (i1 : i < 4294967296) (w : World) :
    Calls Tryd.prog 9 #[kv k0 k1, ev e, ev f, .int .u32 i, .int .i64 m, .int .i64 n] w fun x w' => x = .returned (.tuple #[.int .u32 (mk k0 k1 e f i m n).1, .int .i64 (mk k0 k1 e f i m n).2]) ∧ Below w.heap.size w w' := by
  by_cases h : mok m n
  · have : mk k0 k1 e f i m n = (ck k0 k1 e f i (hd m n), 0) := if_pos h
    rw [this]; exact dmake_ok k0 k1 e f i m n he hf i0 i1 w h
  · have : mk k0 k1 e f i m n = (0, 1) := if_neg h
    rw [this]; exact dmake_bad k0 k1 e f i m n w h
/-- What the walks of both laws hold. -/
structure Ev (p q r s : Nat) (k0 k1 : Int) (e f : En) (W : World) : Prop where
  k : KB p k0 k1 W
  a : EB q e W
  b : EB r f W
  c : CB s k0 k1 W
  t : Tab W
theorem Ev.keep {p q r s : Nat} {k0 k1 : Int} {e f : En} {W W' : World} (h : Ev p q r s k0 k1 e f W) (hb : Below W.heap.size W W') : Ev p q r s k0 k1 e f W' := ⟨h.k.keep hb, h.a.keep hb, h.b.keep hb, h.c.keep hb, h.t.below hb⟩
set_option maxHeartbeats 2000000 in
theorem makes_walk (k0 k1 : Int) (e f : En) (i : Nat) (m n : Int) (w : World) (b0 : 0 ≤ k0 ∧ k0 ≤ 18446744073709551615) (b1 : 0 ≤ k1 ∧ k1 ≤ 18446744073709551615) (he : EFits e) (hf : EFits f) (i1 : (i : Int) < 4294967296) (m0 : -9223372036854775808 ≤ m ∧ m ≤ 9223372036854775807) (n0 : -9223372036854775808 ≤ n ∧ n ≤ 9223372036854775807) (hT : Tab w) :
    Calls Tryd.prog 3 #[.int .u64 k0, .int .u64 k1, ev e, ev f, .int .u32 i, .int .i64 m, .int .i64 n] w fun x w' => x = .returned (.bool true) ∧ Below w.heap.size w w' := by
  have HN : Hid (∀ W, Calls Tryd.prog 7 #[.int .u64 k0, .int .u64 k1] W fun x w' => x = .returned (.pointer (some ⟨W.heap.size, 0, none⟩)) ∧ KB W.heap.size k0 k1 w' ∧ Below W.heap.size W w') := new_any k0 k1
  have HM : Hid (∀ W p, KB p k0 k1 W → Tab W → Calls Tryd.prog 8 #[.pointer (some ⟨p, 0, none⟩), ev e, ev f, .int .u32 i, .int .i64 m, .int .i64 n] W fun x w' => x = .returned (.tuple #[.int .u32 (mk k0 k1 e f i m n).1, .int .i64 (mk k0 k1 e f i m n).2]) ∧ Below W.heap.size W w') := fun W p h t => make_any e f i m n he hf (by omega) i1 W h t
  have HD : Hid (∀ W, Calls Tryd.prog 9 #[kv k0 k1, ev e, ev f, .int .u32 i, .int .i64 m, .int .i64 n] W fun x w' => x = .returned (.tuple #[.int .u32 (mk k0 k1 e f i m n).1, .int .i64 (mk k0 k1 e f i m n).2]) ∧ Below W.heap.size W w') := fun W => dmake_any k0 k1 e f i m n he hf (by omega) i1 W
  have N0 := Lib.hid (E2.new e f w)
  have L0 := Lib.hid (e2_below e f w)
  have HU := Lib.hid Tryd.underlying25
  have HUc := Lib.hid Tryd.underlying29
  have T0 : Hid (Tab ((w.alloc (.cells #[.int .u32 (e.a : Int), .int .i64 e.p] 25)).alloc (.cells #[.int .u32 (f.a : Int), .int .i64 f.p] 25))) := hT.below L0.out
  generalize (mk k0 k1 e f i m n).1 = X at *
  generalize (mk k0 k1 e f i m n).2 = Y at *
  clear he hf hT m0 n0
  unfold ev
  go_enter Tryd.func3, Tryd.ntmps3
  go_upto_region 1 with fail
  generalize ((w.alloc (.cells #[.int .u32 (e.a : Int), .int .i64 e.p] 25)).alloc (.cells #[.int .u32 (f.a : Int), .int .i64 f.p] 25)) = W0 at *
  go_upto_region 2 with fail
  refine (HN.out _).mono ?_; rintro x w1 ⟨rfl, hk, hb⟩
  go_upto_region 2 with fail
  have hA : Below w1.heap.size w1 (w1.alloc (.cells #[.int .u64 k0, .int .u64 k1] 29)) := (Below.refl _ _).alloc (Nat.le_refl _) _
  have E1 : Hid (Ev W0.heap.size w.heap.size (w.heap.size + 1) w1.heap.size k0 k1 e f (w1.alloc (.cells #[.int .u64 k0, .int .u64 k1] 29))) :=
    ⟨hk.keep hA, (N0.out.a.keep hb).keep hA, (N0.out.b.keep hb).keep hA, CB.new k0 k1 w1, (T0.out.below hb).below hA⟩
  have hL1 := L0.out.trans (hb.mono L0.out.size)
  have L1 := Lib.hid (hL1.trans (hA.mono hL1.size))
  clear hA hk hb hL1 N0 L0 T0
  generalize w1.alloc (.cells #[.int .u64 k0, .int .u64 k1] 29) = W1 at *
  generalize W0.heap.size = p at *
  generalize w1.heap.size = s at *
  go_wp2_with (first | (refine wpList_load_mid rfl 25 _ rfl _ _ rfl (ecl e) _ (EB.range E1.out.a) HU.out rfl infoEnd ?_) | (refine wpList_load_mid rfl 25 _ rfl _ _ rfl (ecl f) _ (EB.range E1.out.b) HU.out rfl infoEnd ?_))
  refine (HM.out _ _ E1.out.k E1.out.t).mono ?_; rintro x w4 ⟨rfl, hb⟩
  have E2 := Lib.hid (E1.out.keep hb)
  have L2 := Lib.hid (L1.out.trans (hb.mono L1.out.size))
  clear hb E1 L1
  go_wp2_with (first | (refine wpList_load_mid rfl 29 _ rfl _ _ rfl [.int .u64 k0, .int .u64 k1] _ (CB.range E2.out.c) HUc.out rfl infoCookies ?_) | (refine wpList_load_mid rfl 25 _ rfl _ _ rfl (ecl e) _ (EB.range E2.out.a) HU.out rfl infoEnd ?_) | (refine wpList_load_mid rfl 25 _ rfl _ _ rfl (ecl f) _ (EB.range E2.out.b) HU.out rfl infoEnd ?_))
  refine (HD.out _).mono ?_; rintro x w5 ⟨rfl, hb⟩
  have L3 := Lib.hid (L2.out.trans (hb.mono L2.out.size))
  clear hb E2 L2
  go_wp2_with fail
  go_ret
  exact ⟨rfl, L3.out⟩
end Go.Proofs.YtoococeaanndkaaDoor
