/-
  The document's Check by contract.
-/
import Derived.Test.YtoococeaanndkaaDoorDn
namespace Go.Proofs.YtoococeaanndkaaDoor
open Go.RowKit
set_option linter.unusedVariables false
set_option linter.unusedSimpArgs false

set_option maxHeartbeats 2000000 in
theorem dc_time (k0 k1 : Int) (e f : En) (i c n : Int) (he : EFits e) (hf : EFits f) (i0 : 0 ≤ i) (i1 : i < 4294967296) (c0 : 0 ≤ c) (c1 : c < 4294967296) (w : World) (ht : ¬ (0 ≤ n ∧ n ≤ 1099511627776)) :
    Calls Tryd.prog 11 #[kv k0 k1, ev e, ev f, .int .u32 i, .int .u32 c, .int .i64 n] w fun x w' => x = .returned (.tuple #[.int .i64 0, .int .i64 1]) ∧ Below w.heap.size w w' := by
  have N0 := Lib.hid (C3.new k0 k1 e f w)
  have L0 := Lib.hid (box3_below k0 k1 e f w)
  have HU := Lib.hid Tryd.underlying25
  have HUc := Lib.hid Tryd.underlying29
  have HI : Hid (∀ W, Calls Tryd.prog 17 #[.int .i64 n, .int .i64 0, .int .i64 1099511627776] W fun e w' => e = .returned (.bool true) ∧ w' = W) := fun W => by
    have := outside_any n 0 1099511627776 W
    rwa [decide_eq_true (by omega)] at this
  clear he hf ht N0
  unfold box3 at *
  unfold ev kv
  go_enter Tryd.func11, Tryd.ntmps11
  go_upto_region 1 with fail
  generalize ((w.alloc (.cells #[.int .u64 k0, .int .u64 k1] 29)).alloc (.cells #[.int .u32 (e.a : Int), .int .i64 e.p] 25)).alloc (.cells #[.int .u32 (f.a : Int), .int .i64 f.p] 25) = W0 at *
  go_wp2_with fail
  refine (HI.out _).mono ?_; rintro x w2 ⟨rfl, rfl⟩
  skip
  go_wp2_with fail
  go_ret2
  exact ⟨rfl, L0.out⟩
set_option maxHeartbeats 2000000 in
theorem dc_lateC (k0 k1 : Int) (e f : En) (i c n : Int) (he : EFits e) (hf : EFits f) (i0 : 0 ≤ i) (i1 : i < 4294967296) (c0 : 0 ≤ c) (c1 : c < 4294967296) (w : World) (ht : 0 ≤ n ∧ n ≤ 1099511627776) (q1 : (c / 16777216 / 8 != n / 64 % 32) = true) (h64 : n < 64) :
    Calls Tryd.prog 11 #[kv k0 k1, ev e, ev f, .int .u32 i, .int .u32 c, .int .i64 n] w fun x w' => x = .returned (.tuple #[.int .i64 0, .int .i64 13]) ∧ Below w.heap.size w w' := by
  have N0 := Lib.hid (C3.new k0 k1 e f w)
  have L0 := Lib.hid (box3_below k0 k1 e f w)
  have HU := Lib.hid Tryd.underlying25
  have HUc := Lib.hid Tryd.underlying29
  have HI : Hid (∀ W, Calls Tryd.prog 17 #[.int .i64 n, .int .i64 0, .int .i64 1099511627776] W fun e w' => e = .returned (.bool false) ∧ w' = W) := fun W => by
    have := outside_any n 0 1099511627776 W
    rwa [decide_eq_false (by omega)] at this
  have t0 := ht.1
  have t1 := ht.2
  clear he hf ht N0
  unfold box3 at *
  unfold ev kv
  go_enter Tryd.func11, Tryd.ntmps11
  go_upto_region 1 with fail
  generalize ((w.alloc (.cells #[.int .u64 k0, .int .u64 k1] 29)).alloc (.cells #[.int .u32 (e.a : Int), .int .i64 e.p] 25)).alloc (.cells #[.int .u32 (f.a : Int), .int .i64 f.p] 25) = W0 at *
  go_wp2_with fail
  refine (HI.out _).mono ?_; rintro x w2 ⟨rfl, rfl⟩
  skip
  go_wp2_with fail
  go_ret2
  exact ⟨rfl, L0.out⟩
set_option maxHeartbeats 2000000 in
theorem dc_lateD (k0 k1 : Int) (e f : En) (i c n : Int) (he : EFits e) (hf : EFits f) (i0 : 0 ≤ i) (i1 : i < 4294967296) (c0 : 0 ≤ c) (c1 : c < 4294967296) (w : World) (ht : 0 ≤ n ∧ n ≤ 1099511627776) (q1 : (c / 16777216 / 8 != n / 64 % 32) = true) (h64 : ¬ n < 64) (q3 : (c / 16777216 / 8 != (n - 64) / 64 % 32) = true) :
    Calls Tryd.prog 11 #[kv k0 k1, ev e, ev f, .int .u32 i, .int .u32 c, .int .i64 n] w fun x w' => x = .returned (.tuple #[.int .i64 0, .int .i64 13]) ∧ Below w.heap.size w w' := by
  have N0 := Lib.hid (C3.new k0 k1 e f w)
  have L0 := Lib.hid (box3_below k0 k1 e f w)
  have HU := Lib.hid Tryd.underlying25
  have HUc := Lib.hid Tryd.underlying29
  have HI : Hid (∀ W, Calls Tryd.prog 17 #[.int .i64 n, .int .i64 0, .int .i64 1099511627776] W fun e w' => e = .returned (.bool false) ∧ w' = W) := fun W => by
    have := outside_any n 0 1099511627776 W
    rwa [decide_eq_false (by omega)] at this
  have t0 := ht.1
  have t1 := ht.2
  clear he hf ht N0
  unfold box3 at *
  unfold ev kv
  go_enter Tryd.func11, Tryd.ntmps11
  go_upto_region 1 with fail
  generalize ((w.alloc (.cells #[.int .u64 k0, .int .u64 k1] 29)).alloc (.cells #[.int .u32 (e.a : Int), .int .i64 e.p] 25)).alloc (.cells #[.int .u32 (f.a : Int), .int .i64 f.p] 25) = W0 at *
  go_wp2_with fail
  refine (HI.out _).mono ?_; rintro x w2 ⟨rfl, rfl⟩
  skip
  go_wp2_with fail
  go_ret2
  exact ⟨rfl, L0.out⟩
set_option maxHeartbeats 2000000 in
theorem dc_sumS (k0 k1 : Int) (e f : En) (i c n : Int) (he : EFits e) (hf : EFits f) (i0 : 0 ≤ i) (i1 : i < 4294967296) (c0 : 0 ≤ c) (c1 : c < 4294967296) (w : World) (ht : 0 ≤ n ∧ n ≤ 1099511627776) (q1 : (c / 16777216 / 8 != n / 64 % 32) = false) (hd : ck k0 k1 e f i (c / 16777216) ≠ c) :
    Calls Tryd.prog 11 #[kv k0 k1, ev e, ev f, .int .u32 i, .int .u32 c, .int .i64 n] w fun x w' => x = .returned (.tuple #[.int .i64 0, .int .i64 5]) ∧ Below w.heap.size w w' := by
  have N0 := Lib.hid (C3.new k0 k1 e f w)
  have L0 := Lib.hid (box3_below k0 k1 e f w)
  have HU := Lib.hid Tryd.underlying25
  have HUc := Lib.hid Tryd.underlying29
  have HI : Hid (∀ W, Calls Tryd.prog 17 #[.int .i64 n, .int .i64 0, .int .i64 1099511627776] W fun e w' => e = .returned (.bool false) ∧ w' = W) := fun W => by
    have := outside_any n 0 1099511627776 W
    rwa [decide_eq_false (by omega)] at this
  have HK : Hid (∀ W, Calls Tryd.prog 18 #[kv k0 k1, ev e, ev f, .int .u32 i, .int .i64 (c / 16777216)] W fun x w' => x = .returned (.int .u32 (ck k0 k1 e f i (c / 16777216))) ∧ Below W.heap.size W w') := fun W =>
    made_any k0 k1 e f i (c / 16777216) he hf i0 i1 (by omega) (by omega) W
  have t0 := ht.1
  have t1 := ht.2
  have hd' : (ck k0 k1 e f i (c / 16777216) != c) = true := by simpa using hd
  generalize ck k0 k1 e f i (c / 16777216) = C at *
  clear he hf ht hd
  unfold box3 at *
  unfold ev kv
  go_enter Tryd.func11, Tryd.ntmps11
  go_upto_region 1 with fail
  generalize ((w.alloc (.cells #[.int .u64 k0, .int .u64 k1] 29)).alloc (.cells #[.int .u32 (e.a : Int), .int .i64 e.p] 25)).alloc (.cells #[.int .u32 (f.a : Int), .int .i64 f.p] 25) = W0 at *
  go_wp2_with fail
  refine (HI.out _).mono ?_; rintro x w2 ⟨rfl, rfl⟩
  go_wp2_with (first | (refine wpList_load_mid rfl 29 _ rfl _ _ rfl [.int .u64 k0, .int .u64 k1] _ (CB.range N0.out.k) HUc.out rfl infoCookies ?_) | (refine wpList_load_mid rfl 25 _ rfl _ _ rfl (ecl e) _ (EB.range N0.out.a) HU.out rfl infoEnd ?_) | (refine wpList_load_mid rfl 25 _ rfl _ _ rfl (ecl f) _ (EB.range N0.out.b) HU.out rfl infoEnd ?_))
  refine (HK.out _).mono ?_; rintro x w3 ⟨rfl, hb⟩
  have L1 := Lib.hid (L0.out.trans (hb.mono L0.out.size))
  clear hb N0 L0
  go_wp2_with fail
  go_ret2
  exact ⟨rfl, L1.out⟩
set_option maxHeartbeats 2000000 in
theorem dc_sumT (k0 k1 : Int) (e f : En) (i c n : Int) (he : EFits e) (hf : EFits f) (i0 : 0 ≤ i) (i1 : i < 4294967296) (c0 : 0 ≤ c) (c1 : c < 4294967296) (w : World) (ht : 0 ≤ n ∧ n ≤ 1099511627776) (q1 : (c / 16777216 / 8 != n / 64 % 32) = true) (h64 : ¬ n < 64) (q3 : (c / 16777216 / 8 != (n - 64) / 64 % 32) = false) (hd : ck k0 k1 e f i (c / 16777216) ≠ c) :
    Calls Tryd.prog 11 #[kv k0 k1, ev e, ev f, .int .u32 i, .int .u32 c, .int .i64 n] w fun x w' => x = .returned (.tuple #[.int .i64 0, .int .i64 5]) ∧ Below w.heap.size w w' := by
  have N0 := Lib.hid (C3.new k0 k1 e f w)
  have L0 := Lib.hid (box3_below k0 k1 e f w)
  have HU := Lib.hid Tryd.underlying25
  have HUc := Lib.hid Tryd.underlying29
  have HI : Hid (∀ W, Calls Tryd.prog 17 #[.int .i64 n, .int .i64 0, .int .i64 1099511627776] W fun e w' => e = .returned (.bool false) ∧ w' = W) := fun W => by
    have := outside_any n 0 1099511627776 W
    rwa [decide_eq_false (by omega)] at this
  have HK : Hid (∀ W, Calls Tryd.prog 18 #[kv k0 k1, ev e, ev f, .int .u32 i, .int .i64 (c / 16777216)] W fun x w' => x = .returned (.int .u32 (ck k0 k1 e f i (c / 16777216))) ∧ Below W.heap.size W w') := fun W =>
    made_any k0 k1 e f i (c / 16777216) he hf i0 i1 (by omega) (by omega) W
  have t0 := ht.1
  have t1 := ht.2
  have hd' : (ck k0 k1 e f i (c / 16777216) != c) = true := by simpa using hd
  generalize ck k0 k1 e f i (c / 16777216) = C at *
  clear he hf ht hd
  unfold box3 at *
  unfold ev kv
  go_enter Tryd.func11, Tryd.ntmps11
  go_upto_region 1 with fail
  generalize ((w.alloc (.cells #[.int .u64 k0, .int .u64 k1] 29)).alloc (.cells #[.int .u32 (e.a : Int), .int .i64 e.p] 25)).alloc (.cells #[.int .u32 (f.a : Int), .int .i64 f.p] 25) = W0 at *
  go_wp2_with fail
  refine (HI.out _).mono ?_; rintro x w2 ⟨rfl, rfl⟩
  go_wp2_with (first | (refine wpList_load_mid rfl 29 _ rfl _ _ rfl [.int .u64 k0, .int .u64 k1] _ (CB.range N0.out.k) HUc.out rfl infoCookies ?_) | (refine wpList_load_mid rfl 25 _ rfl _ _ rfl (ecl e) _ (EB.range N0.out.a) HU.out rfl infoEnd ?_) | (refine wpList_load_mid rfl 25 _ rfl _ _ rfl (ecl f) _ (EB.range N0.out.b) HU.out rfl infoEnd ?_))
  refine (HK.out _).mono ?_; rintro x w3 ⟨rfl, hb⟩
  have L1 := Lib.hid (L0.out.trans (hb.mono L0.out.size))
  clear hb N0 L0
  go_wp2_with fail
  go_ret2
  exact ⟨rfl, L1.out⟩
set_option maxHeartbeats 2000000 in
theorem dc_okS (k0 k1 : Int) (e f : En) (i c n : Int) (he : EFits e) (hf : EFits f) (i0 : 0 ≤ i) (i1 : i < 4294967296) (c0 : 0 ≤ c) (c1 : c < 4294967296) (w : World) (ht : 0 ≤ n ∧ n ≤ 1099511627776) (q1 : (c / 16777216 / 8 != n / 64 % 32) = false) (hd : ck k0 k1 e f i (c / 16777216) = c) :
    Calls Tryd.prog 11 #[kv k0 k1, ev e, ev f, .int .u32 i, .int .u32 c, .int .i64 n] w fun x w' => x = .returned (.tuple #[.int .i64 (sv (c / 16777216 % 8).toNat), .int .i64 0]) ∧ Below w.heap.size w w' := by
  have N0 := Lib.hid (C3.new k0 k1 e f w)
  have L0 := Lib.hid (box3_below k0 k1 e f w)
  have HU := Lib.hid Tryd.underlying25
  have HUc := Lib.hid Tryd.underlying29
  have HI : Hid (∀ W, Calls Tryd.prog 17 #[.int .i64 n, .int .i64 0, .int .i64 1099511627776] W fun e w' => e = .returned (.bool false) ∧ w' = W) := fun W => by
    have := outside_any n 0 1099511627776 W
    rwa [decide_eq_false (by omega)] at this
  have HK : Hid (∀ W, Calls Tryd.prog 18 #[kv k0 k1, ev e, ev f, .int .u32 i, .int .i64 (c / 16777216)] W fun x w' => x = .returned (.int .u32 (ck k0 k1 e f i (c / 16777216))) ∧ Below W.heap.size W w') := fun W =>
    made_any k0 k1 e f i (c / 16777216) he hf i0 i1 (by omega) (by omega) W
  have t0 := ht.1
  have t1 := ht.2
  rw [hd] at HK
  have HZ : Hid (∀ b W, SB8 b W → W.cell? ⟨b, (c / 16777216 % 8).toNat, none⟩ = some (.int .i64 (sv (c / 16777216 % 8).toNat))) := fun b W h => h _ (by omega)
  generalize sv (c / 16777216 % 8).toNat = V at *
  clear he hf ht hd
  unfold box3 at *
  unfold ev kv
  go_enter Tryd.func11, Tryd.ntmps11
  go_upto_region 1 with fail
  generalize ((w.alloc (.cells #[.int .u64 k0, .int .u64 k1] 29)).alloc (.cells #[.int .u32 (e.a : Int), .int .i64 e.p] 25)).alloc (.cells #[.int .u32 (f.a : Int), .int .i64 f.p] 25) = W0 at *
  go_wp2_with fail
  refine (HI.out _).mono ?_; rintro x w2 ⟨rfl, rfl⟩
  go_wp2_with (first | (refine wpList_load_mid rfl 29 _ rfl _ _ rfl [.int .u64 k0, .int .u64 k1] _ (CB.range N0.out.k) HUc.out rfl infoCookies ?_) | (refine wpList_load_mid rfl 25 _ rfl _ _ rfl (ecl e) _ (EB.range N0.out.a) HU.out rfl infoEnd ?_) | (refine wpList_load_mid rfl 25 _ rfl _ _ rfl (ecl f) _ (EB.range N0.out.b) HU.out rfl infoEnd ?_))
  refine (HK.out _).mono ?_; rintro x w3 ⟨rfl, hb⟩
  have L1 := Lib.hid (L0.out.trans (hb.mono L0.out.size))
  have hA : Below w.heap.size w (w3.alloc (.cells sarr 3)) := L1.out.alloc L1.out.size _
  have L2 := Lib.hid hA
  have z := HZ.out _ _ (SB8.new w3)
  clear hb N0 L0 L1 HZ hA
  unfold sarr at *
  go_wp2_with fail
  go_ret2
  exact ⟨rfl, L2.out⟩
set_option maxHeartbeats 2000000 in
theorem dc_okT (k0 k1 : Int) (e f : En) (i c n : Int) (he : EFits e) (hf : EFits f) (i0 : 0 ≤ i) (i1 : i < 4294967296) (c0 : 0 ≤ c) (c1 : c < 4294967296) (w : World) (ht : 0 ≤ n ∧ n ≤ 1099511627776) (q1 : (c / 16777216 / 8 != n / 64 % 32) = true) (h64 : ¬ n < 64) (q3 : (c / 16777216 / 8 != (n - 64) / 64 % 32) = false) (hd : ck k0 k1 e f i (c / 16777216) = c) :
    Calls Tryd.prog 11 #[kv k0 k1, ev e, ev f, .int .u32 i, .int .u32 c, .int .i64 n] w fun x w' => x = .returned (.tuple #[.int .i64 (sv (c / 16777216 % 8).toNat), .int .i64 0]) ∧ Below w.heap.size w w' := by
  have N0 := Lib.hid (C3.new k0 k1 e f w)
  have L0 := Lib.hid (box3_below k0 k1 e f w)
  have HU := Lib.hid Tryd.underlying25
  have HUc := Lib.hid Tryd.underlying29
  have HI : Hid (∀ W, Calls Tryd.prog 17 #[.int .i64 n, .int .i64 0, .int .i64 1099511627776] W fun e w' => e = .returned (.bool false) ∧ w' = W) := fun W => by
    have := outside_any n 0 1099511627776 W
    rwa [decide_eq_false (by omega)] at this
  have HK : Hid (∀ W, Calls Tryd.prog 18 #[kv k0 k1, ev e, ev f, .int .u32 i, .int .i64 (c / 16777216)] W fun x w' => x = .returned (.int .u32 (ck k0 k1 e f i (c / 16777216))) ∧ Below W.heap.size W w') := fun W =>
    made_any k0 k1 e f i (c / 16777216) he hf i0 i1 (by omega) (by omega) W
  have t0 := ht.1
  have t1 := ht.2
  rw [hd] at HK
  have HZ : Hid (∀ b W, SB8 b W → W.cell? ⟨b, (c / 16777216 % 8).toNat, none⟩ = some (.int .i64 (sv (c / 16777216 % 8).toNat))) := fun b W h => h _ (by omega)
  generalize sv (c / 16777216 % 8).toNat = V at *
  clear he hf ht hd
  unfold box3 at *
  unfold ev kv
  go_enter Tryd.func11, Tryd.ntmps11
  go_upto_region 1 with fail
  generalize ((w.alloc (.cells #[.int .u64 k0, .int .u64 k1] 29)).alloc (.cells #[.int .u32 (e.a : Int), .int .i64 e.p] 25)).alloc (.cells #[.int .u32 (f.a : Int), .int .i64 f.p] 25) = W0 at *
  go_wp2_with fail
  refine (HI.out _).mono ?_; rintro x w2 ⟨rfl, rfl⟩
  go_wp2_with (first | (refine wpList_load_mid rfl 29 _ rfl _ _ rfl [.int .u64 k0, .int .u64 k1] _ (CB.range N0.out.k) HUc.out rfl infoCookies ?_) | (refine wpList_load_mid rfl 25 _ rfl _ _ rfl (ecl e) _ (EB.range N0.out.a) HU.out rfl infoEnd ?_) | (refine wpList_load_mid rfl 25 _ rfl _ _ rfl (ecl f) _ (EB.range N0.out.b) HU.out rfl infoEnd ?_))
  refine (HK.out _).mono ?_; rintro x w3 ⟨rfl, hb⟩
  have L1 := Lib.hid (L0.out.trans (hb.mono L0.out.size))
  have hA : Below w.heap.size w (w3.alloc (.cells sarr 3)) := L1.out.alloc L1.out.size _
  have L2 := Lib.hid hA
  have z := HZ.out _ _ (SB8.new w3)
  clear hb N0 L0 L1 HZ hA
  unfold sarr at *
  go_wp2_with fail
  go_ret2
  exact ⟨rfl, L2.out⟩
/-- The document's Check. -/
theorem dcheck_any (k0 k1 : Int) (e f : En) (i c n : Int) (he : EFits e) (hf : EFits f) (i0 : 0 ≤ i) (i1 : i < 4294967296) (c0 : 0 ≤ c) (c1 : c < 4294967296) (w : World) :
    Calls Tryd.prog 11 #[kv k0 k1, ev e, ev f, .int .u32 i, .int .u32 c, .int .i64 n] w fun x w' => x = .returned (.tuple #[.int .i64 (chk k0 k1 e f i c n).1, .int .i64 (chk k0 k1 e f i c n).2]) ∧ Below w.heap.size w w' := by
  by_cases ht : 0 ≤ n ∧ n ≤ 1099511627776
  · by_cases hs : c / 16777216 / 8 = n / 64 % 32
    · have hc : cnt (c / 16777216 / 8) n = true := decide_eq_true (Or.inl hs)
      have q1 : (c / 16777216 / 8 != n / 64 % 32) = false := by simpa using hs
      by_cases hd : ck k0 k1 e f i (c / 16777216) = c
      · have HC : chk k0 k1 e f i c n = (sv (c / 16777216 % 8).toNat, 0) := by
          unfold chk
          rw [if_neg (not_not_intro ht), if_neg (by rw [hc]; decide), if_neg (not_not_intro hd.symm)]
        rw [HC]; exact dc_okS k0 k1 e f i c n he hf i0 i1 c0 c1 w ht q1 hd
      · have HC : chk k0 k1 e f i c n = (0, 5) := by
          unfold chk
          rw [if_neg (not_not_intro ht), if_neg (by rw [hc]; decide), if_pos (fun h => hd h.symm)]
        rw [HC]; exact dc_sumS k0 k1 e f i c n he hf i0 i1 c0 c1 w ht q1 hd
    · have q1 : (c / 16777216 / 8 != n / 64 % 32) = true := by simpa using hs
      by_cases h64 : n < 64
      · have hc : cnt (c / 16777216 / 8) n = false := decide_eq_false fun h => h.elim hs (fun h => by omega)
        have HC : chk k0 k1 e f i c n = (0, 13) := by
          unfold chk
          rw [if_neg (not_not_intro ht), if_pos hc]
        rw [HC]; exact dc_lateC k0 k1 e f i c n he hf i0 i1 c0 c1 w ht q1 h64
      · by_cases h3 : c / 16777216 / 8 = (n - 64) / 64 % 32
        · have hc : cnt (c / 16777216 / 8) n = true := decide_eq_true (Or.inr ⟨by omega, h3⟩)
          have q3 : (c / 16777216 / 8 != (n - 64) / 64 % 32) = false := by simpa using h3
          by_cases hd : ck k0 k1 e f i (c / 16777216) = c
          · have HC : chk k0 k1 e f i c n = (sv (c / 16777216 % 8).toNat, 0) := by
              unfold chk
              rw [if_neg (not_not_intro ht), if_neg (by rw [hc]; decide), if_neg (not_not_intro hd.symm)]
            rw [HC]; exact dc_okT k0 k1 e f i c n he hf i0 i1 c0 c1 w ht q1 h64 q3 hd
          · have HC : chk k0 k1 e f i c n = (0, 5) := by
              unfold chk
              rw [if_neg (not_not_intro ht), if_neg (by rw [hc]; decide), if_pos (fun h => hd h.symm)]
            rw [HC]; exact dc_sumT k0 k1 e f i c n he hf i0 i1 c0 c1 w ht q1 h64 q3 hd
        · have hc : cnt (c / 16777216 / 8) n = false := decide_eq_false fun h => h.elim hs (fun h => h3 h.2)
          have q3 : (c / 16777216 / 8 != (n - 64) / 64 % 32) = true := by simpa using h3
          have HC : chk k0 k1 e f i c n = (0, 13) := by
            unfold chk
            rw [if_neg (not_not_intro ht), if_pos hc]
          rw [HC]; exact dc_lateD k0 k1 e f i c n he hf i0 i1 c0 c1 w ht q1 h64 q3
  · have HC : chk k0 k1 e f i c n = (0, 1) := by
      unfold chk
      rw [if_pos ht]
    rw [HC]; exact dc_time k0 k1 e f i c n he hf i0 i1 c0 c1 w ht
end Go.Proofs.YtoococeaanndkaaDoor
