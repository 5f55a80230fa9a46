/-
  The document's Make and Check by contract.
-/
import Derived.Test.YtoococeaanndkaaDoorDm
namespace Go.Proofs.YtoococeaanndkaaDoor
open Go.RowKit
set_option linter.unusedVariables false
set_option linter.unusedSimpArgs false

/-- The document's STEPS in a block. -/
def SB8 (b : Nat) (w : World) : Prop := ∀ k : Nat, k < 8 → w.cell? ⟨b, k, none⟩ = some (.int .i64 (sv k))
def sarr : Array Value := #[.int .i64 8, .int .i64 64, .int .i64 216, .int .i64 400, .int .i64 536, .int .i64 700, .int .i64 850, .int .i64 1000]
theorem SB8.new (w : World) : SB8 w.heap.size (w.alloc (.cells sarr 3)) := fun k hk => by
  have h : (w.alloc (.cells sarr 3)).heap[w.heap.size]? = some (.cells sarr 3 (0, 0)) := heap_alloc_new _ _
  rw [Joins.cell_of_block h k]
  have h8 : k = 0 ∨ k = 1 ∨ k = 2 ∨ k = 3 ∨ k = 4 ∨ k = 5 ∨ k = 6 ∨ k = 7 := by omega
  rcases h8 with rfl | rfl | rfl | rfl | rfl | rfl | rfl | rfl <;> rfl
theorem dmake_bad (k0 k1 : Int) (e f : En) (i m n : Int) (w : World) (hb : ¬ mok m n) :
    Calls Tryd.prog 9 #[kv k0 k1, ev e, ev f, .int .u32 i, .int .i64 m, .int .i64 n] w fun x w' => x = .returned (.tuple #[.int .u32 0, .int .i64 1]) ∧ Below w.heap.size w w' := by
  have L0 := Lib.hid (box3_below k0 k1 e f w)
  unfold box3 at *
  by_cases ht : 0 ≤ n ∧ n ≤ 1099511627776
  · have hm : m < 8 := by unfold mok at hb; omega
    have HI : Hid (∀ W, Calls Tryd.prog 17 #[.int .i64 n, .int .i64 0, .int .i64 1099511627776] W fun e w' => e = .returned (.bool false) ∧ w' = W) := fun W => by
      have := outside_any n 0 1099511627776 W
      rwa [decide_eq_false (by omega)] at this
    clear hb ht
    unfold ev kv
    go_enter Tryd.func9, Tryd.ntmps9
    go_upto_region 1 with fail
    generalize ((w.alloc (.cells #[.int .u64 k0, .int .u64 k1] 29)).alloc (.cells #[.int .u32 (e.a : Int), .int .i64 e.p] 25)).alloc (.cells #[.int .u32 (f.a : Int), .int .i64 f.p] 25) = W0 at *
    go_wp2_with fail
    refine (HI.out _).mono ?_; rintro x w2 ⟨rfl, rfl⟩
    go_wp2_with fail
    go_ret2
    exact ⟨rfl, L0.out⟩
  · have HI : Hid (∀ W, Calls Tryd.prog 17 #[.int .i64 n, .int .i64 0, .int .i64 1099511627776] W fun e w' => e = .returned (.bool true) ∧ w' = W) := fun W => by
      have := outside_any n 0 1099511627776 W
      rwa [decide_eq_true (by omega)] at this
    clear hb ht
    unfold ev kv
    go_enter Tryd.func9, Tryd.ntmps9
    go_upto_region 1 with fail
    generalize ((w.alloc (.cells #[.int .u64 k0, .int .u64 k1] 29)).alloc (.cells #[.int .u32 (e.a : Int), .int .i64 e.p] 25)).alloc (.cells #[.int .u32 (f.a : Int), .int .i64 f.p] 25) = W0 at *
    go_wp2_with fail
    refine (HI.out _).mono ?_; rintro x w2 ⟨rfl, rfl⟩
    go_wp2_with fail
    go_ret2
    exact ⟨rfl, L0.out⟩
set_option maxHeartbeats 2000000 in
theorem dmake_ok (k0 k1 : Int) (e f : En) (i m n : Int) (he : EFits e) (hf : EFits f) (i0 : 0 ≤ i) (i1 : i < 4294967296) (w : World) (hb : mok m n) :
    Calls Tryd.prog 9 #[kv k0 k1, ev e, ev f, .int .u32 i, .int .i64 m, .int .i64 n] w fun x w' => x = .returned (.tuple #[.int .u32 (ck k0 k1 e f i (hd m n)), .int .i64 0]) ∧ Below w.heap.size w w' := by
  have N0 := Lib.hid (C3.new k0 k1 e f w)
  have L0 := Lib.hid (box3_below k0 k1 e f w)
  have HU := Lib.hid Tryd.underlying25
  have HUc := Lib.hid Tryd.underlying29
  have hm : ¬ m < 8 := by have := hb.2; omega
  have HI : Hid (∀ W, Calls Tryd.prog 17 #[.int .i64 n, .int .i64 0, .int .i64 1099511627776] W fun e w' => e = .returned (.bool false) ∧ w' = W) := fun W => by
    have := outside_any n 0 1099511627776 W
    have h1 := hb.1
    rwa [decide_eq_false (by omega)] at this
  have HK : Hid (∀ W, Calls Tryd.prog 18 #[kv k0 k1, ev e, ev f, .int .u32 i, .int .i64 (n / 64 % 32 * 8 + (st m : Int))] W fun x w' => x = .returned (.int .u32 (ck k0 k1 e f i (hd m n))) ∧ Below W.heap.size W w') := fun W =>
    made_any k0 k1 e f i (hd m n) he hf i0 i1 (hd_bounds m n).1 (hd_bounds m n).2 W
  have n0 := hb.1.1
  have n1 := hb.1.2
  have b1 := st_lt m
  generalize ck k0 k1 e f i (hd m n) = C at *
  clear he hf hb
  unfold box3 at *
  unfold ev kv
  go_enter Tryd.func9, Tryd.ntmps9
  go_upto_region 1 with fail
  generalize ((w.alloc (.cells #[.int .u64 k0, .int .u64 k1] 29)).alloc (.cells #[.int .u32 (e.a : Int), .int .i64 e.p] 25)).alloc (.cells #[.int .u32 (f.a : Int), .int .i64 f.p] 25) = W0 at *
  go_wp2_with fail
  refine (HI.out _).mono ?_; rintro x w2 ⟨rfl, rfl⟩
  go_wp2_with fail
  have Z1 : Hid (SB8 w2.heap.size (w2.alloc (.cells sarr 3))) := SB8.new w2
  have hA : Below w2.heap.size w2 (w2.alloc (.cells sarr 3)) := (Below.refl _ _).alloc (Nat.le_refl _) _
  have N1 := Lib.hid (N0.out.keep hA)
  have L1 := Lib.hid (L0.out.trans (hA.mono L0.out.size))
  clear hA N0 L0
  unfold sarr at *
  generalize w2.alloc (.cells #[.int .i64 8, .int .i64 64, .int .i64 216, .int .i64 400, .int .i64 536, .int .i64 700, .int .i64 850, .int .i64 1000] 3) = W1 at *
  generalize w2.heap.size = bs at *
  go_loopw [14, 15, 16, 25] (fun s _ _ j W => ∃ k : Nat, k ≤ 8 ∧ j = .int .i64 k ∧ s = .int .i64 (stk m k) ∧ W = W1) (fun _ _ _ j _ => 8 - (intOf j).toNat)
  case atStart => exact ⟨0, by omega, rfl, rfl, rfl⟩
  case round =>
    obtain ⟨k, hk, rfl, rfl, rfl⟩ := hrel
    by_cases hlt : k < 8
    · have z := Z1.out k hlt
      have e1 : stk m (k + 1) = if sv k ≤ m then k else stk m k := rfl
      by_cases hc : sv k ≤ m
      · rw [if_pos hc] at e1
        generalize sv k = V at *
        go_wp2_with fail
        go_roundw
        case rel => exact ⟨k + 1, by omega, by go_num, by rw [e1], trivial⟩
        case measure => simp [intOf]; omega
      · rw [if_neg hc] at e1
        generalize sv k = V at *
        go_wp2_with fail
        go_roundw
        case rel => exact ⟨k + 1, by omega, by go_num, by rw [e1], trivial⟩
        case measure => simp [intOf]; omega
    · obtain rfl : k = 8 := by omega
      have es : stk m 8 = st m := rfl
      rw [es]
      go_wp2_with (first | (refine wpList_load_mid rfl 29 _ rfl _ _ rfl [.int .u64 k0, .int .u64 k1] _ (CB.range N1.out.k) HUc.out rfl infoCookies ?_) | (refine wpList_load_mid rfl 25 _ rfl _ _ rfl (ecl e) _ (EB.range N1.out.a) HU.out rfl infoEnd ?_) | (refine wpList_load_mid rfl 25 _ rfl _ _ rfl (ecl f) _ (EB.range N1.out.b) HU.out rfl infoEnd ?_))
      refine (HK.out _).mono ?_; rintro x w3 ⟨rfl, hb⟩
      have L2 := Lib.hid (L1.out.trans (hb.mono L1.out.size))
      clear hb N1 L1
      go_wp2_with fail
      go_ret2
      exact ⟨rfl, L2.out⟩
end Go.Proofs.YtoococeaanndkaaDoor
