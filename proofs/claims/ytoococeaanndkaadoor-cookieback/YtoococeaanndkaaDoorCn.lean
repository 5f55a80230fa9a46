/-
  Check of package cookie by contract.
-/
import Derived.Test.YtoococeaanndkaaDoorCm
namespace Go.Proofs.YtoococeaanndkaaDoor
open Go.RowKit
set_option linter.unusedVariables false
set_option linter.unusedSimpArgs false

/-- Does slot s count? -/
def cnt (s n : Int) : Bool := decide (s = sl n ∨ (64 ≤ n ∧ s = sl (n - 64)))
/-- What Check tells. -/
def chk (k0 k1 : Int) (e f : En) (i c n : Int) : Int × Int :=
  if ¬ (0 ≤ n ∧ n ≤ 1099511627776) then (0, 1) else if cnt (c / 16777216 / 8) n = false then (0, 13)
  else if c ≠ ck k0 k1 e f i (c / 16777216) then (0, 5) else (sv (c / 16777216 % 8).toNat, 0)
set_option maxHeartbeats 2000000 in
theorem check_any {p : Nat} {k0 k1 : Int} (e f : En) (i c n : Int) (he : EFits e) (hf : EFits f) (i0 : 0 ≤ i) (i1 : i < 4294967296) (c0 : 0 ≤ c) (c1 : c < 4294967296) (w : World) (hk : KB p k0 k1 w) (hT : Tab w) :
    Calls Tryd.prog 10 #[.pointer (some ⟨p, 0, none⟩), ev e, ev f, .int .u32 i, .int .u32 c, .int .i64 n] w fun x w' => x = .returned (.tuple #[.int .i64 (chk k0 k1 e f i c n).1, .int .i64 (chk k0 k1 e f i c n).2]) ∧ Below w.heap.size w w' := by
  have N0 := Lib.hid (K3.new hk e f)
  have L0 := Lib.hid (e2_below e f w)
  have T0 : Hid (Tab ((w.alloc (.cells #[.int .u32 (e.a : Int), .int .i64 e.p] 25)).alloc (.cells #[.int .u32 (f.a : Int), .int .i64 f.p] 25))) := hT.below (e2_below e f w)
  have HU := Lib.hid Tryd.underlying25
  by_cases ht : 0 ≤ n ∧ n ≤ 1099511627776
  · have HI : Hid (∀ W, Calls Tryd.prog 13 #[.int .i64 n] W fun e w' => e = .returned (.bool true) ∧ w' = W) := fun W => by
      have := istime_any n W
      rwa [decide_eq_true ht] at this
    cases hc : cnt (c / 16777216 / 8) n
    · have HN : Hid (∀ W, Calls Tryd.prog 19 #[.int .u32 (c / 16777216 / 8), .int .i64 n] W fun e w' => e = .returned (.bool false) ∧ w' = W) := fun W => by
        have := counts_any (c / 16777216 / 8) n ht.1 (by have := ht.2; omega) W
        rwa [show decide _ = cnt (c / 16777216 / 8) n from rfl, hc] at this
      have HC : Hid (chk k0 k1 e f i c n = (0, 13)) := by
        show _ = _
        unfold chk
        rw [if_neg (not_not_intro ht), if_pos hc]
      rw [HC.out]
      clear hk hT he hf ht hc HC N0 T0
      unfold ev
      go_enter Tryd.func10, Tryd.ntmps10
      go_upto_block 0 with fail
      generalize ((w.alloc (.cells #[.int .u32 (e.a : Int), .int .i64 e.p] 25)).alloc (.cells #[.int .u32 (f.a : Int), .int .i64 f.p] 25)) = W0 at *
      go_wp2_with fail
      refine (HI.out _).mono ?_; rintro x w2 ⟨rfl, rfl⟩
      go_wp2_with fail
      refine (HN.out _).mono ?_; rintro x w2 ⟨rfl, rfl⟩
      go_wp2_with fail
      go_ret2
      exact ⟨rfl, L0.out⟩
    · have HN : Hid (∀ W, Calls Tryd.prog 19 #[.int .u32 (c / 16777216 / 8), .int .i64 n] W fun e w' => e = .returned (.bool true) ∧ w' = W) := fun W => by
        have := counts_any (c / 16777216 / 8) n ht.1 (by have := ht.2; omega) W
        rwa [show decide _ = cnt (c / 16777216 / 8) n from rfl, hc] at this
      have HK : Hid (∀ W, KB p k0 k1 W → Calls Tryd.prog 14 #[.pointer (some ⟨p, 0, none⟩), ev e, ev f, .int .u32 i, .int .u32 (c / 16777216)] W fun x w' => x = .returned (.int .u32 (ck k0 k1 e f i (c / 16777216))) ∧ Below W.heap.size W w') := fun W h =>
        cookie_any e f i (c / 16777216) he hf i0 i1 (by omega) (by omega) W h
      by_cases hd : c = ck k0 k1 e f i (c / 16777216)
      · have HC : Hid (chk k0 k1 e f i c n = (sv (c / 16777216 % 8).toNat, 0)) := by
          show _ = _
          unfold chk
          rw [if_neg (not_not_intro ht), if_neg (by rw [hc]; decide), if_neg (not_not_intro hd)]
        have HZ : Hid (∀ W, Tab W → W.cell? ⟨0, (c / 16777216 % 8).toNat, none⟩ = some (.int .i64 (sv (c / 16777216 % 8).toNat))) := fun W h => h.cell _ (by omega)
        rw [← hd] at HK
        rw [HC.out]
        clear hk hT he hf ht hc HC hd
        generalize sv (c / 16777216 % 8).toNat = V at *
        unfold ev
        go_enter Tryd.func10, Tryd.ntmps10
        go_upto_block 0 with fail
        generalize ((w.alloc (.cells #[.int .u32 (e.a : Int), .int .i64 e.p] 25)).alloc (.cells #[.int .u32 (f.a : Int), .int .i64 f.p] 25)) = W0 at *
        go_wp2_with fail
        refine (HI.out _).mono ?_; rintro x w2 ⟨rfl, rfl⟩
        go_wp2_with fail
        refine (HN.out _).mono ?_; rintro x w2 ⟨rfl, rfl⟩
        go_wp2_with (first | (refine wpList_load_mid rfl 25 _ rfl _ _ rfl (ecl e) _ (EB.range N0.out.a) HU.out rfl infoEnd ?_) | (refine wpList_load_mid rfl 25 _ rfl _ _ rfl (ecl f) _ (EB.range N0.out.b) HU.out rfl infoEnd ?_))
        refine (HK.out _ N0.out.k).mono ?_; rintro x w3 ⟨rfl, hb⟩
        have L1 := Lib.hid (L0.out.trans (hb.mono L0.out.size))
        have z := HZ.out _ (T0.out.below hb)
        clear hb N0 L0 T0 HZ
        go_wp2_with fail
        go_ret2
        exact ⟨rfl, L1.out⟩
      · have HC : Hid (chk k0 k1 e f i c n = (0, 5)) := by
          show _ = _
          unfold chk
          rw [if_neg (not_not_intro ht), if_neg (by rw [hc]; decide), if_pos hd]
        rw [HC.out]
        have hd' : (c != ck k0 k1 e f i (c / 16777216)) = true := by simpa using hd
        generalize ck k0 k1 e f i (c / 16777216) = C at *
        clear hk hT he hf ht hc HC hd
        unfold ev
        go_enter Tryd.func10, Tryd.ntmps10
        go_upto_block 0 with fail
        generalize ((w.alloc (.cells #[.int .u32 (e.a : Int), .int .i64 e.p] 25)).alloc (.cells #[.int .u32 (f.a : Int), .int .i64 f.p] 25)) = W0 at *
        go_wp2_with fail
        refine (HI.out _).mono ?_; rintro x w2 ⟨rfl, rfl⟩
        go_wp2_with fail
        refine (HN.out _).mono ?_; rintro x w2 ⟨rfl, rfl⟩
        go_wp2_with (first | (refine wpList_load_mid rfl 25 _ rfl _ _ rfl (ecl e) _ (EB.range N0.out.a) HU.out rfl infoEnd ?_) | (refine wpList_load_mid rfl 25 _ rfl _ _ rfl (ecl f) _ (EB.range N0.out.b) HU.out rfl infoEnd ?_))
        refine (HK.out _ N0.out.k).mono ?_; rintro x w3 ⟨rfl, hb⟩
        have L1 := Lib.hid (L0.out.trans (hb.mono L0.out.size))
        clear hb N0 L0 T0
        go_wp2_with fail
        go_ret2
        exact ⟨rfl, L1.out⟩
  · have HI : Hid (∀ W, Calls Tryd.prog 13 #[.int .i64 n] W fun e w' => e = .returned (.bool false) ∧ w' = W) := fun W => by
      have := istime_any n W
      rwa [decide_eq_false ht] at this
    have HC : Hid (chk k0 k1 e f i c n = (0, 1)) := by
      show _ = _
      unfold chk
      rw [if_pos ht]
    rw [HC.out]
    clear hk hT he hf ht HC N0 T0
    unfold ev
    go_enter Tryd.func10, Tryd.ntmps10
    go_upto_block 0 with fail
    generalize ((w.alloc (.cells #[.int .u32 (e.a : Int), .int .i64 e.p] 25)).alloc (.cells #[.int .u32 (f.a : Int), .int .i64 f.p] 25)) = W0 at *
    go_wp2_with fail
    refine (HI.out _).mono ?_; rintro x w2 ⟨rfl, rfl⟩
    go_wp2_with fail
    go_ret2
    exact ⟨rfl, L0.out⟩
end Go.Proofs.YtoococeaanndkaaDoor
