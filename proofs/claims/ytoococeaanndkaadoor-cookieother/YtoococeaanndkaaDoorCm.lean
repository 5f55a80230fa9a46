/-
  Make of package cookie by contract.
-/
import Derived.Test.YtoococeaanndkaaDoorCb
namespace Go.Proofs.YtoococeaanndkaaDoor
open Go.RowKit
set_option linter.unusedVariables false
set_option linter.unusedSimpArgs false

/-- May a cookie be made? -/
def mok (m n : Int) : Prop := (0 ≤ n ∧ n ≤ 1099511627776) ∧ 8 ≤ m
/-- The first 8 bits. -/
def hd (m n : Int) : Int := sl n * 8 + st m
theorem hd_bounds (m n : Int) : 0 ≤ hd m n ∧ hd m n < 256 := by
  have := sl_bounds n
  have := st_lt m
  unfold hd; omega
theorem join3 (m n : Int) : bits .or .u32 (IntKind.u32.wrap (sl n * 8)) (st m : Int) = hd m n := by
  have := sl_bounds n
  have := st_lt m
  rw [IntKind.wrap_u32, Int.emod_eq_of_lt (by omega) (by omega)]
  exact bits_join .u32 32 (by decide) wraps_u32' 3 _ _ (by omega) (by omega) (by omega) (by omega) (by omega) (by omega)
theorem Tab.c0 {w : World} (h : Tab w) : w.cell? ⟨0, 0, none⟩ = some (.int .i64 8) := h.cell 0 (by omega)
theorem e2_below' (e f : En) (w : World) : Below w.heap.size w ((w.alloc (.cells #[.int .u32 (e.a : Int), .int .i64 e.p] 25)).alloc (.cells #[.int .u32 (f.a : Int), .int .i64 f.p] 25)).drew := (e2_below e f w).trans (((Below.refl _ _).drew).mono (e2_below e f w).size)
set_option maxHeartbeats 1000000 in
theorem make_bad {p : Nat} {k0 k1 : Int} (e f : En) (i m n : Int) (w : World) (hk : KB p k0 k1 w) (hT : Tab w) (hb : ¬ mok m n) :
    Calls Tryd.prog 8 #[.pointer (some ⟨p, 0, none⟩), ev e, ev f, .int .u32 i, .int .i64 m, .int .i64 n] w fun x w' => x = .returned (.tuple #[.int .u32 0, .int .i64 1]) ∧ Below w.heap.size w w' := by
  have N0 := Lib.hid (K3.new hk e f)
  have L0 := Lib.hid (e2_below e f w)
  have T0 : Hid (Tab ((w.alloc (.cells #[.int .u32 (e.a : Int), .int .i64 e.p] 25)).alloc (.cells #[.int .u32 (f.a : Int), .int .i64 f.p] 25))) := hT.below (e2_below e f w)
  have HU := Lib.hid Tryd.underlying25
  by_cases ht : 0 ≤ n ∧ n ≤ 1099511627776
  · have hm : m < 8 := by unfold mok at hb; omega
    have HI : Hid (∀ W, Calls Tryd.prog 13 #[.int .i64 n] W fun e w' => e = .returned (.bool true) ∧ w' = W) := fun W => by
      have := istime_any n W
      rwa [decide_eq_true ht] at this
    clear hk hT hb ht
    unfold ev
    go_enter Tryd.func8, Tryd.ntmps8
    go_upto_region 1 with fail
    generalize ((w.alloc (.cells #[.int .u32 (e.a : Int), .int .i64 e.p] 25)).alloc (.cells #[.int .u32 (f.a : Int), .int .i64 f.p] 25)) = W0 at *
    have z := T0.out.c0
    go_wp2_with fail
    refine (HI.out _).mono ?_; rintro x w2 ⟨rfl, rfl⟩
    go_wp2_with fail
    go_ret2
    exact ⟨rfl, L0.out⟩
  · have HI : Hid (∀ W, Calls Tryd.prog 13 #[.int .i64 n] W fun e w' => e = .returned (.bool false) ∧ w' = W) := fun W => by
      have := istime_any n W
      rwa [decide_eq_false ht] at this
    clear hk hT hb ht
    unfold ev
    go_enter Tryd.func8, Tryd.ntmps8
    go_upto_region 1 with fail
    generalize ((w.alloc (.cells #[.int .u32 (e.a : Int), .int .i64 e.p] 25)).alloc (.cells #[.int .u32 (f.a : Int), .int .i64 f.p] 25)) = W0 at *
    go_wp2_with fail
    refine (HI.out _).mono ?_; rintro x w2 ⟨rfl, rfl⟩
    go_wp2_with fail
    go_ret2
    exact ⟨rfl, L0.out⟩
set_option maxHeartbeats 1000000 in
theorem make_ok {p : Nat} {k0 k1 : Int} (e f : En) (i m n : Int) (he : EFits e) (hf : EFits f) (i0 : 0 ≤ i) (i1 : i < 4294967296) (w : World) (hk : KB p k0 k1 w) (hT : Tab w) (hb : mok m n) :
    Calls Tryd.prog 8 #[.pointer (some ⟨p, 0, none⟩), ev e, ev f, .int .u32 i, .int .i64 m, .int .i64 n] w fun x w' => x = .returned (.tuple #[.int .u32 (ck k0 k1 e f i (hd m n)), .int .i64 0]) ∧ Below w.heap.size w w' := by
  have N0 := Lib.hid (K3.new hk e f)
  have L0 := Lib.hid (e2_below e f w)
  have T0 : Hid (Tab ((w.alloc (.cells #[.int .u32 (e.a : Int), .int .i64 e.p] 25)).alloc (.cells #[.int .u32 (f.a : Int), .int .i64 f.p] 25))) := hT.below (e2_below e f w)
  have HU := Lib.hid Tryd.underlying25
  have hm : ¬ m < 8 := by have := hb.2; omega
  have HI : Hid (∀ W, Calls Tryd.prog 13 #[.int .i64 n] W fun e w' => e = .returned (.bool true) ∧ w' = W) := fun W => by
    have := istime_any n W
    rwa [decide_eq_true hb.1] at this
  have HS : Hid (∀ W, Calls Tryd.prog 15 #[.int .i64 n] W fun e w' => e = .returned (.int .u32 (sl n)) ∧ w' = W) := fun W => slot_any n hb.1.1 (by have := hb.1.2; omega) W
  have HM : Hid (∀ W, Tab W → Calls Tryd.prog 16 #[.int .i64 m] W fun e w' => e = .returned (.int .u32 (st m)) ∧ w' = W) := fun W h => step_any m W h
  have HK : Hid (∀ W, KB p k0 k1 W → Calls Tryd.prog 14 #[.pointer (some ⟨p, 0, none⟩), ev e, ev f, .int .u32 i, .int .u32 (bits .or .u32 (IntKind.u32.wrap (sl n * 8)) (st m : Int))] W fun x w' => x = .returned (.int .u32 (ck k0 k1 e f i (hd m n))) ∧ Below W.heap.size W w') := fun W h => by
    rw [join3]
    exact cookie_any e f i (hd m n) he hf i0 i1 (hd_bounds m n).1 (hd_bounds m n).2 W h
  generalize sl n = S at *
  generalize st m = M at *
  generalize ck k0 k1 e f i (hd m n) = C at *
  clear hk hT hb he hf
  unfold ev
  go_enter Tryd.func8, Tryd.ntmps8
  go_upto_region 1 with fail
  generalize ((w.alloc (.cells #[.int .u32 (e.a : Int), .int .i64 e.p] 25)).alloc (.cells #[.int .u32 (f.a : Int), .int .i64 f.p] 25)) = W0 at *
  have z := T0.out.c0
  go_wp2_with fail
  refine (HI.out _).mono ?_; rintro x w2 ⟨rfl, rfl⟩
  go_upto_region 3 with fail
  try simp only [Act.put, List.setIfInBounds_toArray, List.set_cons_zero, List.set_cons_succ]
  have N1 : Hid (K3 p k0 k1 w.heap.size (w.heap.size + 1) e f w2.drew ∧ Tab w2.drew) := ⟨N0.out.keep ((Below.refl _ _).drew), T0.out.below ((Below.refl _ _).drew)⟩
  have L1 : Hid (Below w.heap.size w w2.drew) := L0.out.trans (((Below.refl _ _).drew).mono L0.out.size)
  clear N0 L0 T0 z
  refine wp_region_held_drew (S := (fun W => K3 p k0 k1 w.heap.size (w.heap.size + 1) e f W ∧ Tab W)) (by kernel_rfl) N1.out (fun hHeld => ?_)
  refine takeH (i := 0) (d := some 23) (v := ?_) rfl rfl (by kernel_rfl) (by kernel_rfl) (by kernel_rfl) (fun _ _ _ h => h) (Or.inl ⟨by rfl, ?_⟩) hHeld ?_
  rotate_left
  · intro w' hSw; (try dsimp only at hSw); go_simp; try with_reducible rfl
  simp only [Act.put, List.setIfInBounds_toArray, List.set_cons_zero, List.set_cons_succ]
  refine takeH (i := 1) (d := some 24) rfl rfl (by kernel_rfl) (by kernel_rfl) (by kernel_rfl) (fun _ _ _ h => h) (yieldsIf_load_mid (by rfl) _ _ rfl _ _ rfl (ecl e) _ (fun w' hSw => EB.range hSw.1.a) HU.out rfl infoEnd) hHeld ?_
  simp only [Act.put, List.setIfInBounds_toArray, List.set_cons_zero, List.set_cons_succ]
  refine takeH (i := 2) (d := some 25) rfl rfl (by kernel_rfl) (by kernel_rfl) (by kernel_rfl) (fun _ _ _ h => h) (yieldsIf_load_mid (by rfl) _ _ rfl _ _ rfl (ecl f) _ (fun w' hSw => EB.range hSw.1.b) HU.out rfl infoEnd) hHeld ?_
  simp only [Act.put, List.setIfInBounds_toArray, List.set_cons_zero, List.set_cons_succ]
  refine takeH (i := 3) (d := some 26) (v := ?_) rfl rfl (by kernel_rfl) (by kernel_rfl) (by kernel_rfl) (fun _ _ _ h => h) (Or.inl ⟨by rfl, ?_⟩) hHeld ?_
  rotate_left
  · intro w' hSw; (try dsimp only at hSw); go_simp; try with_reducible rfl
  simp only [Act.put, List.setIfInBounds_toArray, List.set_cons_zero, List.set_cons_succ]
  refine takeH (i := 4) (d := some 27) (v := ?_) rfl rfl (by kernel_rfl) (by kernel_rfl) (by kernel_rfl) (fun _ _ _ h => h) (Or.inl ⟨by rfl, ?_⟩) hHeld ?_
  rotate_left
  · intro w' hSw; (try dsimp only at hSw); go_simp; try with_reducible rfl
  simp only [Act.put, List.setIfInBounds_toArray, List.set_cons_zero, List.set_cons_succ]
  refine takeH (i := 7) (d := some 30) (v := ?_) rfl rfl (by kernel_rfl) (by kernel_rfl) (by kernel_rfl) (fun _ _ _ h => h) (Or.inl ⟨by rfl, ?_⟩) hHeld ?_
  rotate_left
  · intro w' hSw; (try dsimp only at hSw); go_simp; try with_reducible rfl
  simp only [Act.put, List.setIfInBounds_toArray, List.set_cons_zero, List.set_cons_succ]
  refine wpAnyH_ready (rs := [5]) (by kernel_rfl) (by simp) ?_
  refine AllReadyH.cons rfl (fun K hK => ?_) (AllReadyH.nil)
  go_simp
  refine (HS.out _).mono ?_; rintro x w5 ⟨rfl, rfl⟩
  clear hHeld
  refine hK.out _ _ N1.out (fun hHeld => ?_)
  clear hK K
  try simp only [Act.put, List.setIfInBounds_toArray, List.set_cons_zero, List.set_cons_succ]
  refine takeH (i := 6) (d := some 29) (v := ?_) rfl rfl (by kernel_rfl) (by kernel_rfl) (by kernel_rfl) (fun _ _ _ h => h) (Or.inl ⟨by rfl, ?_⟩) hHeld ?_
  rotate_left
  · intro w' hSw; (try dsimp only at hSw); go_simp; try with_reducible rfl
  simp only [Act.put, List.setIfInBounds_toArray, List.set_cons_zero, List.set_cons_succ]
  refine wpAnyH_ready (rs := [8]) (by kernel_rfl) (by simp) ?_
  refine AllReadyH.cons rfl (fun K hK => ?_) (AllReadyH.nil)
  go_simp
  refine (HM.out _ N1.out.2).mono ?_; rintro x w8 ⟨rfl, rfl⟩
  clear hHeld
  refine hK.out _ _ N1.out (fun hHeld => ?_)
  clear hK K
  try simp only [Act.put, List.setIfInBounds_toArray, List.set_cons_zero, List.set_cons_succ]
  refine takeH (i := 9) (d := some 32) (v := ?_) rfl rfl (by kernel_rfl) (by kernel_rfl) (by kernel_rfl) (fun _ _ _ h => h) (Or.inl ⟨by rfl, ?_⟩) hHeld ?_
  rotate_left
  · intro w' hSw; (try dsimp only at hSw); go_simp; try with_reducible rfl
  simp only [Act.put, List.setIfInBounds_toArray, List.set_cons_zero, List.set_cons_succ]
  refine wpAnyH_ready (rs := [10]) (by kernel_rfl) (by simp) ?_
  refine AllReadyH.cons rfl (fun K hK => ?_) (AllReadyH.nil)
  go_simp
  refine (HK.out _ N1.out.1.k).mono ?_; rintro x w10 ⟨rfl, hb10⟩
  have N10 := Lib.hid (And.intro (N1.out.1.keep hb10) (N1.out.2.below hb10))
  have L10 := Lib.hid (L1.out.trans (hb10.mono L1.out.size))
  clear hb10
  clear hHeld
  refine hK.out _ _ N10.out (fun hHeld => ?_)
  clear hK K
  try simp only [Act.put, List.setIfInBounds_toArray, List.set_cons_zero, List.set_cons_succ]
  refine takeH (i := 11) (d := some 12) (v := ?_) rfl rfl (by kernel_rfl) (by kernel_rfl) (by kernel_rfl) (fun _ _ _ h => h) (Or.inl ⟨by rfl, ?_⟩) hHeld ?_
  rotate_left
  · intro w' hSw; (try dsimp only at hSw); go_simp; try with_reducible rfl
  simp only [Act.put, List.setIfInBounds_toArray, List.set_cons_zero, List.set_cons_succ]
  refine takeH (i := 12) (d := some 13) (v := ?_) rfl rfl (by kernel_rfl) (by kernel_rfl) (by kernel_rfl) (fun _ _ _ h => h) (Or.inl ⟨by rfl, ?_⟩) hHeld ?_
  rotate_left
  · intro w' hSw; (try dsimp only at hSw); go_simp; try with_reducible rfl
  simp only [Act.put, List.setIfInBounds_toArray, List.set_cons_zero, List.set_cons_succ]
  refine wpAnyH_done (by kernel_rfl) ?_ _
  go_wp2_with fail
  go_ret2
  exact ⟨rfl, L10.out⟩
end Go.Proofs.YtoococeaanndkaaDoor
