/-
  The walk of CookieBack.
-/
import Derived.Test.YtoococeaanndkaaDoorCd
namespace Go.Proofs.YtoococeaanndkaaDoor
open Go.RowKit
set_option linter.unusedVariables false
set_option linter.unusedSimpArgs false

/-- What the walk holds. -/
structure Eu (p q r : Nat) (k0 k1 : Int) (e f : En) (W : World) : Prop where
  k : KB p k0 k1 W
  a : EB q e W
  b : EB r f W
  t : Tab W
theorem Eu.keep {p q r : Nat} {k0 k1 : Int} {e f : En} {W W' : World} (h : Eu p q r k0 k1 e f W) (hb : Below W.heap.size W W') : Eu p q r k0 k1 e f W' := ⟨h.k.keep hb, h.a.keep hb, h.b.keep hb, h.t.below hb⟩
set_option maxRecDepth 100000 in
set_option maxHeartbeats 4000000 in
theorem back_walk (k0 k1 : Int) (e f : En) (i : Nat) (m n l : Int) (w : World) (b0 : 0 ≤ k0 ∧ k0 ≤ 18446744073709551615) (b1 : 0 ≤ k1 ∧ k1 ≤ 18446744073709551615) (he : EFits e) (hf : EFits f) (i1 : (i : Int) < 4294967296) (m0 : -9223372036854775808 ≤ m ∧ m ≤ 9223372036854775807) (n0 : -9223372036854775808 ≤ n ∧ n ≤ 9223372036854775807) (l0 : -9223372036854775808 ≤ l ∧ l ≤ 9223372036854775807) (hT : Tab w) :
    Calls Tryd.prog 5 #[.int .u64 k0, .int .u64 k1, ev e, ev f, .int .u32 i, .int .i64 m, .int .i64 n, .int .i64 l] w fun x w' => x = .returned (.bool true) ∧ Below w.heap.size w w' := by
  have hn : 0 ≤ n % 549755813888 ∧ n % 549755813888 < 549755813888 := by omega
  have hl : 0 ≤ l % 1900 ∧ l % 1900 < 1900 := by omega
  have HN : Hid (∀ W, Calls Tryd.prog 7 #[.int .u64 k0, .int .u64 k1] W fun x w' => x = .returned (.pointer (some ⟨W.heap.size, 0, none⟩)) ∧ KB W.heap.size k0 k1 w' ∧ Below W.heap.size W w') := new_any k0 k1
  have HZ : Hid (∀ W p, KB p k0 k1 W → Tab W → Calls Tryd.prog 8 #[.pointer (some ⟨p, 0, none⟩), ev e, ev f, .int .u32 i, .int .i64 0, .int .i64 0] W fun x w' => x = .returned (.tuple #[.int .u32 0, .int .i64 1]) ∧ Below W.heap.size W w') := fun W p h t => make_bad e f i 0 0 W h t (by unfold mok; omega)
  have HR1 : Hid (∀ W, Calls Tryd.prog 12 #[.int .i64 n, .int .i64 549755813888] W fun x w' => x = .returned (.int .i64 (n % 549755813888)) ∧ w' = W) := fun W => rest_any n 549755813888 W (by omega) (by omega) n0.1 n0.2
  have HR2 : Hid (∀ W, Calls Tryd.prog 12 #[.int .i64 l, .int .i64 1900] W fun x w' => x = .returned (.int .i64 (l % 1900)) ∧ w' = W) := fun W => rest_any l 1900 W (by omega) (by omega) l0.1 l0.2
  have HM : Hid (∀ W p, KB p k0 k1 W → Tab W → Calls Tryd.prog 8 #[.pointer (some ⟨p, 0, none⟩), ev e, ev f, .int .u32 i, .int .i64 m, .int .i64 (n % 549755813888)] W fun x w' => x = .returned (.tuple #[.int .u32 (mk k0 k1 e f i m (n % 549755813888)).1, .int .i64 (mk k0 k1 e f i m (n % 549755813888)).2]) ∧ Below W.heap.size W w') := fun W p h t => make_any e f i m _ he hf (by omega) i1 W h t
  have hcb := ck_bounds k0 k1 e f i (hd m (n % 549755813888)) (hd_bounds _ _).1 (hd_bounds _ _).2
  have HC : Hid (∀ W p, KB p k0 k1 W → Tab W → Calls Tryd.prog 10 #[.pointer (some ⟨p, 0, none⟩), ev e, ev f, .int .u32 i, .int .u32 (ck k0 k1 e f i (hd m (n % 549755813888))), .int .i64 (n % 549755813888 + l % 1900)] W fun x w' => x = .returned (.tuple #[.int .i64 (bk m (n % 549755813888) (n % 549755813888 + l % 1900)).1, .int .i64 (bk m (n % 549755813888) (n % 549755813888 + l % 1900)).2]) ∧ Below W.heap.size W w') := fun W p h t => by
    have := check_any e f i (ck k0 k1 e f i (hd m (n % 549755813888))) (n % 549755813888 + l % 1900) he hf (by omega) i1 hcb.1 hcb.2 W h t
    rwa [chk_made _ _ _ _ _ _ _ _ (by omega) (by omega)] at this
  have N0 := Lib.hid (E2.new e f w)
  have L0 := Lib.hid (e2_below e f w)
  have HU := Lib.hid Tryd.underlying25
  have T0 : Hid (Tab ((w.alloc (.cells #[.int .u32 (e.a : Int), .int .i64 e.p] 25)).alloc (.cells #[.int .u32 (f.a : Int), .int .i64 f.p] 25))) := hT.below L0.out
  have near := cnt_near (n % 549755813888) (l % 1900) hn.1 hl.1
  have far := cnt_far (n % 549755813888) (l % 1900) hn.1
  generalize hN : n % 549755813888 = N at *
  generalize hL : l % 1900 = L at *
  have hmk : mk k0 k1 e f i m N = if 8 ≤ m then (ck k0 k1 e f i (hd m N), 0) else (0, 1) := by
    unfold mk
    by_cases h : 8 ≤ m
    · rw [if_pos h, if_pos ⟨by omega, h⟩]
    · rw [if_neg h, if_neg (fun x => h x.2)]
  have hsv := sv_bounds (st m)
  have hle := st_le m
  have hhalf := step_half m
  have hbk : bk m N (N + L) = if cnt (sl N) (N + L) = false then (0, 13) else (sv (st m), 0) := rfl
  generalize cnt (sl N) (N + L) = B at *
  generalize sv (st m) = S at *
  generalize ck k0 k1 e f i (hd m N) = C at *
  rw [hmk] at HM
  rw [hbk] at HC
  clear he hf hT hmk hbk i1
  unfold ev
  go_enter Tryd.func5, Tryd.ntmps5
  go_upto_region 1 with fail
  generalize ((w.alloc (.cells #[.int .u32 (e.a : Int), .int .i64 e.p] 25)).alloc (.cells #[.int .u32 (f.a : Int), .int .i64 f.p] 25)) = W0 at *
  go_upto_region 2 with fail
  refine (HN.out _).mono ?_; rintro x w1 ⟨rfl, hk, hb⟩
  have E1 : Hid (Eu W0.heap.size w.heap.size (w.heap.size + 1) k0 k1 e f w1) := ⟨hk, N0.out.a.keep hb, N0.out.b.keep hb, T0.out.below hb⟩
  have L1 := Lib.hid (L0.out.trans (hb.mono L0.out.size))
  clear hk hb N0 L0 T0
  generalize W0.heap.size = p at *
  go_wp2_with (first | (refine wpList_load_mid rfl 25 _ rfl _ _ rfl (ecl e) _ (EB.range E1.out.a) HU.out rfl infoEnd ?_) | (refine wpList_load_mid rfl 25 _ rfl _ _ rfl (ecl f) _ (EB.range E1.out.b) HU.out rfl infoEnd ?_))
  refine (HZ.out _ _ E1.out.k E1.out.t).mono ?_; rintro x w2 ⟨rfl, hb⟩
  have E2 := Lib.hid (E1.out.keep hb)
  have L2 := Lib.hid (L1.out.trans (hb.mono L1.out.size))
  clear hb E1 L1
  go_wp2_with fail
  refine (HR1.out _).mono ?_; rintro x w3 ⟨rfl, rfl⟩
  go_wp2_with fail
  refine (HR2.out _).mono ?_; rintro x w3 ⟨rfl, rfl⟩
  go_wp2_with (first | (refine wpList_load_mid rfl 25 _ rfl _ _ rfl (ecl e) _ (EB.range E2.out.a) HU.out rfl infoEnd ?_) | (refine wpList_load_mid rfl 25 _ rfl _ _ rfl (ecl f) _ (EB.range E2.out.b) HU.out rfl infoEnd ?_))
  by_cases hm : 8 ≤ m
  · simp only [if_pos hm] at HM
    refine (HM.out _ _ E2.out.k E2.out.t).mono ?_; rintro x w3 ⟨rfl, hb⟩
    have E3 := Lib.hid (E2.out.keep hb)
    have L3 := Lib.hid (L2.out.trans (hb.mono L2.out.size))
    clear hb E2 L2 HM HZ HR1 HR2
    replace hle := hle hm
    replace hhalf := hhalf hm
    cases B
    · have nfar : 64 < L := by
        rcases Int.lt_or_le 64 L with h | h
        · exact h
        · exact absurd (near h) (by decide)
      clear near far hN hL hle hhalf hsv
      simp only [if_true] at HC
      go_wp2_with (first | (refine wpList_load_mid rfl 25 _ rfl _ _ rfl (ecl e) _ (EB.range E3.out.a) HU.out rfl infoEnd ?_) | (refine wpList_load_mid rfl 25 _ rfl _ _ rfl (ecl f) _ (EB.range E3.out.b) HU.out rfl infoEnd ?_))
      refine (HC.out _ _ E3.out.k E3.out.t).mono ?_; rintro x w4 ⟨rfl, hb⟩
      have L4 := Lib.hid (L3.out.trans (hb.mono L3.out.size))
      clear hb E3 L3
      by_cases h128 : 128 ≤ L
      · go_wp2_with fail
        go_ret
        exact ⟨rfl, L4.out⟩
      · go_wp2_with fail
        go_ret
        exact ⟨rfl, L4.out⟩
    · have nfar : L < 128 := by
        rcases Int.lt_or_le L 128 with h | h
        · exact h
        · exact absurd (far h (by omega)) (by decide)
      clear near far hN hL
      simp only [Bool.true_eq_false, if_false] at HC
      go_wp2_with (first | (refine wpList_load_mid rfl 25 _ rfl _ _ rfl (ecl e) _ (EB.range E3.out.a) HU.out rfl infoEnd ?_) | (refine wpList_load_mid rfl 25 _ rfl _ _ rfl (ecl f) _ (EB.range E3.out.b) HU.out rfl infoEnd ?_))
      refine (HC.out _ _ E3.out.k E3.out.t).mono ?_; rintro x w4 ⟨rfl, hb⟩
      have L4 := Lib.hid (L3.out.trans (hb.mono L3.out.size))
      clear hb E3 L3
      have hS : Hid (m < 2 * S ∨ S = 64 ∨ S = 1000 ∨ S = 8) := hhalf
      clear hhalf
      by_cases h64 : L ≤ 64
      · have s8 := hsv.1
        have s1000 := hsv.2
        by_cases c1 : m < 2 * S
        · go_wp2_with fail
          go_ret
          exact ⟨rfl, L4.out⟩
        · by_cases c2 : S = 64
          · go_wp2_with fail
            go_ret
            exact ⟨rfl, L4.out⟩
          · by_cases c3 : S = 1000
            · go_wp2_with fail
              go_ret
              exact ⟨rfl, L4.out⟩
            · have c4 : S = 8 := by have := hS.out; omega
              go_wp2_with fail
              go_ret
              exact ⟨rfl, L4.out⟩
      · go_wp2_with fail
        go_ret
        exact ⟨rfl, L4.out⟩
  · simp only [if_neg hm] at HM
    refine (HM.out _ _ E2.out.k E2.out.t).mono ?_; rintro x w3 ⟨rfl, hb⟩
    have L3 := Lib.hid (L2.out.trans (hb.mono L2.out.size))
    clear hb E2 L2 HM HZ HR1 HR2
    go_wp2_with fail
    go_ret
    exact ⟨rfl, L3.out⟩
end Go.Proofs.YtoococeaanndkaaDoor
