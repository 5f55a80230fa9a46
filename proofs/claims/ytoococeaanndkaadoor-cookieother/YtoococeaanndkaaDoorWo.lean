/-
  The walk of CookieOther.
-/
import Derived.Test.YtoococeaanndkaaDoorWb
namespace Go.Proofs.YtoococeaanndkaaDoor
open Go.RowKit
set_option linter.unusedVariables false
set_option linter.unusedSimpArgs false

set_option maxRecDepth 100000 in
set_option maxHeartbeats 4000000 in
theorem other_walk (k0 k1 : Int) (e f : En) (i : Nat) (m n d : Int) (w : World) (b0 : 0 ≤ k0 ∧ k0 ≤ 18446744073709551615) (b1 : 0 ≤ k1 ∧ k1 ≤ 18446744073709551615) (he : EFits e) (hf : EFits f) (i1 : (i : Int) < 4294967296) (m0 : -9223372036854775808 ≤ m ∧ m ≤ 9223372036854775807) (n0 : -9223372036854775808 ≤ n ∧ n ≤ 9223372036854775807) (d0 : -9223372036854775808 ≤ d ∧ d ≤ 9223372036854775807) (hT : Tab w) :
    Calls Tryd.prog 6 #[.int .u64 k0, .int .u64 k1, ev e, ev f, .int .u32 i, .int .i64 m, .int .i64 n, .int .i64 d] w fun x w' => x = .returned (.bool true) ∧ Below w.heap.size w w' := by
  have hn : 0 ≤ n % 549755813888 ∧ n % 549755813888 < 549755813888 := by omega
  have hd0 : 0 ≤ d % 29 ∧ d % 29 < 29 := by omega
  have hm : 0 ≤ m % 2000 ∧ m % 2000 < 2000 := by omega
  have HN : Hid (∀ W, Calls Tryd.prog 7 #[.int .u64 k0, .int .u64 k1] W fun x w' => x = .returned (.pointer (some ⟨W.heap.size, 0, none⟩)) ∧ KB W.heap.size k0 k1 w' ∧ Below W.heap.size W w') := new_any k0 k1
  have HR1 : Hid (∀ W, Calls Tryd.prog 12 #[.int .i64 n, .int .i64 549755813888] W fun x w' => x = .returned (.int .i64 (n % 549755813888)) ∧ w' = W) := fun W => rest_any n 549755813888 W (by omega) (by omega) n0.1 n0.2
  have HR2 : Hid (∀ W, Calls Tryd.prog 12 #[.int .i64 d, .int .i64 29] W fun x w' => x = .returned (.int .i64 (d % 29)) ∧ w' = W) := fun W => rest_any d 29 W (by omega) (by omega) d0.1 d0.2
  have HR3 : Hid (∀ W, Calls Tryd.prog 12 #[.int .i64 m, .int .i64 2000] W fun x w' => x = .returned (.int .i64 (m % 2000)) ∧ w' = W) := fun W => rest_any m 2000 W (by omega) (by omega) m0.1 m0.2
  have HM : Hid (∀ W p, KB p k0 k1 W → Tab W → Calls Tryd.prog 8 #[.pointer (some ⟨p, 0, none⟩), ev e, ev f, .int .u32 i, .int .i64 (8 + m % 2000), .int .i64 (n % 549755813888)] W fun x w' => x = .returned (.tuple #[.int .u32 (ck k0 k1 e f i (hd (8 + m % 2000) (n % 549755813888))), .int .i64 0]) ∧ Below W.heap.size W w') := fun W p h t => make_ok e f i _ _ he hf (by omega) i1 W h t (by unfold mok; omega)
  have hcb := ck_bounds k0 k1 e f i (hd (8 + m % 2000) (n % 549755813888)) (hd_bounds _ _).1 (hd_bounds _ _).2
  have HC : ∀ l : Int, 0 ≤ l → l ≤ 1920 → ∀ W p, KB p k0 k1 W → Tab W → Calls Tryd.prog 10 #[.pointer (some ⟨p, 0, none⟩), ev e, ev f, .int .u32 i, .int .u32 (ck k0 k1 e f i (hd (8 + m % 2000) (n % 549755813888))), .int .i64 (n % 549755813888 + l)] W fun x w' => x = .returned (.tuple #[.int .i64 (bk (8 + m % 2000) (n % 549755813888) (n % 549755813888 + l)).1, .int .i64 (bk (8 + m % 2000) (n % 549755813888) (n % 549755813888 + l)).2]) ∧ Below W.heap.size W w' := fun l g0 g1 W p h t => by
    have := check_any e f i (ck k0 k1 e f i (hd (8 + m % 2000) (n % 549755813888))) (n % 549755813888 + l) he hf (by omega) i1 hcb.1 hcb.2 W h t
    rwa [chk_made _ _ _ _ _ _ _ _ (by omega) (by omega)] at this
  have bkn : ∀ l : Int, 0 ≤ l → l ≤ 64 → bk (8 + m % 2000) (n % 549755813888) (n % 549755813888 + l) = (sv (st (8 + m % 2000)), 0) := fun l g0 g1 => by
    unfold bk; rw [cnt_near _ l hn.1 g0 g1]; rfl
  have HC0 : Hid (∀ W p, KB p k0 k1 W → Tab W → Calls Tryd.prog 10 #[.pointer (some ⟨p, 0, none⟩), ev e, ev f, .int .u32 i, .int .u32 (ck k0 k1 e f i (hd (8 + m % 2000) (n % 549755813888))), .int .i64 (n % 549755813888)] W fun x w' => x = .returned (.tuple #[.int .i64 (sv (st (8 + m % 2000))), .int .i64 0]) ∧ Below W.heap.size W w') := fun W p h t => by
    have := HC 0 (by omega) (by omega) W p h t
    rwa [bkn 0 (by omega) (by omega), show n % 549755813888 + 0 = n % 549755813888 from by omega] at this
  have HC1 : Hid (∀ W p, KB p k0 k1 W → Tab W → Calls Tryd.prog 10 #[.pointer (some ⟨p, 0, none⟩), ev e, ev f, .int .u32 i, .int .u32 (ck k0 k1 e f i (hd (8 + m % 2000) (n % 549755813888))), .int .i64 (n % 549755813888 + 64)] W fun x w' => x = .returned (.tuple #[.int .i64 (sv (st (8 + m % 2000))), .int .i64 0]) ∧ Below W.heap.size W w') := fun W p h t => by
    have := HC 64 (by omega) (by omega) W p h t
    rwa [bkn 64 (by omega) (by omega)] at this
  have HC2 : Hid (∀ W p, KB p k0 k1 W → Tab W → Calls Tryd.prog 10 #[.pointer (some ⟨p, 0, none⟩), ev e, ev f, .int .u32 i, .int .u32 (ck k0 k1 e f i (hd (8 + m % 2000) (n % 549755813888))), .int .i64 (n % 549755813888 + 64 * (2 + d % 29))] W fun x w' => x = .returned (.tuple #[.int .i64 0, .int .i64 13]) ∧ Below W.heap.size W w') := fun W p h t => by
    have := HC (64 * (2 + d % 29)) (by omega) (by omega) W p h t
    have e : bk (8 + m % 2000) (n % 549755813888) (n % 549755813888 + 64 * (2 + d % 29)) = (0, 13) := by
      unfold bk; rw [cnt_far _ (64 * (2 + d % 29)) hn.1 (by omega) (by omega)]; rfl
    rwa [e] at this
  have N0 := Lib.hid (E2.new e f w)
  have L0 := Lib.hid (e2_below e f w)
  have HU := Lib.hid Tryd.underlying25
  have T0 : Hid (Tab ((w.alloc (.cells #[.int .u32 (e.a : Int), .int .i64 e.p] 25)).alloc (.cells #[.int .u32 (f.a : Int), .int .i64 f.p] 25))) := hT.below L0.out
  clear HC bkn he hf hT hcb i1
  generalize ck k0 k1 e f i (hd (8 + m % 2000) (n % 549755813888)) = C at *
  generalize sv (st (8 + m % 2000)) = S at *
  generalize n % 549755813888 = N at *
  generalize d % 29 = D at *
  generalize m % 2000 = M at *
  unfold ev
  go_enter Tryd.func6, Tryd.ntmps6
  go_upto_region 1 with fail
  generalize ((w.alloc (.cells #[.int .u32 (e.a : Int), .int .i64 e.p] 25)).alloc (.cells #[.int .u32 (f.a : Int), .int .i64 f.p] 25)) = W0 at *
  go_upto_region 2 with fail
  refine (HN.out _).mono ?_; rintro x w1 ⟨rfl, hk, hb⟩
  have E1 : Hid (Eu W0.heap.size w.heap.size (w.heap.size + 1) k0 k1 e f w1) := ⟨hk, N0.out.a.keep hb, N0.out.b.keep hb, T0.out.below hb⟩
  have L1 := Lib.hid (L0.out.trans (hb.mono L0.out.size))
  clear hk hb N0 L0 T0
  generalize W0.heap.size = p at *
  go_wp2_with fail
  refine (HR1.out _).mono ?_; rintro x w3 ⟨rfl, rfl⟩
  go_wp2_with fail
  refine (HR2.out _).mono ?_; rintro x w3 ⟨rfl, rfl⟩
  go_wp2_with fail
  refine (HR3.out _).mono ?_; rintro x w3 ⟨rfl, rfl⟩
  go_wp2_with (first | (refine wpList_load_mid rfl 25 _ rfl _ _ rfl (ecl e) _ (EB.range E1.out.a) HU.out rfl infoEnd ?_) | (refine wpList_load_mid rfl 25 _ rfl _ _ rfl (ecl f) _ (EB.range E1.out.b) HU.out rfl infoEnd ?_))
  refine (HM.out _ _ E1.out.k E1.out.t).mono ?_; rintro x w2 ⟨rfl, hb⟩
  have E2 := Lib.hid (E1.out.keep hb)
  have L2 := Lib.hid (L1.out.trans (hb.mono L1.out.size))
  clear hb E1 L1
  go_wp2_with (first | (refine wpList_load_mid rfl 25 _ rfl _ _ rfl (ecl e) _ (EB.range E2.out.a) HU.out rfl infoEnd ?_) | (refine wpList_load_mid rfl 25 _ rfl _ _ rfl (ecl f) _ (EB.range E2.out.b) HU.out rfl infoEnd ?_))
  refine (HC0.out _ _ E2.out.k E2.out.t).mono ?_; rintro x w3 ⟨rfl, hb⟩
  have E3 := Lib.hid (E2.out.keep hb)
  have L3 := Lib.hid (L2.out.trans (hb.mono L2.out.size))
  clear hb E2 L2
  go_wp2_with (first | (refine wpList_load_mid rfl 25 _ rfl _ _ rfl (ecl e) _ (EB.range E3.out.a) HU.out rfl infoEnd ?_) | (refine wpList_load_mid rfl 25 _ rfl _ _ rfl (ecl f) _ (EB.range E3.out.b) HU.out rfl infoEnd ?_))
  refine (HC2.out _ _ E3.out.k E3.out.t).mono ?_; rintro x w4 ⟨rfl, hb⟩
  have E4 := Lib.hid (E3.out.keep hb)
  have L4 := Lib.hid (L3.out.trans (hb.mono L3.out.size))
  clear hb E3 L3
  go_wp2_with (first | (refine wpList_load_mid rfl 25 _ rfl _ _ rfl (ecl e) _ (EB.range E4.out.a) HU.out rfl infoEnd ?_) | (refine wpList_load_mid rfl 25 _ rfl _ _ rfl (ecl f) _ (EB.range E4.out.b) HU.out rfl infoEnd ?_))
  refine (HC1.out _ _ E4.out.k E4.out.t).mono ?_; rintro x w5 ⟨rfl, hb⟩
  have L5 := Lib.hid (L4.out.trans (hb.mono L4.out.size))
  clear hb E4 L4
  go_wp2_with fail
  go_ret
  exact ⟨rfl, L5.out⟩
end Go.Proofs.YtoococeaanndkaaDoor
