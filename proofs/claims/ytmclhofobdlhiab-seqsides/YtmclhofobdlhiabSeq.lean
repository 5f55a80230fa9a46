/-
  Contracts of the program's own functions of package seq, and of the document's.
-/
import Derived.Test.YtmclhofobdlhiabChecked
import Derived.WalkKit
import Derived.WalkLawsBesides
namespace Go.Proofs.Ytmclhofobdlhiab
open Go.RowKit
set_option linter.unusedVariables false

theorem ret_int {k : IntKind} {a b : Int} (h : a = b) : Ending.returned (.int k a) = .returned (.int k b) := by rw [h]
theorem ret_bool {a b : Bool} (h : a = b) : Ending.returned (.bool a) = .returned (.bool b) := by rw [h]

/-- How far a is behind b. -/
def dif (a b : Int) : Int := if (a - b) % 4294967296 < 2147483648 then (a - b) % 4294967296 else (a - b) % 4294967296 - 4294967296
theorem dif_lo (a b : Int) : -2147483648 ≤ dif a b := by unfold dif; split <;> omega
theorem dif_hi (a b : Int) : dif a b ≤ 2147483647 := by unfold dif; split <;> omega
/-- Is n one of the many numbers from f on? -/
def inn (n f m : Int) : Bool := decide ((n - f) % 4294967296 < m)
/-- May it come? -/
def acc (n l x m : Int) : Bool :=
  if l ≤ 0 then (if m ≤ 0 then n == x else inn n x m)
  else if m ≤ 0 then false else inn n x m || inn ((n + (l - 1)) % 4294967296) x m
/-- The place that is meant. -/
def clampAt (p : Int) : Int := if p < 0 then 0 else if 1152921504606846976 < p then 1152921504606846976 else p
def near (n p : Int) : Int := clampAt p + dif n (clampAt p)

theorem wrap32_eq (n : Int) (h0 : 0 ≤ n) (h1 : n ≤ 4294967295) : wrap32 n = if n < 2147483648 then n else n - 4294967296 := by
  unfold wrap32; split <;> omega
theorem wrap64_in (n : Int) (h0 : -9223372036854775808 ≤ n) (h1 : n ≤ 9223372036854775807) : wrap64 n = n := by
  unfold wrap64; omega

theorem diff_any (a b : Int) (w : World) :
    Calls Try.prog 9 #[.int .u32 a, .int .u32 b] w fun e w' => e = .returned (.int .i64 (dif a b)) ∧ w' = w := by
  have HE : Hid (wrap64 (wrap32 ((a - b) % 4294967296)) = dif a b) := by
    show _ = _
    have e : wrap32 ((a - b) % 4294967296) = dif a b := by
      rw [wrap32_eq _ (by omega) (by omega)]; rfl
    rw [e]; exact wrap64_in _ (by have := dif_lo a b; omega) (by have := dif_hi a b; omega)
  go_enter Try.func9, Try.ntmps9
  go_wp2
  go_ret
  exact ⟨ret_int HE.out, rfl⟩

theorem less_any (a b : Int) (w : World) :
    Calls Try.prog 7 #[.int .u32 a, .int .u32 b] w fun e w' => e = .returned (.bool (decide (dif a b < 0))) ∧ w' = w := by
  go_enter Try.func7, Try.ntmps7
  go_wp2_with (go_at_call 9; refine (diff_any _ _ _).mono ?_; rintro e w' ⟨rfl, rfl⟩)
  go_ret
  exact ⟨rfl, rfl⟩

theorem in_any (a b c : Int) (w : World) :
    Calls Try.prog 6 #[.int .u32 a, .int .u32 b, .int .i64 c] w fun e w' => e = .returned (.bool (inn a b c)) ∧ w' = w := by
  go_enter Try.func6, Try.ntmps6
  go_wp2
  go_ret
  exact ⟨rfl, rfl⟩

theorem acc_any (a b l c : Int) (w : World) (l1 : l ≤ 9223372036854775807) :
    Calls Try.prog 8 #[.int .u32 a, .int .i64 l, .int .u32 b, .int .i64 c] w fun e w' => e = .returned (.bool (acc a l b c)) ∧ w' = w := by
  have hl : l < 0 ∨ l = 0 ∨ 0 < l := by omega
  have hc : c < 0 ∨ c = 0 ∨ 0 < c := by omega
  rcases hl with hl | rfl | hl <;> rcases hc with hc | rfl | hc
  all_goals
    go_enter Try.func8, Try.ntmps8
    go_wp2_with (go_at_call 6; refine (in_any _ _ _ _).mono ?_; rintro e w' ⟨rfl, rfl⟩)
    all_goals
      go_ret
      refine ⟨ret_bool ?_, rfl⟩
      unfold acc
      repeat (first | rw [if_pos (by omega)] | rw [if_neg (by omega)])
      try simp_all

theorem dif_mod (n p : Int) : dif n (p % 4294967296) = dif n p := by
  unfold dif; rw [show (n - p % 4294967296) % 4294967296 = (n - p) % 4294967296 from by omega]

/-! The document's. -/
theorem emod_of_tmod (n m : Int) (h1 : 1 ≤ m) : n % m = if n.tmod m < 0 then n.tmod m + m else n.tmod m := by
  have e : n = n.tmod m + m * n.tdiv m := (Int.tmod_add_mul_tdiv n m).symm
  have l1 := Int.tmod_lt_of_pos n (show 0 < m by omega)
  have l2 := Int.lt_tmod_of_pos n (show 0 < m by omega)
  have e2 : n % m = (n.tmod m) % m := by
    conv => lhs; rw [e]
    rw [Int.add_mul_emod_self_left]
  rw [e2]
  split
  · rw [← Int.add_emod_right, Int.emod_eq_of_lt (by omega) (by omega)]
  · rw [Int.emod_eq_of_lt (by omega) (by omega)]

theorem rest_any (n m : Int) (w : World) (h1 : 1 ≤ m) (hm : m ≤ 9223372036854775807) (hn : -9223372036854775808 ≤ n) (hn2 : n ≤ 9223372036854775807) :
    Calls Try.prog 5 #[.int .i64 n, .int .i64 m] w fun e w' => e = .returned (.int .i64 (n % m)) ∧ w' = w := by
  have hz : (m == 0) = false := by simp; omega
  have HE : Hid (n % m = if n.tmod m < 0 then n.tmod m + m else n.tmod m) := emod_of_tmod n m h1
  have l2 := Int.lt_tmod_of_pos n (show 0 < m by omega)
  by_cases hneg : n.tmod m < 0
  · go_enter Try.func5, Try.ntmps5
    go_wp2
    go_ret
    exact ⟨ret_int (by rw [HE.out, if_pos hneg]), rfl⟩
  · go_enter Try.func5, Try.ntmps5
    go_wp2
    go_ret
    exact ⟨ret_int (by rw [HE.out, if_neg (by omega)]), rfl⟩

theorem inn_none (x y z : Int) (h : z ≤ 0) : inn x y z = false := by unfold inn; simp; omega

theorem dif_neg (a b : Int) (h : dif a b ≠ -2147483648) : dif b a = - dif a b := by
  revert h; unfold dif; intro h; split at h <;> split <;> (try split) <;> omega
theorem acc_self (a : Int) : acc a 0 a 0 = true := by unfold acc; simp
theorem inn_at (a K m : Int) (k0 : 0 ≤ K) (k1 : K ≤ 4294967295) : inn ((a + K) % 4294967296) a m = decide (K < m) := by
  unfold inn; rw [show ((a + K) % 4294967296 - a) % 4294967296 = K from by omega]
/-- Does one of the k numbers from A on lie within the first W? -/
def met (A W k : Int) : Bool := decide (0 < k ∧ A < W ∧ 0 < A + k ∧ 0 < W)
theorem met_zero (A W : Int) : met A W 0 = false := by unfold met; simp
theorem met_in (A W k : Int) (hk : 0 ≤ k) (h : 0 ≤ A + k) (h2 : A + k < W) : met A W (k + 1) = true := by unfold met; simp; omega
theorem met_out (A W k : Int) (hk : 0 ≤ k) (h : ¬ (0 ≤ A + k ∧ A + k < W)) : met A W (k + 1) = met A W k := by
  unfold met; congr 1; simp only [eq_iff_iff]; omega
theorem met_on (A W k : Int) (hk : 0 ≤ k) (h : met A W k = true) : met A W (k + 1) = true := by
  revert h; unfold met; simp; omega
theorem acc_met (x A L W : Int) (hA : -100 ≤ A) (hA2 : A ≤ 100) (hL : 1 ≤ L) (hL2 : L ≤ 100) (hW0 : 0 ≤ W) (hW : W ≤ 99) (h : ¬ (A < 0 ∧ W < A + L)) : acc ((x + A) % 4294967296) L x W = met A W L := by
  have e : ((x + A) % 4294967296 - x) % 4294967296 = A % 4294967296 := by omega
  have e2 : (((x + A) % 4294967296 + (L - 1)) % 4294967296 - x) % 4294967296 = (A + (L - 1)) % 4294967296 := by omega
  unfold acc inn met
  rw [e, e2, if_neg (by omega)]
  split
  · symm; simp; omega
  · rw [← Bool.decide_or, decide_eq_decide]; omega
end Go.Proofs.Ytmclhofobdlhiab
