/-
  Contracts of the program's own functions of package seq, and of the document's.
-/
import Derived.Test.YtmclhofobdlhiaaChecked
import Derived.WalkKit
import Derived.WalkLawsBesides
namespace Go.Proofs.Ytmclhofobdlhiaa
open Go.RowKit
set_option linter.unusedVariables false

theorem ret_int {k : IntKind} {a b : Int} (h : a = b) : Ending.returned (.int k a) = .returned (.int k b) := by rw [h]
theorem ret_bool {a b : Bool} (h : a = b) : Ending.returned (.bool a) = .returned (.bool b) := by rw [h]

/-- How far a is behind b. -/
def dif (a b : Int) : Int := if (a - b) % 4294967296 < 2147483648 then (a - b) % 4294967296 else (a - b) % 4294967296 - 4294967296
theorem dif_lo (a b : Int) : -2147483648 ≤ dif a b := by unfold dif; split <;> omega
theorem dif_hi (a b : Int) : dif a b ≤ 2147483647 := by unfold dif; split <;> omega
/-- Is n one of the many numbers from f on? -/
def inn (n f m : Int) : Bool := decide ((n - f) % 4294967296 < m)
/-- May it come? -/
def acc (n l x m : Int) : Bool :=
  if l ≤ 0 then (if m ≤ 0 then n == x else inn n x m)
  else if m ≤ 0 then false else inn n x m || inn ((n + (l - 1)) % 4294967296) x m
/-- The place that is meant. -/
def clampAt (p : Int) : Int := if p < 0 then 0 else if 1152921504606846976 < p then 1152921504606846976 else p
def near (n p : Int) : Int := clampAt p + dif n (clampAt p)

theorem wrap32_eq (n : Int) (h0 : 0 ≤ n) (h1 : n ≤ 4294967295) : wrap32 n = if n < 2147483648 then n else n - 4294967296 := by
  unfold wrap32; split <;> omega
theorem wrap64_in (n : Int) (h0 : -9223372036854775808 ≤ n) (h1 : n ≤ 9223372036854775807) : wrap64 n = n := by
  unfold wrap64; omega

theorem diff_any (a b : Int) (w : World) :
    Calls Try.prog 10 #[.int .u32 a, .int .u32 b] w fun e w' => e = .returned (.int .i64 (dif a b)) ∧ w' = w := by
  have HE : Hid (wrap64 (wrap32 ((a - b) % 4294967296)) = dif a b) := by
    show _ = _
    have e : wrap32 ((a - b) % 4294967296) = dif a b := by
      rw [wrap32_eq _ (by omega) (by omega)]; rfl
    rw [e]; exact wrap64_in _ (by have := dif_lo a b; omega) (by have := dif_hi a b; omega)
  go_enter Try.func10, Try.ntmps10
  go_wp2
  go_ret
  exact ⟨ret_int HE.out, rfl⟩

theorem less_any (a b : Int) (w : World) :
    Calls Try.prog 11 #[.int .u32 a, .int .u32 b] w fun e w' => e = .returned (.bool (decide (dif a b < 0))) ∧ w' = w := by
  go_enter Try.func11, Try.ntmps11
  go_wp2_with (go_at_call 10; refine (diff_any _ _ _).mono ?_; rintro e w' ⟨rfl, rfl⟩)
  go_ret
  exact ⟨rfl, rfl⟩

theorem in_any (a b c : Int) (w : World) :
    Calls Try.prog 12 #[.int .u32 a, .int .u32 b, .int .i64 c] w fun e w' => e = .returned (.bool (inn a b c)) ∧ w' = w := by
  go_enter Try.func12, Try.ntmps12
  go_wp2
  go_ret
  exact ⟨rfl, rfl⟩

theorem acc_any (a b l c : Int) (w : World) (l1 : l ≤ 9223372036854775807) :
    Calls Try.prog 14 #[.int .u32 a, .int .i64 l, .int .u32 b, .int .i64 c] w fun e w' => e = .returned (.bool (acc a l b c)) ∧ w' = w := by
  have hl : l < 0 ∨ l = 0 ∨ 0 < l := by omega
  have hc : c < 0 ∨ c = 0 ∨ 0 < c := by omega
  rcases hl with hl | rfl | hl <;> rcases hc with hc | rfl | hc
  all_goals
    go_enter Try.func14, Try.ntmps14
    go_wp2_with (go_at_call 12; refine (in_any _ _ _ _).mono ?_; rintro e w' ⟨rfl, rfl⟩)
    all_goals
      go_ret
      refine ⟨ret_bool ?_, rfl⟩
      unfold acc
      repeat (first | rw [if_pos (by omega)] | rw [if_neg (by omega)])
      try simp_all

theorem dif_mod (n p : Int) : dif n (p % 4294967296) = dif n p := by
  unfold dif; rw [show (n - p % 4294967296) % 4294967296 = (n - p) % 4294967296 from by omega]

theorem near_any (n p : Int) (w : World) (p1 : p ≤ 9223372036854775807) :
    Calls Try.prog 16 #[.int .u32 n, .int .i64 p] w fun e w' => e = .returned (.int .i64 (near n p)) ∧ w' = w := by
  have hp : p < 0 ∨ (0 ≤ p ∧ p ≤ 1152921504606846976) ∨ 1152921504606846976 < p := by omega
  rcases hp with hp | hp | hp
  · have hlo := dif_lo n 0
    have hhi := dif_hi n 0
    have HN : Hid (near n p = dif n 0) := by
      show _ = _
      unfold near; rw [show clampAt p = 0 from by unfold clampAt; rw [if_pos hp]]; omega
    go_enter Try.func16, Try.ntmps16
    go_wp2_with (go_at_call 10; refine (diff_any _ _ _).mono ?_; rintro e w' ⟨rfl, rfl⟩)
    go_ret
    exact ⟨ret_int HN.out.symm, rfl⟩
  · have hlo := dif_lo n p
    have hhi := dif_hi n p
    have HN : Hid (near n p = p + dif n p) := by
      show _ = _
      unfold near; rw [show clampAt p = p from by unfold clampAt; rw [if_neg (by omega), if_neg (by omega)]]
    go_enter Try.func16, Try.ntmps16
    go_wp2_with (go_at_call 10; refine (diff_any _ _ _).mono ?_; rintro e w' ⟨rfl, rfl⟩; rw [dif_mod])
    go_ret
    exact ⟨ret_int HN.out.symm, rfl⟩
  · have hlo := dif_lo n 0
    have hhi := dif_hi n 0
    have HN : Hid (near n p = 1152921504606846976 + dif n 0) := by
      show _ = _
      unfold near; rw [show clampAt p = 1152921504606846976 from by unfold clampAt; rw [if_neg (by omega), if_pos hp], ← dif_mod n 1152921504606846976]
      rfl
    go_enter Try.func16, Try.ntmps16
    go_wp2_with (go_at_call 10; refine (diff_any _ _ _).mono ?_; rintro e w' ⟨rfl, rfl⟩)
    go_ret
    exact ⟨ret_int HN.out.symm, rfl⟩

/-! The document's. -/
theorem emod_of_tmod (n m : Int) (h1 : 1 ≤ m) : n % m = if n.tmod m < 0 then n.tmod m + m else n.tmod m := by
  have e : n = n.tmod m + m * n.tdiv m := (Int.tmod_add_mul_tdiv n m).symm
  have l1 := Int.tmod_lt_of_pos n (show 0 < m by omega)
  have l2 := Int.lt_tmod_of_pos n (show 0 < m by omega)
  have e2 : n % m = (n.tmod m) % m := by
    conv => lhs; rw [e]
    rw [Int.add_mul_emod_self_left]
  rw [e2]
  split
  · rw [← Int.add_emod_right, Int.emod_eq_of_lt (by omega) (by omega)]
  · rw [Int.emod_eq_of_lt (by omega) (by omega)]

theorem rest_any (n m : Int) (w : World) (h1 : 1 ≤ m) (hm : m ≤ 9223372036854775807) (hn : -9223372036854775808 ≤ n) (hn2 : n ≤ 9223372036854775807) :
    Calls Try.prog 18 #[.int .i64 n, .int .i64 m] w fun e w' => e = .returned (.int .i64 (n % m)) ∧ w' = w := by
  have hz : (m == 0) = false := by simp; omega
  have HE : Hid (n % m = if n.tmod m < 0 then n.tmod m + m else n.tmod m) := emod_of_tmod n m h1
  have l2 := Int.lt_tmod_of_pos n (show 0 < m by omega)
  by_cases hneg : n.tmod m < 0
  · go_enter Try.func18, Try.ntmps18
    go_wp2
    go_ret
    exact ⟨ret_int (by rw [HE.out, if_pos hneg]), rfl⟩
  · go_enter Try.func18, Try.ntmps18
    go_wp2
    go_ret
    exact ⟨ret_int (by rw [HE.out, if_neg (by omega)]), rfl⟩

theorem rdiff_any (a b : Int) (w : World) (a0 : 0 ≤ a) (a1 : a ≤ 4294967295) (b0 : 0 ≤ b) (b1 : b ≤ 4294967295) :
    Calls Try.prog 9 #[.int .u32 a, .int .u32 b] w fun e w' => e = .returned (.int .i64 (dif a b)) ∧ w' = w := by
  have hb : 0 ≤ (a - b) % 4294967296 ∧ (a - b) % 4294967296 ≤ 4294967295 := by omega
  have HE : Hid (dif a b = if (a - b) % 4294967296 < 2147483648 then (a - b) % 4294967296 else (a - b) % 4294967296 - 4294967296) := rfl
  go_enter Try.func9, Try.ntmps9
  go_wp2_with fail
  refine (rest_any _ _ _ (by omega) (by omega) (by omega) (by omega)).mono ?_; rintro e w' ⟨rfl, rfl⟩
  generalize (a - b) % 4294967296 = r at *
  by_cases hr : r < 2147483648
  · go_wp2
    go_ret
    exact ⟨ret_int (by rw [HE.out, if_pos hr]), rfl⟩
  · go_wp2
    go_ret
    exact ⟨ret_int (by rw [HE.out, if_neg (by omega)]), rfl⟩

theorem rin_any (a b c : Int) (w : World) (a0 : 0 ≤ a) (a1 : a ≤ 4294967295) (b0 : 0 ≤ b) (b1 : b ≤ 4294967295) :
    Calls Try.prog 13 #[.int .u32 a, .int .u32 b, .int .i64 c] w fun e w' => e = .returned (.bool (inn a b c)) ∧ w' = w := by
  go_enter Try.func13, Try.ntmps13
  go_wp2_with fail
  refine (rest_any _ _ _ (by omega) (by omega) (by omega) (by omega)).mono ?_; rintro e w' ⟨rfl, rfl⟩
  go_wp2
  go_ret
  exact ⟨rfl, rfl⟩

theorem inn_none (x y z : Int) (h : z ≤ 0) : inn x y z = false := by unfold inn; simp; omega
theorem racc_any (a b l c : Int) (w : World) (a0 : 0 ≤ a) (a1 : a ≤ 4294967295) (b0 : 0 ≤ b) (b1 : b ≤ 4294967295) (l1 : l ≤ 9223372036854775807) :
    Calls Try.prog 15 #[.int .u32 a, .int .i64 l, .int .u32 b, .int .i64 c] w fun e w' => e = .returned (.bool (acc a l b c)) ∧ w' = w := by
  have hl : l < 0 ∨ l = 0 ∨ 0 < l := by omega
  have hc : c < 0 ∨ c = 0 ∨ 0 < c := by omega
  have hz := inn_none a b 0 (by omega)
  have HL : Hid ((a + l % 4294967296 - 1) % 4294967296 = (a + (l - 1)) % 4294967296) := by show _ = _; omega
  have hz2 := inn_none ((a + (l - 1)) % 4294967296) b 0 (by omega)
  rcases hl with hl | rfl | hl <;> rcases hc with hc | rfl | hc
  all_goals
    by_cases hab : a = b
    all_goals
      try subst hab
      go_enter Try.func15, Try.ntmps15
      go_wp2_with (first | (go_at_call 13; refine (rin_any _ _ _ _ (by omega) (by omega) (by omega) (by omega)).mono ?_; rintro e w' ⟨rfl, rfl⟩) | (go_at_call 18; refine (rest_any _ _ _ (by omega) (by omega) (by omega) (by omega)).mono ?_; rintro e w' ⟨rfl, rfl⟩; rw [HL.out]))
      all_goals
        go_ret
        refine ⟨ret_bool ?_, rfl⟩
        unfold acc
        repeat (first | rw [if_pos (by omega)] | rw [if_neg (by omega)])
        try simp_all
end Go.Proofs.Ytmclhofobdlhiaa
