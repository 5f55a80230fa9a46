/-
  Package seq: contracts (texts of an earlier round, put over).
-/
import Derived.Test.YtnhcjefbiihfjaaBa
namespace Go.Proofs.Ytnhcjefbiihfjaa.Sq
open Go.RowKit
set_option linter.unusedVariables false
set_option linter.unusedSimpArgs false

/-! Seq -/

/-- How far a is behind b. -/
def dif (a b : Int) : Int := if (a - b) % 4294967296 < 2147483648 then (a - b) % 4294967296 else (a - b) % 4294967296 - 4294967296
theorem dif_lo (a b : Int) : -2147483648 ≤ dif a b := by unfold dif; split <;> omega
theorem dif_hi (a b : Int) : dif a b ≤ 2147483647 := by unfold dif; split <;> omega
/-- Is n one of the many numbers from f on? -/
def inn (n f m : Int) : Bool := decide ((n - f) % 4294967296 < m)
/-- May it come? -/
def acc (n l x m : Int) : Bool :=
  if l ≤ 0 then (if m ≤ 0 then n == x else inn n x m)
  else if m ≤ 0 then false else inn n x m || inn ((n + (l - 1)) % 4294967296) x m
/-- The place that is meant. -/
def clampAt (p : Int) : Int := if p < 0 then 0 else if 1152921504606846976 < p then 1152921504606846976 else p
def near (n p : Int) : Int := clampAt p + dif n (clampAt p)

theorem wrap32_eq (n : Int) (h0 : 0 ≤ n) (h1 : n ≤ 4294967295) : wrap32 n = if n < 2147483648 then n else n - 4294967296 := by
  unfold wrap32; split <;> omega
theorem wrap64_in (n : Int) (h0 : -9223372036854775808 ≤ n) (h1 : n ≤ 9223372036854775807) : wrap64 n = n := by
  unfold wrap64; omega

theorem diff_any (a b : Int) (w : World) :
    Calls Try.prog 64 #[.int .u32 a, .int .u32 b] w fun e w' => e = .returned (.int .i64 (dif a b)) ∧ w' = w := by
  have HE : Hid (wrap64 (wrap32 ((a - b) % 4294967296)) = dif a b) := by
    show _ = _
    have e : wrap32 ((a - b) % 4294967296) = dif a b := by
      rw [wrap32_eq _ (by omega) (by omega)]; rfl
    rw [e]; exact wrap64_in _ (by have := dif_lo a b; omega) (by have := dif_hi a b; omega)
  go_enter Try.func64, Try.ntmps64
  go_wp2
  go_ret
  exact ⟨ret_int HE.out, rfl⟩

theorem less_any (a b : Int) (w : World) :
    Calls Try.prog 36 #[.int .u32 a, .int .u32 b] w fun e w' => e = .returned (.bool (decide (dif a b < 0))) ∧ w' = w := by
  go_enter Try.func36, Try.ntmps36
  go_wp2_with (go_at_call 64; refine (diff_any _ _ _).mono ?_; rintro e w' ⟨rfl, rfl⟩)
  go_ret
  exact ⟨rfl, rfl⟩

theorem in_any (a b c : Int) (w : World) :
    Calls Try.prog 77 #[.int .u32 a, .int .u32 b, .int .i64 c] w fun e w' => e = .returned (.bool (inn a b c)) ∧ w' = w := by
  go_enter Try.func77, Try.ntmps77
  go_wp2
  go_ret
  exact ⟨rfl, rfl⟩

theorem acc_any (a b l c : Int) (w : World) (l1 : l ≤ 9223372036854775807) :
    Calls Try.prog 58 #[.int .u32 a, .int .i64 l, .int .u32 b, .int .i64 c] w fun e w' => e = .returned (.bool (acc a l b c)) ∧ w' = w := by
  have hl : l < 0 ∨ l = 0 ∨ 0 < l := by omega
  have hc : c < 0 ∨ c = 0 ∨ 0 < c := by omega
  rcases hl with hl | rfl | hl <;> rcases hc with hc | rfl | hc
  all_goals
    first | (have e1 : max l 0 = 0 := by omega) | (have e1 : max l 0 = l := by omega) | skip
    first | (have e2 : max c 0 = 0 := by omega) | (have e2 : max c 0 = c := by omega) | skip
    go_enter Try.func58, Try.ntmps58
    go_wp2_with (go_at_call 77; refine (in_any _ _ _ _).mono ?_; rintro e w' ⟨rfl, rfl⟩)
    all_goals
      go_ret
      refine ⟨ret_bool ?_, rfl⟩
      unfold acc
      repeat (first | rw [if_pos (by omega)] | rw [if_neg (by omega)])
      try simp_all

theorem dif_mod (n p : Int) : dif n (p % 4294967296) = dif n p := by
  unfold dif; rw [show (n - p % 4294967296) % 4294967296 = (n - p) % 4294967296 from by omega]

theorem clamp_eq (p : Int) : min (max p 0) 1152921504606846976 = clampAt p := by
  unfold clampAt
  split
  · omega
  · split <;> omega
theorem near_any (n p : Int) (w : World) (p1 : p ≤ 9223372036854775807) :
    Calls Try.prog 80 #[.int .u32 n, .int .i64 p] w fun e w' => e = .returned (.int .i64 (near n p)) ∧ w' = w := by
  have hlo := dif_lo n (min (max p 0) 1152921504606846976)
  have hhi := dif_hi n (min (max p 0) 1152921504606846976)
  have HN : Hid (min (max p 0) 1152921504606846976 + dif n (min (max p 0) 1152921504606846976) = near n p) := by
    show _ = _
    unfold near; rw [clamp_eq]
  have HD : Hid (∀ x, dif n (x % 4294967296) = dif n x) := fun x => dif_mod n x
  have HW : Hid (wrap64 (min (max p 0) 1152921504606846976 + dif n (min (max p 0) 1152921504606846976)) = min (max p 0) 1152921504606846976 + dif n (min (max p 0) 1152921504606846976)) := wrap64_in _ (by omega) (by omega)
  clear hlo hhi
  go_enter Try.func80, Try.ntmps80
  go_wp2_with (go_at_call 64; refine (diff_any _ _ _).mono ?_; rintro e w' ⟨rfl, rfl⟩)
  go_ret
  exact ⟨ret_int (by first | exact HN.out | (rw [HW.out]; exact HN.out) | (rw [HD.out, HW.out]; exact HN.out) | (rw [HD.out]; exact HN.out)), rfl⟩
end Go.Proofs.Ytnhcjefbiihfjaa.Sq
