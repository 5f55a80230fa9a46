/-
  What comes back of a cookie: numbers only.
-/
import Derived.Test.YtoococeaanndkaaDoorWm
namespace Go.Proofs.YtoococeaanndkaaDoor
open Go.RowKit
set_option linter.unusedVariables false
set_option linter.unusedSimpArgs false

theorem ck_head (k0 k1 : Int) (e f : En) (i h : Int) : ck k0 k1 e f i h / 16777216 = h := by
  unfold ck
  generalize pairv k0 (kx k1 i h) e f = V
  omega
theorem ck_bounds (k0 k1 : Int) (e f : En) (i h : Int) (h0 : 0 ≤ h) (h1 : h < 256) : 0 ≤ ck k0 k1 e f i h ∧ ck k0 k1 e f i h < 4294967296 := by
  unfold ck
  generalize pairv k0 (kx k1 i h) e f = V
  omega
theorem hd_slot (m n : Int) : hd m n / 8 = sl n := by
  have := st_lt m
  unfold hd; omega
theorem hd_step (m n : Int) : (hd m n % 8).toNat = st m := by
  have := st_lt m
  unfold hd; omega
/-- What Check tells of a cookie that Make told. -/
def bk (m n l : Int) : Int × Int := if cnt (sl n) l = false then (0, 13) else (sv (st m), 0)
theorem chk_made (k0 k1 : Int) (e f : En) (i m n l : Int) (h0 : 0 ≤ l) (h1 : l ≤ 1099511627776) : chk k0 k1 e f i (ck k0 k1 e f i (hd m n)) l = bk m n l := by
  unfold chk bk
  rw [ck_head, hd_slot, hd_step, if_neg (not_not_intro ⟨h0, h1⟩), if_neg (not_not_intro rfl : ¬ (ck k0 k1 e f i (hd m n) ≠ ck k0 k1 e f i (hd m n)))]
theorem cnt_near (n l : Int) (h0 : 0 ≤ n) (h1 : 0 ≤ l) (h2 : l ≤ 64) : cnt (sl n) (n + l) = true := by
  unfold cnt sl; simp only [decide_eq_true_eq]; omega
theorem cnt_far (n l : Int) (h0 : 0 ≤ n) (h1 : 128 ≤ l) (h2 : l ≤ 1920) : cnt (sl n) (n + l) = false := by
  unfold cnt sl; simp only [decide_eq_false_iff_not]; omega
theorem sv_bounds (k : Nat) : 8 ≤ sv k ∧ sv k ≤ 1000 := by
  unfold sv; split <;> decide
/-- More than half of the mss comes back, or the step is 8, 64 or 1000. -/
theorem step_half (m : Int) (h : 8 ≤ m) : m < 2 * sv (st m) ∨ sv (st m) = 64 ∨ sv (st m) = 1000 ∨ sv (st m) = 8 := by
  have e : st m = if (1000 : Int) ≤ m then 7 else if (850 : Int) ≤ m then 6 else if (700 : Int) ≤ m then 5 else if (536 : Int) ≤ m then 4 else if (400 : Int) ≤ m then 3 else if (216 : Int) ≤ m then 2 else if (64 : Int) ≤ m then 1 else if (8 : Int) ≤ m then 0 else 0 := rfl
  rw [e]
  repeat' split
  all_goals clear e
  all_goals first | (simp [sv]; done) | (simp only [sv]; omega)
end Go.Proofs.YtoococeaanndkaaDoor
