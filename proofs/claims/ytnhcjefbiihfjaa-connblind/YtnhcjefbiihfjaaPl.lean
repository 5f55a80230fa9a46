import Derived.Test.YtnhcjefbiihfjaaCq
namespace Go.Proofs.Ytnhcjefbiihfjaa
open Go.RowKit
open Tc (Sg gchk)
set_option linter.unusedVariables false
set_option linter.unusedSimpArgs false

/-! Places and their numbers. -/
theorem nm_inj {s : Nat} {p q : Int} (h0 : -2147483648 < p - q) (h1 : p - q < 2147483648) : Cn.nm s p = Cn.nm s q ↔ p = q := by
  unfold Cn.nm; omega
theorem nm_0 {s : Nat} (h : s < 4294967296) : Cn.nm s 0 = s := by unfold Cn.nm; omega
theorem dif_nm {s : Nat} {p q : Int} (h0 : -2147483648 ≤ p - q) (h1 : p - q < 2147483648) : Sq.dif (((Cn.nm s p : Nat) : Int) - s) q = p - q := by
  rw [nm_cast]; unfold Sq.dif; split <;> omega
theorem near_nm {s : Nat} {p q : Int} (q0 : 0 ≤ q) (q1 : q ≤ 1152921504606846976) (h0 : -2147483648 ≤ p - q) (h1 : p - q < 2147483648) : Sq.near ((((Cn.nm s p : Nat) : Int) - s) % 4294967296) q = p := by
  have e : Sq.clampAt q = q := by unfold Sq.clampAt; split; omega; split <;> omega
  unfold Sq.near; rw [e]
  have : Sq.dif ((((Cn.nm s p : Nat) : Int) - s) % 4294967296) q = p - q := by
    rw [nm_cast]; unfold Sq.dif; split <;> omega
  omega
/-- May it come? By places. -/
def pacc (p l q m : Int) : Bool :=
  if l ≤ 0 then (if m ≤ 0 then decide (p = q) else decide (q ≤ p ∧ p < q + m))
  else if m ≤ 0 then false else decide (q ≤ p ∧ p < q + m) || decide (q ≤ p + (l - 1) ∧ p + (l - 1) < q + m)
theorem acc_nm {s : Nat} {p l q m : Int} (h0 : -1073741824 ≤ p - q) (h1 : p - q ≤ 1073741824) (l1 : l ≤ 1048576) (m1 : m ≤ 1048576) : Sq.acc (Cn.nm s p : Nat) l (Cn.nm s q : Nat) m = pacc p l q m := by
  rw [nm_cast, nm_cast]
  unfold Sq.acc pacc Sq.inn
  split
  · split
    · have : ((s : Int) + p) % 4294967296 = ((s : Int) + q) % 4294967296 ↔ p = q := by omega
      rw [Bool.eq_iff_iff]; simp [this]
    · congr 1; apply propext; omega
  · split
    · rfl
    · congr 1
      · congr 1; apply propext; omega
      · congr 1; apply propext; omega
end Go.Proofs.Ytnhcjefbiihfjaa
