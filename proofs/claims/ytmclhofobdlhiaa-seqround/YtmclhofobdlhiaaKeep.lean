/-
  What numbers that go round keep: mathematics alone.
-/
import Derived.Test.YtmclhofobdlhiaaNear
namespace Go.Proofs.Ytmclhofobdlhiaa
open Go.RowKit
set_option linter.unusedVariables false

theorem dif_shift (a b n : Int) : dif ((a + n) % 4294967296) ((b + n) % 4294967296) = dif a b := by
  unfold dif; rw [show ((a + n) % 4294967296 - (b + n) % 4294967296) % 4294967296 = (a - b) % 4294967296 from by omega]
theorem inn_shift (a b n m : Int) : inn ((a + n) % 4294967296) ((b + n) % 4294967296) m = inn a b m := by
  unfold inn; rw [show ((a + n) % 4294967296 - (b + n) % 4294967296) % 4294967296 = (a - b) % 4294967296 from by omega]
theorem dif_back (a b : Int) (a0 : 0 ≤ a) (a1 : a ≤ 4294967295) : (b + dif a b) % 4294967296 = a := by
  unfold dif; split <;> omega
theorem dif_neg (a b : Int) (h : dif a b ≠ -2147483648) : dif b a = - dif a b := by
  revert h; unfold dif; intro h; split at h <;> split <;> (try split) <;> omega
theorem near_again (P D : Int) (p0 : 0 ≤ P) (p1 : P ≤ 1125899906842623) (d0 : 0 ≤ D) (d1 : D ≤ 4294967295) (h : 0 ≤ P + (D - 2147483648)) :
    near (P % 4294967296) (P + (D - 2147483648)) = if D = 0 then P - 4294967296 else P := by
  unfold near
  rw [show clampAt (P + (D - 2147483648)) = P + (D - 2147483648) from by unfold clampAt; rw [if_neg (by omega), if_neg (by omega)]]
  unfold dif
  rw [show (P % 4294967296 - (P + (D - 2147483648))) % 4294967296 = (2147483648 - D) % 4294967296 from by omega]
  split <;> split <;> omega
theorem acc_self (a : Int) : acc a 0 a 0 = true := by unfold acc; simp
theorem acc_in (x A L W : Int) (hA : 0 ≤ A) (hL : 0 ≤ L) (hW : W ≤ 2048) (h : A + L ≤ W) (h2 : 0 < L ∨ A < W) : acc ((x + A) % 4294967296) L x W = true := by
  have e : ((x + A) % 4294967296 - x) % 4294967296 = A := by omega
  unfold acc inn
  rw [e]
  by_cases hl : L ≤ 0
  · rw [if_pos hl, if_neg (by omega)]; simp; omega
  · rw [if_neg hl, if_neg (by omega)]
    have : decide (A < W) = true := by simp; omega
    rw [this]; rfl
theorem acc_out (x A L W : Int) (hA : -2500 ≤ A) (hA2 : A ≤ 2500) (hL : 0 < L) (hL2 : L ≤ 1000) (hW : W ≤ 2048) (h : A + L ≤ 0 ∨ W ≤ A) : acc ((x + A) % 4294967296) L x W = false := by
  have e : ((x + A) % 4294967296 - x) % 4294967296 = A % 4294967296 := by omega
  have e2 : (((x + A) % 4294967296 + (L - 1)) % 4294967296 - x) % 4294967296 = (A + (L - 1)) % 4294967296 := by omega
  unfold acc inn
  rw [e, e2, if_neg (by omega)]
  split
  · rfl
  · have h1 : decide (A % 4294967296 < W) = false := by simp; omega
    have h2 : decide ((A + (L - 1)) % 4294967296 < W) = false := by simp; omega
    rw [h1, h2]; rfl
end Go.Proofs.Ytmclhofobdlhiaa
