/-
  The document's own timer: contracts of Rest, outside, down, RtoNew, Late, Value, Sample.
-/
import Derived.Test.YthjbhnncobhfoaaVa
import Derived.Test.YthjbhnncobhfoaaSa
namespace Go.Proofs.Ythjbhnncobhfoaa
open Go.RowKit
set_option linter.unusedVariables false
set_option linter.unusedSimpArgs false

theorem emod_of_tmod (n m : Int) (h1 : 1 ≤ m) : n % m = if n.tmod m < 0 then n.tmod m + m else n.tmod m := by
  have e : n = n.tmod m + m * n.tdiv m := (Int.tmod_add_mul_tdiv n m).symm
  have l1 := Int.tmod_lt_of_pos n (show 0 < m by omega)
  have l2 := Int.lt_tmod_of_pos n (show 0 < m by omega)
  have e2 : n % m = (n.tmod m) % m := by
    conv => lhs; rw [e]
    rw [Int.add_mul_emod_self_left]
  rw [e2]
  split
  · rw [← Int.add_emod_right, Int.emod_eq_of_lt (by omega) (by omega)]
  · rw [Int.emod_eq_of_lt (by omega) (by omega)]
theorem rest_any (n m : Int) (w : World) (h1 : 1 ≤ m) (hm : m ≤ 9223372036854775807) (hn : -9223372036854775808 ≤ n) (hn2 : n ≤ 9223372036854775807) :
    Calls Try.prog 15 #[.int .i64 n, .int .i64 m] w fun e w' => e = .returned (.int .i64 (n % m)) ∧ w' = w := by
  have hz : (m == 0) = false := by simp; omega
  have HE : Hid (n % m = if n.tmod m < 0 then n.tmod m + m else n.tmod m) := emod_of_tmod n m h1
  have l2 := Int.lt_tmod_of_pos n (show 0 < m by omega)
  by_cases hneg : n.tmod m < 0
  · go_enter Try.func15, Try.ntmps15
    go_wp2
    go_ret
    exact ⟨ret_int (by rw [HE.out, if_pos hneg]), rfl⟩
  · go_enter Try.func15, Try.ntmps15
    go_wp2
    go_ret
    exact ⟨ret_int (by rw [HE.out, if_neg (by omega)]), rfl⟩
theorem outside_t (n l m : Int) (w : World) (h : n < l ∨ m < n) :
    Calls Try.prog 17 #[.int .i64 n, .int .i64 l, .int .i64 m] w fun e w' => e = .returned (.bool true) ∧ w' = w := by
  by_cases h0 : n < l
  · go_enter Try.func17, Try.ntmps17
    go_wp2
    go_ret
    exact ⟨rfl, rfl⟩
  · have h1 : m < n := by omega
    clear h
    go_enter Try.func17, Try.ntmps17
    go_wp2
    go_ret
    exact ⟨rfl, rfl⟩
theorem outside_f (n l m : Int) (w : World) (h : ¬ (n < l ∨ m < n)) :
    Calls Try.prog 17 #[.int .i64 n, .int .i64 l, .int .i64 m] w fun e w' => e = .returned (.bool false) ∧ w' = w := by
  have h0 : ¬ n < l := by omega
  have h1 : ¬ m < n := by omega
  clear h
  go_enter Try.func17, Try.ntmps17
  go_wp2
  go_ret
  exact ⟨rfl, rfl⟩
theorem down_any (n m : Int) (w : World) (h0 : 0 ≤ n) (hn : n ≤ 9223372036854775807) (h1 : 1 ≤ m) (hm : m ≤ 9223372036854775807) :
    Calls Try.prog 18 #[.int .i64 n, .int .i64 m] w fun e w' => e = .returned (.int .i64 (n / m)) ∧ w' = w := by
  have HR : Hid (∀ w', Calls Try.prog 15 #[.int .i64 n, .int .i64 m] w' fun e w'' => e = .returned (.int .i64 (n % m)) ∧ w'' = w') := fun w' => rest_any n m w' h1 hm (by omega) hn
  have r0 := Int.emod_nonneg n (show m ≠ 0 by omega)
  have r1 := Int.emod_lt_of_pos n (show 0 < m by omega)
  have r2 : n % m ≤ n := by
    have := Int.mul_ediv_add_emod n m
    have := Int.mul_nonneg (show 0 ≤ m by omega) (Int.ediv_nonneg h0 (show 0 ≤ m by omega))
    omega
  have e0 : (n - n % m) / m = n / m := by
    rw [show n - n % m = m * (n / m) from by have := Int.mul_ediv_add_emod n m; omega, Int.mul_ediv_cancel_left _ (show m ≠ 0 by omega)]
  have HE : Hid ((n - n % m).tdiv m = n / m) := by
    show _ = _
    rw [Int.tdiv_eq_ediv_of_nonneg (by omega)]
    exact e0
  have HE2 : Hid ((n - n % m) / m = n / m) := e0
  have hz : (m == 0) = false := by simp; omega
  have q0 : 0 ≤ n / m := Int.ediv_nonneg h0 (show 0 ≤ m by omega)
  have q1 : n / m ≤ n := Int.ediv_le_self _ h0
  clear e0
  generalize n % m = r at *
  generalize n / m = q at *
  go_enter Try.func18, Try.ntmps18
  go_wp2_with fail
  refine (HR.out _).mono ?_; rintro e w1 ⟨rfl, rfl⟩
  go_wp2_with fail
  go_ret
  exact ⟨ret_int (by first | exact HE.out | exact HE2.out), rfl⟩

theorem rnew_any (w : World) :
    Calls Try.prog 7 #[] w fun e w' => e = .returned (.pointer (some ⟨w.heap.size, 0, none⟩)) ∧ RB w.heap.size tm0 w' ∧ Below w.heap.size w w' := by
  have T0 : Hid (RB w.heap.size tm0 (w.alloc (.cells #[.int .i64 (-1), .int .i64 0, .int .i64 0] 52))) := heap_alloc_new w _
  have b0 : Below w.heap.size w (w.alloc (.cells #[.int .i64 (-1), .int .i64 0, .int .i64 0] 52)) := (Below.refl _ _).alloc (Nat.le_refl _) _
  go_enter Try.func7, Try.ntmps7
  go_wp2_with fail
  go_ret
  exact ⟨rfl, T0.out, b0⟩

theorem rlate_any (b : Nat) (t : Tm) (w : World) (h : RB b t w) (ok : TOk t) :
    Calls Try.prog 12 #[.pointer (some ⟨b, 0, none⟩)] w fun e w' => e = .returned (.tuple #[]) ∧ RB b (late t) w' ∧ Kp [b] w w' := by
  have c2 := h.c2
  have f2 := h.free 2
  have hd0 := ok.d0
  have hd1 := ok.d1
  have HT : Hid (∀ x, x = min (t.dbl + 1) 6 → RB b (late t) (w.setCell ⟨b, 2, none⟩ (.int .i64 x))) := fun x hx => by rw [hx]; exact Joins.block_setCell h _
  have HK : Hid (∀ v, Kp [b] w (w.setCell ⟨b, 2, none⟩ v)) := fun v => (Kp.refl _ _).setCell (Or.inl (by simp)) _
  have HS : Hid (t.dbl = 6 → RB b (late t) w) := fun e => by
    have : late t = t := by unfold late; rw [show min (t.dbl + 1) 6 = t.dbl from by omega]
    rw [this]; exact h
  generalize t.dbl = d at *
  generalize late t = t' at *
  clear h ok
  by_cases hlt : d < 6
  · go_enter Try.func12, Try.ntmps12
    go_wp2_with fail
    refine bodyPost_end (results_none rfl _ _ _) rfl ?_
    exact ⟨rfl, HT.out _ (by omega), HK.out _⟩
  · go_enter Try.func12, Try.ntmps12
    go_wp2_with fail
    refine bodyPost_end (results_none rfl _ _ _) rfl ?_
    exact ⟨rfl, HS.out (by omega), Kp.refl _ _⟩
end Go.Proofs.Ythjbhnncobhfoaa
