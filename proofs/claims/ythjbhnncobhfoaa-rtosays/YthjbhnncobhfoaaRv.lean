/-
  The document's own timer: contract of Value.
-/
import Derived.Test.YthjbhnncobhfoaaRf
namespace Go.Proofs.Ythjbhnncobhfoaa
open Go.RowKit
set_option linter.unusedVariables false
set_option linter.unusedSimpArgs false

theorem p2_succ {k : Int} (h : 0 ≤ k) : p2 (k + 1) = p2 k * 2 := by
  obtain ⟨n, rfl⟩ := Int.eq_ofNat_of_zero_le h
  unfold p2
  rw [show ((n : Int) + 1).toNat = n + 1 from by omega, Int.toNat_natCast, Int.pow_succ]
theorem p2_bnd {p k : Int} (b0 : 1 ≤ p) (b1 : p ≤ 5497558138880) (h0 : 0 ≤ k) (h1 : k ≤ 6) : 0 ≤ p * p2 k ∧ p * p2 k ≤ 351843720888320 := by
  rcases d_cases h0 h1 with q | q | q | q | q | q | q <;> subst q
  · rw [show p2 0 = 1 from rfl]; omega
  · rw [show p2 1 = 2 from rfl]; omega
  · rw [show p2 2 = 4 from rfl]; omega
  · rw [show p2 3 = 8 from rfl]; omega
  · rw [show p2 4 = 16 from rfl]; omega
  · rw [show p2 5 = 32 from rfl]; omega
  · rw [show p2 6 = 64 from rfl]; omega

set_option maxHeartbeats 1000000 in
theorem rvalue_any (b : Nat) (t : Tm) (w : World) (h : RB b t w) (ok : TOk t) :
    Calls Try.prog 14 #[.pointer (some ⟨b, 0, none⟩)] w fun e w' => e = .returned (.int .i64 (val t)) ∧ Below w.heap.size w w' := by
  obtain ⟨b0, b1⟩ := base_lo ok
  have HB : Hid (base t = if t.known then t.mean / 8 + max 1 t.spread else 3) := rfl
  have HV : Hid (∀ x, x = max 2 (min 64 (base t * p2 t.dbl)) → x = val t) := fun x hx => by
    rw [hx]; unfold val; omega
  have HP : Hid (∀ k, 0 ≤ k → k ≤ 6 → 0 ≤ base t * p2 k ∧ base t * p2 k ≤ 351843720888320) := fun k h0 h1 => p2_bnd b0 b1 h0 h1
  have HS : Hid (∀ k, 0 ≤ k → base t * p2 (k + 1) = base t * p2 k * 2) := fun k h0 => by rw [p2_succ h0, Int.mul_assoc]
  have HZ : Hid (base t * p2 0 = base t) := by rw [show p2 0 = 1 from rfl]; exact Int.mul_one _
  have hd0 := ok.d0
  have hd1 := ok.d1
  have R0 := Lib.hid h
  have c0 := h.c0
  have c1 := h.c1
  have c2 := h.c2
  have m0 := ok.m0
  have m1 := ok.m1
  have s0 := ok.s0
  have s1 := ok.s1
  have HD : Hid (∀ w', Calls Try.prog 18 #[.int .i64 t.mean, .int .i64 8] w' fun e w'' => e = .returned (.int .i64 (t.mean / 8)) ∧ w'' = w') := fun w' => down_any t.mean 8 w' m0 (by omega) (by omega) (by omega)
  clear h ok
  cases hk : t.known with
  | false =>
    rw [hk] at c0
    replace HB : Hid (base t = 3) := by have := HB.out; rw [hk] at this; exact this
    generalize base t = p at *
    generalize t.dbl = d at *
    go_enter Try.func14, Try.ntmps14
    go_wp2_with fail
    all_goals (
      go_loopw [3, 24] (fun n i W => ∃ k q : Int, 0 ≤ k ∧ k ≤ d ∧ i = .int .i64 k ∧ n = .int .i64 q ∧ q = p * p2 k ∧ Below w.heap.size w W) (fun _ i _ => (d - intOf i).toNat)
      case atStart => exact ⟨0, _, Int.le_refl 0, hd0, rfl, rfl, by rw [HZ.out, HB.out], Below.refl _ _⟩
      case round =>
        obtain ⟨k, q, hk0, hk1, rfl, rfl, hq, hb⟩ := hrel
        have HQ := Lib.hid hq
        obtain ⟨q0, q1⟩ := HP.out k hk0 (by omega)
        rw [← hq] at q0 q1
        clear hq
        by_cases hlt : k < d
        · go_wp2_with fail
          go_roundw
          case rel => exact ⟨k + 1, _, by omega, by omega, rfl, rfl, by rw [HS.out k hk0, HQ.out], hb⟩
          case measure => simp [intOf]; omega
        · have hkd : k = d := by omega
          go_wp2_with fail
          go_ret
          exact ⟨ret_int (HV.out _ (by rw [← hkd, ← HQ.out])), hb⟩)
  | true =>
    rw [hk] at c0
    replace c0 : w.cell? ⟨b, 0, none⟩ = some (.int .i64 t.mean) := c0
    replace HB : Hid (base t = t.mean / 8 + max 1 t.spread) := by have := HB.out; rw [hk] at this; exact this
    generalize base t = p at *
    generalize t.mean = m at *
    generalize t.spread = s at *
    generalize t.dbl = d at *
    have B0 : Hid (Below w.heap.size w w.drew) := (Below.refl _ _).drew
    go_enter Try.func14, Try.ntmps14
    go_wp2_with fail
    go_region_with (go_at_call 18; refine (HD.out _).mono ?_; rintro e w1 ⟨rfl, rfl⟩)
    all_goals go_wp2_with fail
    all_goals (
      go_loopw [3, 24] (fun n i W => ∃ k q : Int, 0 ≤ k ∧ k ≤ d ∧ i = .int .i64 k ∧ n = .int .i64 q ∧ q = p * p2 k ∧ Below w.heap.size w W) (fun _ i _ => (d - intOf i).toNat)
      case atStart => exact ⟨0, _, Int.le_refl 0, hd0, rfl, rfl, by rw [HZ.out]; exact HB.out.symm, B0.out⟩
      case round =>
        obtain ⟨k, q, hk0, hk1, rfl, rfl, hq, hb⟩ := hrel
        have HQ := Lib.hid hq
        obtain ⟨q0, q1⟩ := HP.out k hk0 (by omega)
        rw [← hq] at q0 q1
        clear hq
        by_cases hlt : k < d
        · go_wp2_with fail
          go_roundw
          case rel => exact ⟨k + 1, _, by omega, by omega, rfl, rfl, by rw [HS.out k hk0, HQ.out], hb⟩
          case measure => simp [intOf]; omega
        · have hkd : k = d := by omega
          go_wp2_with fail
          go_ret
          exact ⟨ret_int (HV.out _ (by rw [← hkd, ← HQ.out])), hb⟩)
end Go.Proofs.Ythjbhnncobhfoaa
