/-
  Contract of the document's SeqNear.
-/
import Derived.Test.YtmclhofobdlhiaaSeq
import Derived.Below
namespace Go.Proofs.Ytmclhofobdlhiaa
open Go.RowKit
set_option linter.unusedVariables false

/-- Where the best one lies behind k of the two. -/
def bst (D : Int) : Nat → Int
  | 0 => D - 4294967296
  | 1 => if D < 2147483648 then D else D - 4294967296
  | _ => if D < -2147483648 then D + 4294967296 else if D < 2147483648 then D else D - 4294967296

theorem dif_rest (n p : Int) (n0 : 0 ≤ n) (n1 : n ≤ 4294967295) : dif n p = bst (n - p % 4294967296) 2 := by
  unfold dif bst
  rw [show (n - p) % 4294967296 = (n - p % 4294967296) % 4294967296 from by omega]
  have : 0 ≤ p % 4294967296 ∧ p % 4294967296 < 4294967296 := by omega
  generalize p % 4294967296 = r at *
  split <;> (try split) <;> (try split) <;> omega

set_option maxHeartbeats 2000000 in
theorem rnear_any (n p : Int) (w : World) (n0 : 0 ≤ n) (n1 : n ≤ 4294967295) (p0 : -9223372036854775808 ≤ p) (p1 : p ≤ 9223372036854775807) :
    Calls Try.prog 17 #[.int .u32 n, .int .i64 p] w fun e w' => e = .returned (.int .i64 (near n p)) ∧ Below w.heap.size w w' := by
  obtain ⟨c, hcl⟩ : ∃ c, clampAt p = c := ⟨_, rfl⟩
  obtain ⟨r, hr⟩ : ∃ r, c % 4294967296 = r := ⟨_, rfl⟩
  have r0 : 0 ≤ r := by omega
  have r1 : r ≤ 4294967295 := by omega
  have hif : (p < 0 ∧ Hid (c = 0 ∧ r = 0)) ∨ (0 ≤ p ∧ p ≤ 1152921504606846976 ∧ Hid (c = p ∧ p % 4294967296 = r)) ∨ (1152921504606846976 < p ∧ Hid (c = 1152921504606846976 ∧ r = 0)) := by
    subst hr; rw [← hcl]
    show _ ∨ (_ ∧ _ ∧ (_ ∧ _)) ∨ (_ ∧ (_ ∧ _))
    by_cases h1 : p < 0
    · left; have e : clampAt p = 0 := by unfold clampAt; rw [if_pos h1]
      exact ⟨h1, e, by rw [e]; rfl⟩
    · right
      by_cases h2 : 1152921504606846976 < p
      · right; have e : clampAt p = 1152921504606846976 := by unfold clampAt; rw [if_neg h1, if_pos h2]
        exact ⟨h2, e, by rw [e]; rfl⟩
      · left; have e : clampAt p = p := by unfold clampAt; rw [if_neg h1, if_neg h2]
        exact ⟨by omega, by omega, e, by rw [e]⟩
  have HN : Hid (near n p = c + bst (n - r) 2) := by
    show _ = _
    unfold near; rw [hcl, dif_rest _ _ n0 n1, hr]
  clear hcl hr
  rcases hif with ⟨h, HC⟩ | ⟨h, h', HC⟩ | ⟨h, HC⟩
  all_goals
    go_enter Try.func17, Try.ntmps17
    go_wp2_with fail
    refine (rest_any _ _ _ (by omega) (by omega) (by omega) (by omega)).mono ?_; rintro e w' ⟨rfl, rfl⟩
    try rw [HC.out.2]
    go_wp2
    go_loop [6, 26] (fun b i => ∃ (k : Nat) (x : Int), k ≤ 2 ∧ i = .int .i64 k ∧ b = .int .i64 x ∧ Hid (x = c + bst (n - r) k)) (fun _ i => 2 - (intOf i).toNat)
    case atStart => exact ⟨0, _, by omega, rfl, rfl, by show _ = _; have := HC.out; simp only [bst]; omega⟩
    case round =>
      obtain ⟨k, x, hk, rfl, rfl, HX⟩ := hrel
      obtain ⟨e1, e2⟩ := HC.out
      have c1 := Int.le_of_eq e1
      have c2 := Int.le_of_eq e1.symm
      have c3 := Int.le_of_eq e2
      have c4 := Int.le_of_eq e2.symm
      have hx := HX.out
      clear e1 e2
      have hk3 : k = 0 ∨ k = 1 ∨ k = 2 := by omega
      rcases hk3 with rfl | rfl | rfl
      · simp only [bst] at hx
        have x1 := Int.le_of_eq hx
        have x2 := Int.le_of_eq hx.symm
        clear hx
        go_wp2
        all_goals
          go_round
          case rel => exact ⟨1, _, by omega, by go_num, rfl, by show _ = _; simp only [bst]; split <;> omega⟩
          case measure => simp [intOf]
      · simp only [bst] at hx
        by_cases hD : n - r < 2147483648
        · rw [if_pos hD] at hx
          have x1 := Int.le_of_eq hx
          have x2 := Int.le_of_eq hx.symm
          clear hx
          go_wp2
          all_goals
            go_round
            case rel => exact ⟨2, _, by omega, by go_num, rfl, by show _ = _; simp only [bst]; split <;> (try split) <;> omega⟩
            case measure => simp [intOf]
        · rw [if_neg hD] at hx
          have x1 := Int.le_of_eq hx
          have x2 := Int.le_of_eq hx.symm
          clear hx
          go_wp2
          all_goals
            go_round
            case rel => exact ⟨2, _, by omega, by go_num, rfl, by show _ = _; simp only [bst]; split <;> (try split) <;> omega⟩
            case measure => simp [intOf]
      · clear hx
        go_wp2
        go_ret
        exact ⟨ret_int (by rw [HX.out, HN.out]), (Below.refl _ _).alloc (Nat.le_refl _) _⟩
end Go.Proofs.Ytmclhofobdlhiaa
