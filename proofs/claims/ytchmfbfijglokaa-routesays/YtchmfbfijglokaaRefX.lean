/-
  Contracts of the document's answer's functions of prefixes: last, outside, PrefixCheck, PrefixHas.
-/
import Derived.Test.YtchmfbfijglokaaPfx
import Derived.WalkSmall
namespace Go.Proofs.Ytchmfbfijglokaa
open Go.RowKit
set_option linter.unusedVariables false

theorem pow_top (b : Nat) : 2 ^ (32 - b) ≤ 4294967296 := (Nat.pow_le_pow_right (n := 2) (i := 32 - b) (j := 32) (by omega) (by omega))
theorem last_any (a b : Nat) (w : World) (ha : a < 4294967296) (hb : b ≤ 32) :
    Calls Try.prog 38 #[.agg #[.int .u32 a, .int .i64 b]] w fun e w' => e = .returned (.int .u64 ((a : Int) + ((2 ^ (32 - b) : Nat) : Int) - 1)) ∧ Below w.heap.size w w' := by
  have hS : IntKind.u64.wrap ((2 : Int) ^ (32 - b)) = ((2 ^ (32 - b) : Nat) : Int) := by
    have := pow_top b
    have e2 : (2 : Int) ^ (32 - b) = ((2 ^ (32 - b) : Nat) : Int) := by simp
    rw [e2]
    generalize (2 ^ (32 - b) : Nat) = S at *
    rw [IntKind.wrap_u64]; omega
  have h1 := pow_top b
  have h2 := Nat.two_pow_pos (32 - b)
  have hb2 : (b : Int) ≤ 32 := by omega
  generalize (2 ^ (32 - b) : Nat) = S at *
  go_enter Try.func38, Try.ntmps38
  go_wp2
  go_quiet (fail)
  go_wp2
  go_ret
  exact ⟨rfl, below_drewN ((Below.refl _ _).alloc (Nat.le_refl _) _) _⟩

theorem outside_any (n lo hi : Int) (w : World) :
    Calls Try.prog 36 #[.int .i64 n, .int .i64 lo, .int .i64 hi] w fun e w' => e = .returned (.bool (decide (n < lo ∨ hi < n))) ∧ w' = w := by
  by_cases h0 : n < lo
  · rw [show decide (n < lo ∨ hi < n) = true by simp; exact .inl h0]
    go_enter Try.func36, Try.ntmps36
    go_wp2
    go_ret
    exact ⟨rfl, rfl⟩
  · by_cases h1 : hi < n
    · rw [show decide (n < lo ∨ hi < n) = true by simp; exact .inr h1]
      go_enter Try.func36, Try.ntmps36
      go_wp2
      go_ret
      exact ⟨rfl, rfl⟩
    · rw [show decide (n < lo ∨ hi < n) = false by simp; omega]
      go_enter Try.func36, Try.ntmps36
      go_wp2
      go_ret
      exact ⟨rfl, rfl⟩

set_option maxHeartbeats 1000000 in
theorem rcheck_any (a : Nat) (b : Int) (w : World) (ha : a < 4294967296) :
    Calls Try.prog 26 #[.agg #[.int .u32 a, .int .i64 b]] w fun e w' => e = .returned (.int .i64 (chk a b)) ∧ Below w.heap.size w w' := by
  by_cases h0 : b < 0 ∨ 32 < b
  · have HO : Hid (∀ w', Calls Try.prog 36 #[.int .i64 b, .int .i64 0, .int .i64 32] w' fun e w'' => e = .returned (.bool true) ∧ w'' = w') := fun w' => by
      have := outside_any b 0 32 w'
      rwa [show decide (b < 0 ∨ 32 < b) = true by simpa using h0] at this
    have hk := Lib.hid (show chk a b = 1 by unfold chk; rw [if_pos h0])
    clear h0
    go_enter Try.func26, Try.ntmps26
    go_wp2_with fail
    refine (HO.out _).mono ?_; rintro e w1 ⟨rfl, rfl⟩
    go_wp2
    go_ret
    exact ⟨by rw [hk.out]; rfl, (Below.refl _ _).alloc (Nat.le_refl _) _⟩
  · obtain ⟨n, rfl⟩ := Int.eq_ofNat_of_zero_le (show 0 ≤ b by omega)
    have hn : n ≤ 32 := by omega
    have HO : Hid (∀ w', Calls Try.prog 36 #[.int .i64 n, .int .i64 0, .int .i64 32] w' fun e w'' => e = .returned (.bool false) ∧ w'' = w') := fun w' => by
      have := outside_any n 0 32 w'
      rwa [show decide ((n : Int) < 0 ∨ 32 < (n : Int)) = false by simpa using h0] at this
    have HC : Hid (chk a n = if a % 2 ^ (32 - n) = 0 then 0 else 4) := by
      show _ = _
      unfold chk wid; rw [if_neg (by omega), Int.toNat_natCast]
    have hS : IntKind.u64.wrap ((2 : Int) ^ (32 - n)) = ((2 ^ (32 - n) : Nat) : Int) := by
      have := pow_top n
      have e2 : (2 : Int) ^ (32 - n) = ((2 ^ (32 - n) : Nat) : Int) := by simp
      rw [e2]
      generalize (2 ^ (32 - n) : Nat) = S at *
      rw [IntKind.wrap_u64]; omega
    have h1 := pow_top n
    have h2 := Nat.two_pow_pos (32 - n)
    have hb2 : (n : Int) ≤ 32 := by omega
    have hR : ((a : Int).tmod ((2 ^ (32 - n) : Nat) : Int)) = ((a % 2 ^ (32 - n) : Nat) : Int) := rfl
    have hR2 : ((a : Int) % ((2 ^ (32 - n) : Nat) : Int)) = ((a % 2 ^ (32 - n) : Nat) : Int) := rfl
    have hRl : a % 2 ^ (32 - n) < 2 ^ (32 - n) := Nat.mod_lt _ h2
    clear h0
    generalize a % 2 ^ (32 - n) = R at *
    generalize (2 ^ (32 - n) : Nat) = S at *
    go_enter Try.func26, Try.ntmps26
    go_wp2_with fail
    refine (HO.out _).mono ?_; rintro e w1 ⟨rfl, rfl⟩
    by_cases hR0 : R = 0
    · subst hR0
      go_wp2
      go_quiet (fail)
      go_wp2
      go_ret
      exact ⟨by rw [HC.out]; rfl, below_drewN ((Below.refl _ _).alloc (Nat.le_refl _) _) _⟩
    · have hz : ((R : Int) == 0) = false := by simp; omega
      go_wp2
      go_quiet (fail)
      go_wp2
      go_ret
      exact ⟨by rw [HC.out, if_neg hR0]; rfl, below_drewN ((Below.refl _ _).alloc (Nat.le_refl _) _) _⟩

theorem floor_iff (a x S : Nat) (hS : 0 < S) (h : a % S = 0) : x - x % S = a ↔ a ≤ x ∧ x < a + S := by
  constructor
  · intro e
    have := Nat.mod_lt x hS
    have := Nat.mod_le x S
    omega
  · rintro ⟨h1, h2⟩
    obtain ⟨d, rfl⟩ := Nat.exists_eq_add_of_le h1
    rw [Nat.add_mod, h, Nat.zero_add, Nat.mod_mod, Nat.mod_eq_of_lt (by omega)]
    omega

set_option maxHeartbeats 1000000 in
theorem rhas_any (a x : Nat) (b : Int) (w : World) (ha : a < 4294967296) (hx : x < 4294967296) :
    Calls Try.prog 33 #[.agg #[.int .u32 a, .int .i64 b], .int .u32 x] w fun e w' => e = .returned (.bool (has a b x)) ∧ Below w.heap.size w w' := by
  have HK : Hid (∀ w', Calls Try.prog 26 #[.agg #[.int .u32 a, .int .i64 b]] w' fun e w'' => e = .returned (.int .i64 (chk a b)) ∧ Below w'.heap.size w' w'') := fun w' => rcheck_any a b w' ha
  have N1 : Hid (∀ W W1 : World, ∀ (p : Addr) (v : Value), Below W.heap.size W W1 → W.cell? p = some v → W1.cell? p = some v) := fun W W1 p v hb hc => by
    rw [hb.cell (World.block_lt_of_cell? W _ hc)]; exact hc
  have b0 : Below w.heap.size w (w.alloc (.cells #[.int .u32 (a : Int), .int .i64 b] 34)) := (Below.refl _ _).alloc (Nat.le_refl _) _
  have C0 := Lib.hid (show (w.alloc (.cells #[.int .u32 (a : Int), .int .i64 b] 34)).cell? ⟨w.heap.size, 0, none⟩ = some (.int .u32 (a : Int)) by simp [go_sem])
  have C1 := Lib.hid (show (w.alloc (.cells #[.int .u32 (a : Int), .int .i64 b] 34)).cell? ⟨w.heap.size, 1, none⟩ = some (.int .i64 b) by simp [go_sem])
  by_cases hc : chk a b = 0
  · obtain ⟨p0, p1, p2⟩ := chk_ok hc
    obtain ⟨n, rfl⟩ := Int.eq_ofNat_of_zero_le p0
    have hn : n ≤ 32 := by omega
    have HL : Hid (∀ w', Calls Try.prog 38 #[.agg #[.int .u32 a, .int .i64 n]] w' fun e w'' => e = .returned (.int .u64 ((a : Int) + ((2 ^ (32 - n) : Nat) : Int) - 1)) ∧ Below w'.heap.size w' w'') := fun w' => last_any a n w' ha hn
    have hS : 0 < 2 ^ (32 - n) := Nat.two_pow_pos _
    have HH : Hid (has a n x = decide (a ≤ x ∧ x < a + 2 ^ (32 - n))) := by
      show _ = _
      unfold has
      rw [decide_eq_decide]
      have e : wid (n : Int) = 2 ^ (32 - n) := by unfold wid; rw [Int.toNat_natCast]
      rw [e] at p2 ⊢
      rw [floor_iff a x _ hS p2]
      exact ⟨fun h => h.2, fun h => ⟨hc, h⟩⟩
    rw [hc] at HK
    clear hc p0 p1 p2
    generalize (2 ^ (32 - n) : Nat) = S at *
    by_cases h1 : a ≤ x
    · have h1' : (a : Int) ≤ (x : Int) := by omega
      go_enter Try.func33, Try.ntmps33
      go_wp2_with fail
      refine (HK.out _).mono ?_; rintro e w1 ⟨rfl, hb1⟩
      have d0 := N1.out _ _ _ _ hb1 C0.out
      have d1 := N1.out _ _ _ _ hb1 C1.out
      have b1 := b0.trans (hb1.mono (by simp))
      have s1 := b1.size
      go_wp2_with fail
      refine (HL.out _).mono ?_; rintro e w2 ⟨rfl, hb2⟩
      have b2 := b1.trans (hb2.mono s1)
      by_cases h2 : x < a + S
      · have h2' : (x : Int) ≤ (a : Int) + (S : Int) - 1 := by omega
        have hh := Lib.hid (show has a n x = true by rw [HH.out]; simp; omega)
        go_wp2
        go_ret
        exact ⟨by rw [hh.out]; rfl, b2⟩
      · have h2' : ¬ (x : Int) ≤ (a : Int) + (S : Int) - 1 := by omega
        have hh := Lib.hid (show has a n x = false by rw [HH.out]; simp; omega)
        go_wp2
        go_ret
        exact ⟨by rw [hh.out]; exact congrArg (fun c => Ending.returned (Value.bool c)) (decide_eq_false (by omega)), b2⟩
    · have h1' : ¬ (a : Int) ≤ (x : Int) := by omega
      have hh := Lib.hid (show has a n x = false by rw [HH.out]; simp; omega)
      go_enter Try.func33, Try.ntmps33
      go_wp2_with fail
      refine (HK.out _).mono ?_; rintro e w1 ⟨rfl, hb1⟩
      have d0 := N1.out _ _ _ _ hb1 C0.out
      have d1 := N1.out _ _ _ _ hb1 C1.out
      have b1 := b0.trans (hb1.mono (by simp))
      go_wp2
      go_ret
      exact ⟨by rw [hh.out]; rfl, b1⟩
  · have hz : (chk a b == 0) = false := by simpa using hc
    have hh := Lib.hid (show has a b x = false by unfold has; simp [hc])
    generalize chk a b = C at *
    clear hc
    go_enter Try.func33, Try.ntmps33
    go_wp2_with fail
    refine (HK.out _).mono ?_; rintro e w1 ⟨rfl, hb1⟩
    have b1 := b0.trans (hb1.mono (by simp))
    go_wp2
    go_ret
    exact ⟨by rw [hh.out]; rfl, b1⟩
end Go.Proofs.Ytchmfbfijglokaa
