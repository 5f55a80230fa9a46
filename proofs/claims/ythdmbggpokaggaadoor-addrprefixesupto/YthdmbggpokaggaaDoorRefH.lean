/-
  The contract of the document's answer's PrefixHas.
-/
import Derived.Test.YthdmbggpokaggaaDoorRefX
namespace Go.Proofs.YthdmbggpokaggaaDoor
open Go.RowKit
set_option linter.unusedVariables false

theorem floor_iff (a x S : Nat) (hS : 0 < S) (h : a % S = 0) : x - x % S = a ↔ a ≤ x ∧ x < a + S := by
  constructor
  · intro e
    have := Nat.mod_lt x hS
    have := Nat.mod_le x S
    omega
  · rintro ⟨h1, h2⟩
    obtain ⟨d, rfl⟩ := Nat.exists_eq_add_of_le h1
    rw [Nat.add_mod, h, Nat.zero_add, Nat.mod_mod, Nat.mod_eq_of_lt (by omega)]
    omega

set_option maxHeartbeats 1000000 in
theorem rhas_any (a x : Nat) (b : Int) (w : World) (ha : a < 4294967296) (hx : x < 4294967296) :
    Calls Tryd.prog 19 #[.agg #[.int .u32 a, .int .i64 b], .int .u32 x] w fun e w' => e = .returned (.bool (has a b x)) ∧ Below w.heap.size w w' := by
  have HK : Hid (∀ w', Calls Tryd.prog 17 #[.agg #[.int .u32 a, .int .i64 b]] w' fun e w'' => e = .returned (.int .i64 (chk a b)) ∧ Below w'.heap.size w' w'') := fun w' => rcheck_any a b w' ha
  have N1 : Hid (∀ W W1 : World, ∀ (p : Addr) (v : Value), Below W.heap.size W W1 → W.cell? p = some v → W1.cell? p = some v) := fun W W1 p v hb hc => by
    rw [hb.cell (World.block_lt_of_cell? W _ hc)]; exact hc
  have b0 : Below w.heap.size w (w.alloc (.cells #[.int .u32 (a : Int), .int .i64 b] 29)) := (Below.refl _ _).alloc (Nat.le_refl _) _
  have C0 := Lib.hid (show (w.alloc (.cells #[.int .u32 (a : Int), .int .i64 b] 29)).cell? ⟨w.heap.size, 0, none⟩ = some (.int .u32 (a : Int)) by simp [go_sem])
  have C1 := Lib.hid (show (w.alloc (.cells #[.int .u32 (a : Int), .int .i64 b] 29)).cell? ⟨w.heap.size, 1, none⟩ = some (.int .i64 b) by simp [go_sem])
  by_cases hc : chk a b = 0
  · obtain ⟨p0, p1, p2⟩ := chk_ok hc
    obtain ⟨n, rfl⟩ := Int.eq_ofNat_of_zero_le p0
    have hn : n ≤ 32 := by omega
    have HL : Hid (∀ w', Calls Tryd.prog 33 #[.agg #[.int .u32 a, .int .i64 n]] w' fun e w'' => e = .returned (.int .u64 ((a : Int) + ((2 ^ (32 - n) : Nat) : Int) - 1)) ∧ Below w'.heap.size w' w'') := fun w' => last_any a n w' ha hn
    have hS : 0 < 2 ^ (32 - n) := Nat.two_pow_pos _
    have HH : Hid (has a n x = decide (a ≤ x ∧ x < a + 2 ^ (32 - n))) := by
      show _ = _
      unfold has
      rw [decide_eq_decide]
      have e : wid (n : Int) = 2 ^ (32 - n) := by unfold wid; rw [Int.toNat_natCast]
      rw [e] at p2 ⊢
      rw [floor_iff a x _ hS p2]
      exact ⟨fun h => h.2, fun h => ⟨hc, h⟩⟩
    rw [hc] at HK
    clear hc p0 p1 p2
    generalize (2 ^ (32 - n) : Nat) = S at *
    by_cases h1 : a ≤ x
    · have h1' : (a : Int) ≤ (x : Int) := by omega
      go_enter Tryd.func19, Tryd.ntmps19
      go_wp2_with fail
      refine (HK.out _).mono ?_; rintro e w1 ⟨rfl, hb1⟩
      have d0 := N1.out _ _ _ _ hb1 C0.out
      have d1 := N1.out _ _ _ _ hb1 C1.out
      have b1 := b0.trans (hb1.mono (by simp))
      have s1 := b1.size
      go_wp2_with fail
      refine (HL.out _).mono ?_; rintro e w2 ⟨rfl, hb2⟩
      have b2 := b1.trans (hb2.mono s1)
      by_cases h2 : x < a + S
      · have h2' : (x : Int) ≤ (a : Int) + (S : Int) - 1 := by omega
        have hh := Lib.hid (show has a n x = true by rw [HH.out]; simp; omega)
        go_wp2
        go_ret
        exact ⟨by rw [hh.out]; rfl, b2⟩
      · have h2' : ¬ (x : Int) ≤ (a : Int) + (S : Int) - 1 := by omega
        have hh := Lib.hid (show has a n x = false by rw [HH.out]; simp; omega)
        go_wp2
        go_ret
        exact ⟨by rw [hh.out]; exact congrArg (fun c => Ending.returned (Value.bool c)) (decide_eq_false (by omega)), b2⟩
    · have h1' : ¬ (a : Int) ≤ (x : Int) := by omega
      have hh := Lib.hid (show has a n x = false by rw [HH.out]; simp; omega)
      go_enter Tryd.func19, Tryd.ntmps19
      go_wp2_with fail
      refine (HK.out _).mono ?_; rintro e w1 ⟨rfl, hb1⟩
      have d0 := N1.out _ _ _ _ hb1 C0.out
      have d1 := N1.out _ _ _ _ hb1 C1.out
      have b1 := b0.trans (hb1.mono (by simp))
      go_wp2
      go_ret
      exact ⟨by rw [hh.out]; rfl, b1⟩
  · have hz : (chk a b == 0) = false := by simpa using hc
    have hh := Lib.hid (show has a b x = false by unfold has; simp [hc])
    generalize chk a b = C at *
    clear hc
    go_enter Tryd.func19, Tryd.ntmps19
    go_wp2_with fail
    refine (HK.out _).mono ?_; rintro e w1 ⟨rfl, hb1⟩
    have b1 := b0.trans (hb1.mono (by simp))
    go_wp2
    go_ret
    exact ⟨by rw [hh.out]; rfl, b1⟩
end Go.Proofs.YthdmbggpokaggaaDoor
