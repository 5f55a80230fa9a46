/-
  Contracts of the program's Check, Has and of behind (package addr).
-/
import Derived.Test.YtchmfbfijglokaaChecked
import Derived.WalkKit
import Derived.WalkLawsBesides
import Derived.Laws.BitsAllLaws
import Derived.Deep.QuietTactic
import Derived.BigQuiet
import Derived.Below
import Derived.Deep.RegionHeld3
import Derived.Laws.NewBlocks
import Derived.BigCall
import Derived.BigGuard
import Derived.Lib.Hide
namespace Go.Proofs.Ytchmfbfijglokaa
open Go.RowKit
set_option linter.unusedVariables false

theorem ret_int {k : IntKind} {a b : Int} (h : a = b) : Ending.returned (.int k a) = .returned (.int k b) := by rw [h]
theorem ret_bool {a b : Bool} (h : a = b) : Ending.returned (.bool a) = .returned (.bool b) := by rw [h]

/-- How many addresses a prefix has. -/
def wid (b : Int) : Nat := 2 ^ (32 - b.toNat)
/-- What is wrong with a prefix. -/
def chk (a : Nat) (b : Int) : Int := if b < 0 ∨ 32 < b then 1 else if a % wid b = 0 then 0 else 4
/-- Is x one of its addresses? -/
def has (a : Nat) (b : Int) (x : Nat) : Bool := decide (chk a b = 0 ∧ x - x % wid b = a)

theorem pow_le (n : Nat) : 2 ^ (32 - n) ≤ 4294967296 := (Nat.pow_le_pow_right (n := 2) (i := 32 - n) (j := 32) (by omega) (by omega))
theorem pow_pos (n : Nat) : 1 ≤ 2 ^ (32 - n) := Nat.one_le_two_pow
theorem shift_ones (n : Nat) (h : n ≤ 32) : (4294967295 : Nat) / 2 ^ n = 2 ^ (32 - n) - 1 := by
  have e : (2 : Nat) ^ 32 = 2 ^ (32 - n) * 2 ^ n := by rw [← Nat.pow_add]; congr 1; omega
  have p : 0 < 2 ^ n := Nat.two_pow_pos n
  have q : 0 < 2 ^ (32 - n) := Nat.two_pow_pos _
  rw [show (4294967295 : Nat) = 2 ^ (32 - n) * 2 ^ n - 1 from by rw [← e]]
  generalize 2 ^ (32 - n) = A at *
  generalize 2 ^ n = B at *
  rw [Nat.div_eq_iff p]
  have : (A - 1) * B + B = A * B := by rw [← Nat.succ_mul]; congr 1; omega
  omega
theorem keep_high (x k : Nat) (hx : x < 4294967296) (hk : k ≤ 32) : x &&& (4294967295 - (2 ^ k - 1)) = x - x % 2 ^ k := by
  have hp : 0 < 2 ^ k := Nat.two_pow_pos k
  have hle : 2 ^ k ≤ 2 ^ 32 := Nat.pow_le_pow_right (by omega) hk
  have e1 : x - x % 2 ^ k = (x >>> k) <<< k := by
    rw [Nat.shiftRight_eq_div_pow, Nat.shiftLeft_eq]
    have := Nat.div_add_mod x (2 ^ k)
    rw [Nat.mul_comm] at this
    omega
  rw [e1, show 4294967295 - (2 ^ k - 1) = 2 ^ 32 - ((2 ^ k - 1) + 1) from by omega]
  apply Nat.eq_of_testBit_eq
  intro i
  rw [Nat.testBit_and, Nat.testBit_two_pow_sub_succ (by omega), Nat.testBit_two_pow_sub_one, Nat.testBit_shiftLeft, Nat.testBit_shiftRight]
  by_cases h1 : k ≤ i
  · rw [show k + (i - k) = i from by omega]
    by_cases h2 : i < 32
    · simp [h1, h2]
    · have : x.testBit i = false := Nat.testBit_lt_two_pow (Nat.lt_of_lt_of_le hx (Nat.pow_le_pow_right (n := 2) (i := 32) (j := i) (by omega) (by omega)))
      simp [this]
  · simp [h1]; omega

theorem behind_any (n : Nat) (w : World) (h : n ≤ 32) :
    Calls Try.prog 34 #[.int .i64 n] w fun e w' => e = .returned (.int .u32 ((2 ^ (32 - n) - 1 : Nat) : Int)) ∧ w' = w := by
  have hn : ¬ ((n : Int) < 0) := by omega
  have HS : Hid ((4294967295 : Int) / 2 ^ n = ((2 ^ (32 - n) - 1 : Nat) : Int)) := by
    show _ = _
    rw [← shift_ones n h]; simp
  go_enter Try.func34, Try.ntmps34
  go_wp2
  go_ret
  exact ⟨ret_int HS.out, rfl⟩

theorem check_any (a : Nat) (b : Int) (w : World) (ha : a < 4294967296) :
    Calls Try.prog 22 #[.agg #[.int .u32 a, .int .i64 b]] w fun e w' => e = .returned (.int .i64 (chk a b)) ∧ Below w.heap.size w w' := by
  by_cases h0 : b < 0
  · go_enter Try.func22, Try.ntmps22
    go_wp2
    go_ret
    exact ⟨ret_int (by unfold chk; rw [if_pos (by omega)]), (Below.refl _ _).alloc (Nat.le_refl _) _⟩
  · by_cases h1 : 32 < b
    · go_enter Try.func22, Try.ntmps22
      go_wp2
      go_ret
      exact ⟨ret_int (by unfold chk; rw [if_pos (by omega)]), (Below.refl _ _).alloc (Nat.le_refl _) _⟩
    · obtain ⟨n, rfl⟩ := Int.eq_ofNat_of_zero_le (show 0 ≤ b by omega)
      have hn : n ≤ 32 := by omega
      have HC : Hid (chk a n = if a % 2 ^ (32 - n) = 0 then 0 else 4) := by
        show _ = _
        unfold chk wid; rw [if_neg (by omega), Int.toNat_natCast]
      have hand : bits .and .u32 (a : Int) ((2 ^ (32 - n) - 1 : Nat) : Int) = ((a % 2 ^ (32 - n) : Nat) : Int) := by
        rw [u32_and_nat _ _ ha (by have := pow_le n; have := pow_pos n; omega), Nat.and_two_pow_sub_one_eq_mod]
      have HB : Hid (∀ w', Calls Try.prog 34 #[.int .i64 n] w' fun e w'' => e = .returned (.int .u32 ((2 ^ (32 - n) - 1 : Nat) : Int)) ∧ w'' = w') := fun w' => behind_any n w' hn
      generalize (2 ^ (32 - n) - 1 : Nat) = M at *
      generalize a % 2 ^ (32 - n) = R at *
      go_enter Try.func22, Try.ntmps22
      go_wp2
      go_quiet ((go_at_call 34; exact Calls.quiet_of_same (HB.out _)))
      by_cases hR : R = 0
      · subst hR
        go_wp2
        go_ret
        exact ⟨ret_int (by rw [HC.out]; rfl), below_drewN ((Below.refl _ _).alloc (Nat.le_refl _) _) _⟩
      · have hz : ((R : Int) == 0) = false := by simp; omega
        go_wp2
        go_ret
        exact ⟨ret_int (by rw [HC.out, if_neg hR]), below_drewN ((Below.refl _ _).alloc (Nat.le_refl _) _) _⟩

theorem chk_cases (a : Nat) (b : Int) : chk a b = 0 ∨ chk a b = 1 ∨ chk a b = 4 := by
  unfold chk; split
  · simp
  · split <;> simp
theorem chk_ok {a : Nat} {b : Int} (h : chk a b = 0) : 0 ≤ b ∧ b ≤ 32 ∧ a % wid b = 0 := by
  unfold chk at h
  split at h
  · omega
  · split at h
    · exact ⟨by omega, by omega, by assumption⟩
    · omega

set_option maxHeartbeats 1000000 in
theorem has_any (a x : Nat) (b : Int) (w : World) (ha : a < 4294967296) (hx : x < 4294967296) :
    Calls Try.prog 21 #[.agg #[.int .u32 a, .int .i64 b], .int .u32 x] w fun e w' => e = .returned (.bool (has a b x)) ∧ Below w.heap.size w w' := by
  by_cases h : chk a b = 0
  · obtain ⟨h0, h1, h2⟩ := chk_ok h
    obtain ⟨n, rfl⟩ := Int.eq_ofNat_of_zero_le h0
    have hn : n ≤ 32 := by omega
    have HK : Hid (∀ w', Calls Try.prog 22 #[.agg #[.int .u32 a, .int .i64 n]] w' fun e w'' => e = .returned (.int .i64 0) ∧ Below w'.heap.size w' w'') := fun w' => by
      have := check_any a n w' ha
      rwa [h] at this
    have HH : Hid (has a n x = ((((x - x % 2 ^ (32 - n) : Nat) : Int)) == (a : Int))) := by
      show _ = _
      unfold has wid; rw [h, Int.toNat_natCast, Bool.eq_iff_iff]; simp
      omega
    have hand : bits .andNot .u32 (x : Int) ((2 ^ (32 - n) - 1 : Nat) : Int) = ((x - x % 2 ^ (32 - n) : Nat) : Int) := by
      rw [u32_andNot_nat _ _ hx (by have := pow_le n; have := pow_pos n; omega), keep_high x (32 - n) hx (by omega)]
    have HB : Hid (∀ w', Calls Try.prog 34 #[.int .i64 n] w' fun e w'' => e = .returned (.int .u32 ((2 ^ (32 - n) - 1 : Nat) : Int)) ∧ w'' = w') := fun w' => behind_any n w' hn
    generalize (2 ^ (32 - n) - 1 : Nat) = M at *
    generalize (x - x % 2 ^ (32 - n) : Nat) = R at *
    clear h h2
    go_enter Try.func21, Try.ntmps21
    go_wp2
    have C0 : Hid (∀ w1, Below (w.alloc (.cells #[.int .u32 (a : Int), .int .i64 (n : Int)] 34)).drew.heap.size (w.alloc (.cells #[.int .u32 (a : Int), .int .i64 (n : Int)] 34)).drew w1 → w1.cell? ⟨w.heap.size, 0, none⟩ = some (.int .u32 (a : Int))) := fun w1 hb => by
      rw [hb.cell (p := ⟨w.heap.size, 0, none⟩) (by simp [World.drew])]; simp [go_sem]
    have C1 : Hid (∀ w1, Below (w.alloc (.cells #[.int .u32 (a : Int), .int .i64 (n : Int)] 34)).drew.heap.size (w.alloc (.cells #[.int .u32 (a : Int), .int .i64 (n : Int)] 34)).drew w1 → w1.cell? ⟨w.heap.size, 1, none⟩ = some (.int .i64 (n : Int))) := fun w1 hb => by
      rw [hb.cell (p := ⟨w.heap.size, 1, none⟩) (by simp [World.drew])]; simp [go_sem]
    go_region_held3 (fun w' => w'.cell? ⟨w.heap.size, 0, none⟩ = some (.int .u32 (a : Int)) ∧ w'.cell? ⟨w.heap.size, 1, none⟩ = some (.int .i64 (n : Int))) (go_keep) (first | (go_at_call 22; refine (HK.out _).mono ?_; rintro e w1 ⟨rfl, hb1⟩; have d0 := C0.out w1 hb1; have d1 := C1.out w1 hb1) | (go_at_call 34; refine (HB.out _).mono ?_; rintro e w1 ⟨rfl, rfl⟩))
    all_goals
      go_wp2
      go_ret
      exact ⟨ret_bool HH.out.symm, (((Below.refl _ _).alloc (Nat.le_refl _) _).drew).trans (hb1.mono (by simp [World.drew]))⟩
  · have HH : Hid (has a b x = false) := by show _ = _; unfold has; simp [h]
    have HK : Hid (∀ w', Calls Try.prog 22 #[.agg #[.int .u32 a, .int .i64 b]] w' fun e w'' => e = .returned (.int .i64 (chk a b)) ∧ Below w'.heap.size w' w'') := fun w' => check_any a b w' ha
    rcases chk_cases a b with h2 | h2 | h2
    · exact absurd h2 h
    all_goals
      rw [h2] at HK
      clear h h2
      go_enter Try.func21, Try.ntmps21
      go_wp2
      refine wp_region_any (by kernel_rfl) ?_
      change wpAny _ _ _ _ _ _ _ (World.drew _)
      refine wpAny_ready (rs := [0]) (by kernel_rfl) (by simp) ?_
      refine AllReady.cons rfl (fun K hK => ?_) AllReady.nil
      go_simp
      refine hK _ _ ?_
      clear hK K
      refine wpAny_ready (rs := [1]) (by kernel_rfl) (by simp) ?_
      refine AllReady.cons rfl (fun K hK => ?_) AllReady.nil
      go_simp
      refine (HK.out _).mono ?_
      rintro e w1 ⟨rfl, hb1⟩
      refine hK _ _ ?_
      clear hK K
      refine wpAny_ready (rs := [2]) (by kernel_rfl) (by simp) ?_
      refine AllReady.cons rfl (fun K hK => ?_) AllReady.nil
      go_simp
      refine hK _ _ ?_
      clear hK K
      refine wpAny_ready (rs := [3]) (by kernel_rfl) (by simp) ?_
      refine AllReady.cons rfl (fun K hK => ?_) AllReady.nil
      go_simp
      refine hK _ _ ?_
      clear hK K
      refine wpAny_take (i := 4) (v := undef) rfl (by kernel_rfl) (by kernel_rfl) (by kernel_rfl) (fun _ _ _ h => h) (Or.inr ⟨by rfl, rfl⟩) ?_
      refine wpAny_take (i := 5) (v := undef) rfl (by kernel_rfl) (by kernel_rfl) (by kernel_rfl) (fun _ _ _ h => h) (Or.inr ⟨by rfl, rfl⟩) ?_
      refine wpAny_take (i := 6) (v := undef) rfl (by kernel_rfl) (by kernel_rfl) (by kernel_rfl) (fun _ _ _ h => h) (Or.inr ⟨by rfl, rfl⟩) ?_
      refine wpAny_take (i := 7) (v := undef) rfl (by kernel_rfl) (by kernel_rfl) (by kernel_rfl) (fun _ _ _ h => h) (Or.inr ⟨by rfl, rfl⟩) ?_
      refine wpAny_take (i := 8) (v := undef) rfl (by kernel_rfl) (by kernel_rfl) (by kernel_rfl) (fun _ _ _ h => h) (Or.inr ⟨by rfl, rfl⟩) ?_
      refine wpAny_take (i := 9) (v := undef) rfl (by kernel_rfl) (by kernel_rfl) (by kernel_rfl) (fun _ _ _ h => h) (Or.inr ⟨by rfl, rfl⟩) ?_
      refine wpAny_take (i := 10) (v := undef) rfl (by kernel_rfl) (by kernel_rfl) (by kernel_rfl) (fun _ _ _ h => h) (Or.inr ⟨by rfl, rfl⟩) ?_
      refine wpAny_take (i := 11) (v := undef) rfl (by kernel_rfl) (by kernel_rfl) (by kernel_rfl) (fun _ _ _ h => h) (Or.inr ⟨by rfl, rfl⟩) ?_
      refine wpAny_ready (rs := [12]) (by kernel_rfl) (by simp) ?_
      refine AllReady.cons rfl (fun K hK => ?_) AllReady.nil
      go_simp
      refine hK _ _ ?_
      clear hK K
      refine wpAny_ready (rs := [13]) (by kernel_rfl) (by simp) ?_
      refine AllReady.cons rfl (fun K hK => ?_) AllReady.nil
      go_simp
      refine hK _ _ ?_
      clear hK K
      refine wpAny_done (by kernel_rfl) ?_ _
      go_wp2
      go_ret
      exact ⟨ret_bool HH.out.symm, (((Below.refl _ _).alloc (Nat.le_refl _) _).drew).trans (hb1.mono (by simp [World.drew]))⟩
end Go.Proofs.Ytchmfbfijglokaa
