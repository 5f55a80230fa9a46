/-
  What a cookie is made of: slots, steps; package cookie's small functions.
-/
import Derived.Test.YtoococeaanndkaaDoorBa
import Derived.Deep.MidRow
import Derived.Deep.CutBlock
import Derived.Lib.LaidTab
import Derived.MakeChecks
namespace Go.Proofs.YtoococeaanndkaaDoor
open Go.RowKit
set_option linter.unusedVariables false
set_option linter.unusedSimpArgs false

/-- The STEPS. -/
def sv : Nat → Int
  | 0 => 8
  | 1 => 64
  | 2 => 216
  | 3 => 400
  | 4 => 536
  | 5 => 700
  | 6 => 850
  | _ => 1000
def stp : List Value := [.int .i64 8, .int .i64 64, .int .i64 216, .int .i64 400, .int .i64 536, .int .i64 700, .int .i64 850, .int .i64 1000]
/-- The greatest of the first k steps that is not above m. -/
def stk (m : Int) : Nat → Nat
  | 0 => 0
  | k + 1 => if sv k ≤ m then k else stk m k
theorem stk_lt (m : Int) : ∀ k, stk m k < k + 1
  | 0 => by simp [stk]
  | k + 1 => by
    have := stk_lt m k
    simp only [stk]; split <;> omega
/-- The number of the greatest of the STEPS that is not above m. -/
def st (m : Int) : Nat := stk m 8
theorem st_lt (m : Int) : st m < 8 := by
  have : ∀ k, 0 < k → stk m k < k := fun k hk => by
    cases k with
    | zero => omega
    | succ k =>
      have := stk_lt m k
      simp only [stk]; split <;> omega
  exact this 8 (by omega)
theorem st_le (m : Int) (h : 8 ≤ m) : sv (st m) ≤ m := by
  have : ∀ k, sv (stk m k) ≤ m := fun k => by
    induction k with
    | zero => exact h
    | succ k ih => simp only [stk]; split <;> assumption
  exact this 8
/-- SLOT. -/
def sl (n : Int) : Int := n / 64 % 32
theorem sl_bounds (n : Int) : 0 ≤ sl n ∧ sl n < 32 := ⟨Int.emod_nonneg _ (by decide), Int.emod_lt_of_pos _ (by decide)⟩

/-- The steps lie in the package's variable. -/
def Tab (w : World) : Prop := w.rangeAt 0 0 stp
theorem Tab.size {w : World} (h : Tab w) : 0 < w.heap.size := by
  have := h 0 _ rfl
  rcases Nat.eq_zero_or_pos w.heap.size with h0 | h0
  · simp [World.cell?, Array.eq_empty_of_size_eq_zero h0] at this
  · exact h0
theorem Tab.keep {w w1 : World} {B : Nat} (h : Tab w) (hB : 0 < B) (hb : Below B w w1) : Tab w1 := fun j u hu => by
  have := h j u hu
  have e : w1.heap[0]? = w.heap[0]? := hb.block 0 hB
  simpa [World.cell?, e] using this
theorem Tab.below {w w1 : World} (h : Tab w) (hb : Below w.heap.size w w1) : Tab w1 := h.keep h.size hb
theorem Tab.cell {w : World} (h : Tab w) (k : Nat) (hk : k < 8) : w.cell? ⟨0, k, none⟩ = some (.int .i64 (sv k)) := by
  have h8 : k = 0 ∨ k = 1 ∨ k = 2 ∨ k = 3 ∨ k = 4 ∨ k = 5 ∨ k = 6 ∨ k = 7 := by omega
  rcases h8 with rfl | rfl | rfl | rfl | rfl | rfl | rfl | rfl <;> simpa using h _ _ rfl
theorem infoSteps : (Tryd.prog.info? 42).map (·.size) = some stp.length := by kernel_rfl
theorem idx_steps (k : Nat) (hk : k < 8) (w : World) : (Instr.index 42 (.agg stp.toArray) (.int .i64 k)).run Tryd.prog w = .ok (.int .i64 (sv k)) w := by
  have h8 : k = 0 ∨ k = 1 ∨ k = 2 ∨ k = 3 ∨ k = 4 ∨ k = 5 ∨ k = 6 ∨ k = 7 := by omega
  rcases h8 with rfl | rfl | rfl | rfl | rfl | rfl | rfl | rfl <;> rfl

theorem istime_any (n : Int) (w : World) : Calls Tryd.prog 13 #[.int .i64 n] w fun e w' => e = .returned (.bool (decide (0 ≤ n ∧ n ≤ 1099511627776))) ∧ w' = w := by
  by_cases h0 : 0 ≤ n
  · go_enter Tryd.func13, Tryd.ntmps13
    go_wp2_with fail
    go_ret
    exact ⟨ret_bool (by simp [h0] <;> omega), rfl⟩
  · go_enter Tryd.func13, Tryd.ntmps13
    go_wp2_with fail
    go_ret
    exact ⟨ret_bool (by simp [h0] <;> omega), rfl⟩
theorem outside_any (n lo hi : Int) (w : World) : Calls Tryd.prog 17 #[.int .i64 n, .int .i64 lo, .int .i64 hi] w fun e w' => e = .returned (.bool (decide (n < lo ∨ hi < n))) ∧ w' = w := by
  by_cases h0 : n < lo
  · go_enter Tryd.func17, Tryd.ntmps17
    go_wp2_with fail
    go_ret
    exact ⟨ret_bool (by simp [h0] <;> omega), rfl⟩
  · go_enter Tryd.func17, Tryd.ntmps17
    go_wp2_with fail
    go_ret
    exact ⟨ret_bool (by simp [h0] <;> omega), rfl⟩
theorem wraps_u32' (n : Int) (h0 : 0 ≤ n) (h1 : n < 2 ^ 32) : IntKind.u32.wrap n = n := by rw [IntKind.wrap_u32]; omega
theorem and31 (n : Int) (h : 0 ≤ n) : bits .and .u32 (IntKind.u32.wrap n) 31 = n % 32 := by
  have := bits_mask .u32 32 (by decide) wraps_u32' 5 (by decide) (IntKind.u32.wrap n) (by rw [IntKind.wrap_u32]; omega) (by rw [IntKind.wrap_u32]; omega)
  have e : ((2 : Int) ^ 5 - 1) = 31 := by decide
  rw [e] at this
  rw [this, IntKind.wrap_u32]
  omega
theorem slot_any (n : Int) (h0 : 0 ≤ n) (h1 : n ≤ 9223372036854775807) (w : World) : Calls Tryd.prog 15 #[.int .i64 n] w fun e w' => e = .returned (.int .u32 (sl n)) ∧ w' = w := by
  have H : Hid (bits .and .u32 (n / 64 % 4294967296) 31 = sl n) := by
    have := and31 (n / 64) (by omega)
    rwa [IntKind.wrap_u32] at this
  have e : n.tdiv 64 = n / 64 := Int.tdiv_eq_ediv_of_nonneg h0
  go_enter Tryd.func15, Tryd.ntmps15
  go_wp2_with fail
  go_ret
  refine ⟨ret_int ?_, rfl⟩
  rw [← H.out]; try rw [e]
theorem counts_any (s n : Int) (h0 : 0 ≤ n) (h1 : n ≤ 9223372036854775807) (w : World) : Calls Tryd.prog 19 #[.int .u32 s, .int .i64 n] w fun e w' => e = .returned (.bool (decide (s = sl n ∨ (64 ≤ n ∧ s = sl (n - 64))))) ∧ w' = w := by
  have H1 : Hid (∀ w, Calls Tryd.prog 15 #[.int .i64 n] w fun e w' => e = .returned (.int .u32 (sl n)) ∧ w' = w) := fun w => slot_any n h0 h1 w
  have H2 : Hid (64 ≤ n → ∀ w, Calls Tryd.prog 15 #[.int .i64 (n - 64)] w fun e w' => e = .returned (.int .u32 (sl (n - 64))) ∧ w' = w) := fun h w => slot_any (n - 64) (by omega) (by omega) w
  generalize sl n = S at *
  generalize sl (n - 64) = T at *
  by_cases hs : s = S
  · go_enter Tryd.func19, Tryd.ntmps19
    go_wp2_with fail
    refine (H1.out _).mono ?_; rintro e w1 ⟨rfl, rfl⟩
    go_wp2_with fail
    go_ret
    exact ⟨ret_bool (by simp [hs]), rfl⟩
  · by_cases hn : 64 ≤ n
    · go_enter Tryd.func19, Tryd.ntmps19
      go_wp2_with fail
      refine (H1.out _).mono ?_; rintro e w1 ⟨rfl, rfl⟩
      go_wp2_with fail
      refine (H2.out hn _).mono ?_; rintro e w1 ⟨rfl, rfl⟩
      go_wp2_with fail
      go_ret
      exact ⟨ret_bool (by first | (rw [Bool.eq_iff_iff]; simp [hs, hn]; done) | (simp [hs]; omega) | (rw [Bool.eq_iff_iff]; simp [hs]; omega)), rfl⟩
    · go_enter Tryd.func19, Tryd.ntmps19
      go_wp2_with fail
      refine (H1.out _).mono ?_; rintro e w1 ⟨rfl, rfl⟩
      go_wp2_with fail
      go_ret
      exact ⟨ret_bool (by first | (rw [Bool.eq_iff_iff]; simp [hs, hn]; done) | (simp [hs]; omega) | (rw [Bool.eq_iff_iff]; simp [hs]; omega)), rfl⟩
set_option maxHeartbeats 1000000 in
theorem step_any (m : Int) (w : World) (hT : Tab w) : Calls Tryd.prog 16 #[.int .i64 m] w fun e w' => e = .returned (.int .u32 (st m)) ∧ w' = w := by
  have HT := Lib.hid hT
  have HU := Lib.hid Tryd.underlying42
  have HX : Hid (∀ k : Nat, k < 8 → ∀ w, (Instr.index 42 (.agg stp.toArray) (.int .i64 k)).run Tryd.prog w = .ok (.int .i64 (sv k)) w) := idx_steps
  have hlt := st_lt m
  clear hT
  go_enter Tryd.func16, Tryd.ntmps16
  go_wp2_with (refine wpList_load_mid rfl 42 _ rfl _ _ rfl stp _ HT.out HU.out rfl infoSteps ?_)
  generalize stp.toArray = A at *
  go_loopw [3, 4, 5, 7] (fun n _ _ i W => ∃ k : Nat, k ≤ 8 ∧ i = .int .i64 k ∧ n = .int .i64 (stk m k) ∧ W = w) (fun _ _ _ i _ => 8 - (intOf i).toNat)
  case atStart => exact ⟨0, by omega, rfl, rfl, rfl⟩
  case round =>
    obtain ⟨k, hk, rfl, rfl, rfl⟩ := hrel
    by_cases hlt : k < 8
    · have hx := HX.out k hlt
      have e1 : stk m (k + 1) = if sv k ≤ m then k else stk m k := rfl
      by_cases hc : sv k ≤ m
      · rw [if_pos hc] at e1
        generalize sv k = V at *
        go_wp2_with fail
        go_roundw
        case rel => exact ⟨k + 1, by omega, by go_num, by rw [e1], trivial⟩
        case measure => simp [intOf]; omega
      · rw [if_neg hc] at e1
        generalize sv k = V at *
        go_wp2_with fail
        go_roundw
        case rel => exact ⟨k + 1, by omega, by go_num, by rw [e1], trivial⟩
        case measure => simp [intOf]; omega
    · obtain rfl : k = 8 := by omega
      have e : stk m 8 = st m := rfl
      rw [e]
      go_wp2_with fail
      go_ret
      refine ⟨ret_int ?_, rfl⟩
      go_num
end Go.Proofs.YtoococeaanndkaaDoor
