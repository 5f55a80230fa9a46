/-
  Contracts of the document's answer's functions of prefixes: outside, PrefixCheck, PrefixPrint, PrefixHas.
-/
import Derived.Test.YthdmbggpokaggaaDoorRefA
import Derived.Test.YthdmbggpokaggaaDoorRef
import Derived.Test.YthdmbggpokaggaaDoorRefPr
import Derived.Test.YthdmbggpokaggaaDoorPref
namespace Go.Proofs.YthdmbggpokaggaaDoor
open Go.RowKit
set_option linter.unusedVariables false

theorem outside_any (n lo hi : Int) (w : World) :
    Calls Tryd.prog 32 #[.int .i64 n, .int .i64 lo, .int .i64 hi] w fun e w' => e = .returned (.bool (decide (n < lo ∨ hi < n))) ∧ w' = w := by
  by_cases h0 : n < lo
  · rw [show decide (n < lo ∨ hi < n) = true by simp; exact .inl h0]
    go_enter Tryd.func32, Tryd.ntmps32
    go_wp2
    go_ret
    exact ⟨rfl, rfl⟩
  · by_cases h1 : hi < n
    · rw [show decide (n < lo ∨ hi < n) = true by simp; exact .inr h1]
      go_enter Tryd.func32, Tryd.ntmps32
      go_wp2
      go_ret
      exact ⟨rfl, rfl⟩
    · rw [show decide (n < lo ∨ hi < n) = false by simp; omega]
      go_enter Tryd.func32, Tryd.ntmps32
      go_wp2
      go_ret
      exact ⟨rfl, rfl⟩

set_option maxHeartbeats 1000000 in
theorem rcheck_any (a : Nat) (b : Int) (w : World) (ha : a < 4294967296) :
    Calls Tryd.prog 17 #[.agg #[.int .u32 a, .int .i64 b]] w fun e w' => e = .returned (.int .i64 (chk a b)) ∧ Below w.heap.size w w' := by
  by_cases h0 : b < 0 ∨ 32 < b
  · have HO : Hid (∀ w', Calls Tryd.prog 32 #[.int .i64 b, .int .i64 0, .int .i64 32] w' fun e w'' => e = .returned (.bool true) ∧ w'' = w') := fun w' => by
      have := outside_any b 0 32 w'
      rwa [show decide (b < 0 ∨ 32 < b) = true by simpa using h0] at this
    have hk := Lib.hid (show chk a b = 1 by unfold chk; rw [if_pos h0])
    clear h0
    go_enter Tryd.func17, Tryd.ntmps17
    go_wp2_with fail
    refine (HO.out _).mono ?_; rintro e w1 ⟨rfl, rfl⟩
    go_wp2
    go_ret
    exact ⟨by rw [hk.out]; rfl, (Below.refl _ _).alloc (Nat.le_refl _) _⟩
  · obtain ⟨n, rfl⟩ := Int.eq_ofNat_of_zero_le (show 0 ≤ b by omega)
    have hn : n ≤ 32 := by omega
    have HO : Hid (∀ w', Calls Tryd.prog 32 #[.int .i64 n, .int .i64 0, .int .i64 32] w' fun e w'' => e = .returned (.bool false) ∧ w'' = w') := fun w' => by
      have := outside_any n 0 32 w'
      rwa [show decide ((n : Int) < 0 ∨ 32 < (n : Int)) = false by simpa using h0] at this
    have HC : Hid (chk a n = if a % 2 ^ (32 - n) = 0 then 0 else 4) := by
      show _ = _
      unfold chk wid; rw [if_neg (by omega), Int.toNat_natCast]
    have hS : IntKind.u64.wrap ((2 : Int) ^ (32 - n)) = ((2 ^ (32 - n) : Nat) : Int) := by
      have := pow_top n
      have e2 : (2 : Int) ^ (32 - n) = ((2 ^ (32 - n) : Nat) : Int) := by simp
      rw [e2]
      generalize (2 ^ (32 - n) : Nat) = S at *
      rw [IntKind.wrap_u64]; omega
    have h1 := pow_top n
    have h2 := Nat.two_pow_pos (32 - n)
    have hb2 : (n : Int) ≤ 32 := by omega
    have hR : ((a : Int).tmod ((2 ^ (32 - n) : Nat) : Int)) = ((a % 2 ^ (32 - n) : Nat) : Int) := rfl
    have hR2 : ((a : Int) % ((2 ^ (32 - n) : Nat) : Int)) = ((a % 2 ^ (32 - n) : Nat) : Int) := rfl
    have hRl : a % 2 ^ (32 - n) < 2 ^ (32 - n) := Nat.mod_lt _ h2
    clear h0
    generalize a % 2 ^ (32 - n) = R at *
    generalize (2 ^ (32 - n) : Nat) = S at *
    go_enter Tryd.func17, Tryd.ntmps17
    go_wp2_with fail
    refine (HO.out _).mono ?_; rintro e w1 ⟨rfl, rfl⟩
    by_cases hR0 : R = 0
    · subst hR0
      go_wp2
      go_quiet (fail)
      go_wp2
      go_ret
      exact ⟨by rw [HC.out]; rfl, below_drewN ((Below.refl _ _).alloc (Nat.le_refl _) _) _⟩
    · have hz : ((R : Int) == 0) = false := by simp; omega
      go_wp2
      go_quiet (fail)
      go_wp2
      go_ret
      exact ⟨by rw [HC.out, if_neg hR0]; rfl, below_drewN ((Below.refl _ _).alloc (Nat.le_refl _) _) _⟩
theorem rpprint_no (a : Nat) (b : Int) (w : World) (ha : a < 4294967296) (hc : chk a b ≠ 0) :
    Calls Tryd.prog 15 #[.agg #[.int .u32 a, .int .i64 b]] w fun e w' => e = .returned (.tuple #[.string ByteArray.empty, .int .i64 (chk a b)]) ∧ Below w.heap.size w w' := by
  have HK : Hid (∀ w', Calls Tryd.prog 17 #[.agg #[.int .u32 a, .int .i64 b]] w' fun e w'' => e = .returned (.int .i64 (chk a b)) ∧ Below w'.heap.size w' w'') := fun w' => rcheck_any a b w' ha
  have hz : (chk a b == 0) = false := by simpa using hc
  generalize chk a b = C at *
  clear hc
  go_enter Tryd.func15, Tryd.ntmps15
  go_wp2_with fail
  refine (HK.out _).mono ?_; rintro e w1 ⟨rfl, hb1⟩
  go_wp2
  go_ret2
  exact ⟨rfl, ((Below.refl _ _).alloc (Nat.le_refl _) _).trans (hb1.mono (by simp))⟩

set_option maxHeartbeats 2000000 in
theorem rpprint_yes (a b : Nat) (w : World) (ha : a < 4294967296) (hb : b ≤ 32) (hc : chk a (b : Int) = 0) :
    Calls Tryd.prog 15 #[.agg #[.int .u32 a, .int .i64 b]] w fun e w' => e = .returned (.tuple #[.string ⟨(pprtL a b).toArray⟩, .int .i64 0]) ∧ Below w.heap.size w w' := by
  have HK : Hid (∀ w', Calls Tryd.prog 17 #[.agg #[.int .u32 a, .int .i64 b]] w' fun e w'' => e = .returned (.int .i64 0) ∧ Below w'.heap.size w' w'') := fun w' => by
    have := rcheck_any a b w' ha
    rwa [hc] at this
  have HPr : Hid (∀ w', Calls Tryd.prog 11 #[.int .u32 a] w' fun e w'' => e = .returned (.string ⟨(prtL a).toArray⟩) ∧ Below w'.heap.size w' w'') := fun w' => rprint_any a ha w'
  have HIt : Hid (∀ w', Calls Tryd.prog 29 #[.int .i64 b] w' fun e w'' => e = .returned (.string ⟨(Lib.decDigits b).toArray⟩) ∧ Below w'.heap.size w' w'') := fun w' => digits_any b w' (by omega)
  have N1 : Hid (∀ W W1 : World, ∀ (p : Addr) (v : Value), Below W.heap.size W W1 → W.cell? p = some v → W1.cell? p = some v) := fun W W1 p v hb hc => by
    rw [hb.cell (World.block_lt_of_cell? W _ hc)]; exact hc
  have l1 := prt_len a ha
  have l2 := dec_len b (by omega)
  have HE : Hid ((⟨(pprtL a b).toArray⟩ : ByteArray) = ((⟨(prtL a).toArray⟩ : ByteArray) ++ ⟨#[47]⟩) ++ ⟨(Lib.decDigits b).toArray⟩) := by
    show _ = _
    rw [show (⟨#[47]⟩ : ByteArray) = ⟨[47].toArray⟩ from rfl]
    simp only [ba_app]
    unfold pprtL
    simp
  have ad1 : ∀ w', (Op.stringOp .add (⟨(prtL a).toArray⟩ : ByteArray) ⟨#[47]⟩).run Tryd.prog w' = .ok (.string ((⟨(prtL a).toArray⟩ : ByteArray) ++ ⟨#[47]⟩)) w' := fun w' => run_string_add_sum w' _ _ (by rw [ba_size]; show (prtL a).length + 1 ≤ _; omega)
  have ad2 : ∀ w', (Op.stringOp .add ((⟨(prtL a).toArray⟩ : ByteArray) ++ ⟨#[47]⟩) ⟨(Lib.decDigits b).toArray⟩).run Tryd.prog w' = .ok (.string ((⟨(prtL a).toArray⟩ : ByteArray) ++ ⟨#[47]⟩ ++ ⟨(Lib.decDigits b).toArray⟩)) w' := fun w' => run_string_add_sum w' _ _ (by rw [ByteArray.size_append, ba_size (prtL a), ba_size (Lib.decDigits b)]; show (prtL a).length + 1 + _ ≤ _; omega)
  clear hc
  generalize (⟨(prtL a).toArray⟩ : ByteArray) ++ ⟨#[47]⟩ ++ ⟨(Lib.decDigits b).toArray⟩ = Z3 at *
  generalize (⟨(prtL a).toArray⟩ : ByteArray) ++ ⟨#[47]⟩ = Z2 at *
  generalize (⟨(prtL a).toArray⟩ : ByteArray) = Z1 at *
  generalize (⟨(Lib.decDigits b).toArray⟩ : ByteArray) = Z0 at *
  have c0 : (w.alloc (.cells #[.int .u32 (a : Int), .int .i64 (b : Int)] 29)).cell? ⟨w.heap.size, 0, none⟩ = some (.int .u32 (a : Int)) := by simp [go_sem]
  have c1 : (w.alloc (.cells #[.int .u32 (a : Int), .int .i64 (b : Int)] 29)).cell? ⟨w.heap.size, 1, none⟩ = some (.int .i64 (b : Int)) := by simp [go_sem]
  have b0 : Below w.heap.size w (w.alloc (.cells #[.int .u32 (a : Int), .int .i64 (b : Int)] 29)) := (Below.refl _ _).alloc (Nat.le_refl _) _
  have C0 := Lib.hid c0
  have C1 := Lib.hid c1
  clear c0 c1
  go_enter Tryd.func15, Tryd.ntmps15
  go_wp2_with fail
  refine (HK.out _).mono ?_; rintro e w1 ⟨rfl, hb1⟩
  have d0 := N1.out _ _ _ _ hb1 C0.out
  have d1 := N1.out _ _ _ _ hb1 C1.out
  have b1 := b0.trans (hb1.mono (by simp))
  have s1 := b1.size
  go_wp2
  go_region_held3 (fun w' => w'.cell? ⟨w.heap.size, 0, none⟩ = some (.int .u32 (a : Int)) ∧ w'.cell? ⟨w.heap.size, 1, none⟩ = some (.int .i64 (b : Int))) (go_keep) ((first | (go_at_call 11; refine (HPr.out _).mono ?_; rintro e w2 ⟨rfl, hb2⟩; have s2 := hb2.size; have e0 := N1.out _ _ ⟨w.heap.size, 0, none⟩ (.int .u32 (a : Int)) hb2 (by simp [go_sem, *]); have e1 := N1.out _ _ ⟨w.heap.size, 1, none⟩ (.int .i64 (b : Int)) hb2 (by simp [go_sem, *])) | (go_at_call 29; refine (HIt.out _).mono ?_; rintro e w3 ⟨rfl, hb3⟩; have g0 := N1.out _ _ ⟨w.heap.size, 0, none⟩ (.int .u32 (a : Int)) hb3 (by simp [go_sem, *]); have g1 := N1.out _ _ ⟨w.heap.size, 1, none⟩ (.int .i64 (b : Int)) hb3 (by simp [go_sem, *]))))
  all_goals
    go_wp2
    go_ret2
    exact ⟨by rw [HE.out]; rfl, (b1.drew.trans (hb2.mono s1)).trans (hb3.mono (Nat.le_trans s1 s2))⟩

end Go.Proofs.YthdmbggpokaggaaDoor
