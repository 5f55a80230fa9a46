/-
  The contract of the document's answer's count: a text's number, by numL.
-/
import Derived.Test.YthdmbggpokaggaaDoorRefT
namespace Go.Proofs.YthdmbggpokaggaaDoor
open Go.RowKit
set_option linter.unusedVariables false

/-- The number that a text says, -1 where it says none up to most. -/
def cnt (most : Nat) (l : List UInt8) : Int := match numL most l with | none => -1 | some n => (n : Int)
theorem cnt_none {most : Nat} {l : List UInt8} (h : numL most l = none) : cnt most l = -1 := by unfold cnt; rw [h]
theorem cnt_some {most n : Nat} {l : List UInt8} (h : numL most l = some n) : cnt most l = n := by unfold cnt; rw [h]
theorem numL_long (most : Nat) (l : List UInt8) (hm : most ≤ 255) (h : 18 < l.length) : numL most l = none := by
  cases hn : numL most l with
  | none => rfl
  | some n =>
    have := dec_of_numL hn
    have h3 := dec_len n (by omega)
    rw [this.1] at h; omega
/-- numL by the whole number, not on the way. -/
theorem numL_end (most : Nat) (l : List UInt8) (hf : fine l = true) : numL most l = if l.all isDig = true ∧ val l ≤ most then some (val l) else none := by
  unfold numL
  rw [if_pos hf, walkN_eq]
  have hne : l ≠ [] := by unfold fine at hf; simp only [decide_eq_true_eq] at hf; exact hf.1
  unfold val
  simp only [hne, or_false]
theorem foldl_pow (l : List UInt8) : ∀ n, l.all isDig = true → l.foldl (fun n c => n * 10 + dig c) n < (n + 1) * 10 ^ l.length := by
  induction l with
  | nil => intro n _; simp
  | cons c l ih =>
    intro n h
    rw [List.all_cons, Bool.and_eq_true] at h
    have h1 := ih (n * 10 + dig c) h.2
    have h2 := dig_le h.1
    rw [List.foldl_cons, List.length_cons, Nat.pow_succ]
    refine Nat.lt_of_lt_of_le h1 ?_
    rw [Nat.mul_comm (10 ^ l.length) 10, ← Nat.mul_assoc]
    exact Nat.mul_le_mul_right _ (by omega)
theorem val_pow (l : List UInt8) (h : l.all isDig = true) : val l < 10 ^ l.length := by
  have := foldl_pow l 0 h
  unfold val
  omega

set_option maxHeartbeats 2000000 in
theorem count_any (most : Nat) (l : List UInt8) (w : World) (hl : l.length ≤ 281474976710656) (hm : most ≤ 255) :
    Calls Tryd.prog 26 #[.string ⟨l.toArray⟩, .int .i64 most] w fun e w' => e = .returned (.int .i64 (cnt most l)) ∧ w' = w := by
  by_cases h0 : l = []
  · subst h0
    rw [cnt_none (show numL most [] = none from rfl)]
    go_enter Tryd.func26, Tryd.ntmps26
    go_wp2
    go_ret
    exact ⟨rfl, rfl⟩
  · have hne := ba_ne l h0
    have hlen : 1 ≤ l.length := by cases l; exact absurd rfl h0; simp
    have hz := ba_size l
    by_cases h18 : 18 < l.length
    · rw [cnt_none (numL_long most l hm h18)]
      have h18' : (18 : Int) < (l.length : Int) := by omega
      generalize (⟨l.toArray⟩ : ByteArray) = S at *
      go_enter Tryd.func26, Tryd.ntmps26
      go_wp2
      go_ret
      exact ⟨rfl, rfl⟩
    · have h18' : ¬ (18 : Int) < (l.length : Int) := by omega
      have ix0 := ba_index l 0 (by omega)
      by_cases h1 : 1 < l.length ∧ l[0].toNat = 48
      · have hn : numL most l = none := by
          unfold numL
          rw [if_neg]
          unfold fine
          simp only [decide_eq_true_eq]
          rintro ⟨_, h⟩
          refine h ⟨h1.1, ?_⟩
          rw [List.head?_eq_getElem?, List.getElem?_eq_getElem (by omega)]
          congr 1
          exact UInt8.toNat_inj.1 h1.2
        rw [cnt_none hn]
        obtain ⟨h2, h3⟩ := h1
        rw [h3] at ix0
        have h2' : (1 : Int) < (l.length : Int) := by omega
        have ix1 : ∀ w', (Instr.index 9 (.string ⟨l.toArray⟩) (.int .i64 0)).run Tryd.prog w' = .ok (.int .u8 48) w' := ix0
        clear ix0
        generalize (⟨l.toArray⟩ : ByteArray) = S at *
        go_enter Tryd.func26, Tryd.ntmps26
        go_wp2
        go_ret
        exact ⟨rfl, rfl⟩
      · have hf : fine l = true := by
          unfold fine
          simp only [decide_eq_true_eq]
          refine ⟨h0, fun h => h1 ⟨h.1, ?_⟩⟩
          have h2 := h.2
          rw [List.head?_eq_getElem?, List.getElem?_eq_getElem (by omega)] at h2
          rw [Option.some.inj h2]; rfl
        have HN : Hid (numL most l = if l.all isDig = true ∧ val l ≤ most then some (val l) else none) := numL_end most l hf
        have hcase : ¬ (1 < (l.length : Int)) ∨ (1 < (l.length : Int) ∧ ((l[0].toNat : Int) == 48) = false) := by
          by_cases h2 : 1 < l.length
          · right; exact ⟨by omega, by simp; exact fun h => h1 ⟨h2, by omega⟩⟩
          · left; omega
        have IX : Hid (∀ (k : Nat) (hk : k < l.length) (w' : World), (Instr.index 9 (.string ⟨l.toArray⟩) (.int .i64 (k : Int))).run Tryd.prog w' = .ok (.int .u8 (l[k].toNat : Int)) w') := fun k hk w' => ba_index l k hk w'
        have ix1 : ∀ w', (Instr.index 9 (.string ⟨l.toArray⟩) (.int .i64 0)).run Tryd.prog w' = .ok (.int .u8 (l[0].toNat : Int)) w' := ix0
        have hb0 : l[0].toNat < 256 := l[0].toNat_lt
        have HV : Hid (∀ k, k ≤ l.length → (l.take k).all isDig = true → val (l.take k) < 1000000000000000000) := fun k hk h => by
          have := val_pow _ h
          refine Nat.lt_of_lt_of_le this ?_
          rw [List.length_take, Nat.min_eq_left hk]
          exact Nat.le_trans (Nat.pow_le_pow_right (by omega) (show k ≤ 18 by omega)) (by decide)
        clear ix0 hf h1
        generalize (⟨l.toArray⟩ : ByteArray) = S at *
        generalize hc0 : l[0].toNat = c0 at *
        clear hc0
        rcases hcase with hc | ⟨hc, hc2⟩
        all_goals
          go_enter Tryd.func26, Tryd.ntmps26
          go_wp2
          go_loop [5, 26] (fun n i => ∃ k : Nat, k ≤ l.length ∧ i = .int .i64 k ∧ ∃ m : Nat, n = .int .i64 m ∧ m < 1000000000000000000 ∧ Hid ((l.take k).all isDig = true ∧ val (l.take k) = m)) (fun _ i => l.length - (RowKit.intOf i).toNat)
          case atStart => exact ⟨0, by omega, rfl, 0, rfl, by omega, ⟨by simp, by simp [val]⟩⟩
          case round =>
            obtain ⟨k, hk, rfl, m, rfl, hmm, HW⟩ := hrel
            by_cases hlt : k < l.length
            · have ixk := IX.out k hlt
              have HT : Hid (l.take (k + 1) = l.take k ++ [l[k]]) := by show _ = _; exact (List.take_append_getElem hlt).symm
              have hbk : l[k].toNat < 256 := l[k].toNat_lt
              by_cases hA : 48 ≤ l[k].toNat ∧ l[k].toNat ≤ 57
              · obtain ⟨hA1, hA2⟩ := hA
                have hI : isDig l[k] = true := by unfold isDig; simp; omega
                have HA : Hid ((l.take (k + 1)).all isDig = true ∧ val (l.take (k + 1)) = m * 10 + (l[k].toNat - 48)) := by
                  refine ⟨?_, ?_⟩
                  · rw [HT.out, List.all_append, HW.out.1]; simp [hI]
                  · rw [HT.out, val_snoc, HW.out.2]; rfl
                have hlt2 := HV.out (k + 1) hlt HA.out.1
                rw [HA.out.2] at hlt2
                generalize l[k].toNat = c at *
                clear hI HT HW
                go_wp2
                go_round
                case rel => exact ⟨k + 1, hlt, by go_num, m * 10 + (c - 48), by go_num, hlt2, HA⟩
                case measure => simp [RowKit.intOf]; omega
              · have hI : isDig l[k] = false := by unfold isDig; simp; omega
                have hn : numL most l = none := by
                  rw [HN.out, if_neg]
                  rintro ⟨h, _⟩
                  have := List.all_eq_true.1 h l[k] (List.getElem_mem hlt)
                  rw [hI] at this; cases this
                have hn := Lib.hid hn
                have hAi : (l[k].toNat : Int) < 48 ∨ (48 ≤ (l[k].toNat : Int) ∧ 57 < (l[k].toNat : Int)) := by omega
                generalize l[k].toNat = c at *
                clear hA hI HT HW
                rcases hAi with hAi | ⟨hAi, hAj⟩
                all_goals
                  go_wp2
                  go_ret
                  exact ⟨by rw [cnt_none hn.out]; rfl, rfl⟩
            · have hd : l.take k = l := List.take_of_length_le (by omega)
              have hw := HW.out
              rw [hd] at hw
              by_cases hB : m ≤ most
              · have hn := Lib.hid (cnt_some (show numL most l = some m by rw [HN.out, hw.2, if_pos ⟨hw.1, hB⟩]))
                have hBi : ¬ (most : Int) < (m : Int) := by omega
                clear hw hd HW
                go_wp2
                go_ret
                exact ⟨by rw [hn.out]; rfl, rfl⟩
              · have hn := Lib.hid (cnt_none (show numL most l = none by rw [HN.out, hw.2, if_neg (fun h => hB h.2)]))
                have hBi : (most : Int) < (m : Int) := by omega
                clear hw hd HW
                go_wp2
                go_ret
                exact ⟨by rw [hn.out]; rfl, rfl⟩
end Go.Proofs.YthdmbggpokaggaaDoor
