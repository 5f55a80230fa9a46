/-
  The document's own look at two fragments: alike, fights.
-/
import Derived.Test.YtfnmcnbiahfnfaaGb
import Derived.Test.YtfnmcnbiahfnfaaEq
namespace Go.Proofs.Ytfnmcnbiahfnfaa
open Go.RowKit
set_option linter.unusedVariables false
set_option linter.unusedSimpArgs false

set_option maxHeartbeats 1000000 in
theorem alike_any (a b : Pk) (w : World) : Calls Try.prog 31 #[pv a, pv b] w fun e w' => e = .returned (.bool (decide (nmOf a = nmOf b))) ∧ Below w.heap.size w w' := by
  have HX : Hid (decide (nmOf a = nmOf b) = (decide (a.src = b.src) && decide (a.dst = b.dst) && decide (a.proto = b.proto) && decide (a.id = b.id))) := by
    show decide (nmOf a = nmOf b) = _
    rw [Bool.eq_iff_iff]
    simp [nmOf, and_assoc]
  have b0 : Below w.heap.size w ((w.alloc (.cells (pc a) 24)).alloc (.cells (pc b) 24)) := ((Below.refl _ _).alloc (Nat.le_refl _) _).alloc (by simp) _
  generalize decide (nmOf a = nmOf b) = X at *
  by_cases h1 : a.src = b.src
  · by_cases h2 : a.dst = b.dst
    · by_cases h3 : a.proto = b.proto
      · by_cases h4 : a.id = b.id
        · have e1 : ((a.src : Int) == (b.src : Int)) = true := by simp [h1]
          have e2 : ((a.dst : Int) == (b.dst : Int)) = true := by simp [h2]
          have e3 : (a.proto == b.proto) = true := by simp [h3]
          have e4 : (a.id == b.id) = true := by simp [h4]
          have hX : X = true := by rw [HX.out]; simp [h1, h2, h3, h4]
          clear h1 h2 h3 h4
          go_enter Try.func31, Try.ntmps31
          go_wp2_with fail
          go_ret
          exact ⟨ret_bool hX.symm, b0⟩
        · have e1 : ((a.src : Int) == (b.src : Int)) = true := by simp [h1]
          have e2 : ((a.dst : Int) == (b.dst : Int)) = true := by simp [h2]
          have e3 : (a.proto == b.proto) = true := by simp [h3]
          have e4 : (a.id == b.id) = false := by simpa using h4
          have hX : X = false := by rw [HX.out]; simp [h4]
          clear h1 h2 h3 h4
          go_enter Try.func31, Try.ntmps31
          go_wp2_with fail
          go_ret
          exact ⟨ret_bool hX.symm, b0⟩
      · have e1 : ((a.src : Int) == (b.src : Int)) = true := by simp [h1]
        have e2 : ((a.dst : Int) == (b.dst : Int)) = true := by simp [h2]
        have e3 : (a.proto == b.proto) = false := by simpa using h3
        have hX : X = false := by rw [HX.out]; simp [h3]
        clear h1 h2 h3
        go_enter Try.func31, Try.ntmps31
        go_wp2_with fail
        go_ret
        exact ⟨ret_bool hX.symm, b0⟩
    · have e1 : ((a.src : Int) == (b.src : Int)) = true := by simp [h1]
      have e2 : ((a.dst : Int) == (b.dst : Int)) = false := by rw [beq_eq_false_iff_ne]; omega
      have hX : X = false := by rw [HX.out]; simp [h2]
      clear h1 h2
      go_enter Try.func31, Try.ntmps31
      go_wp2_with fail
      go_ret
      exact ⟨ret_bool hX.symm, b0⟩
  · have e1 : ((a.src : Int) == (b.src : Int)) = false := by rw [beq_eq_false_iff_ne]; omega
    have hX : X = false := by rw [HX.out]; simp [h1]
    clear h1
    go_enter Try.func31, Try.ntmps31
    go_wp2_with fail
    go_ret
    exact ⟨ret_bool hX.symm, b0⟩

/-- Do the first n bytes of b meet others of a? -/
def fdiff (a b : Pk) (n : Nat) : Bool := (List.range n).any fun i => decide (a.off.toNat * 8 ≤ b.off.toNat * 8 + i) && decide (b.off.toNat * 8 + i < a.off.toNat * 8 + a.body.size) && (a.body.data.toList.getD (b.off.toNat * 8 + i - a.off.toNat * 8) 0 != b.body.data.toList.getD i 0)
theorem fdiff_succ (a b : Pk) (n : Nat) : fdiff a b (n + 1) = (fdiff a b n || (decide (a.off.toNat * 8 ≤ b.off.toNat * 8 + n) && decide (b.off.toNat * 8 + n < a.off.toNat * 8 + a.body.size) && (a.body.data.toList.getD (b.off.toNat * 8 + n - a.off.toNat * 8) 0 != b.body.data.toList.getD n 0))) := by
  unfold fdiff; rw [List.range_succ, List.any_append]; simp
/-- Can two not both be? -/
def fightB (a b : Pk) : Bool := fdiff a b b.body.size || ((!a.more && decide (fend a < fend b)) || (!b.more && decide (fend b < fend a)))

set_option maxHeartbeats 2000000 in
theorem fights_any (a b : Pk) (w : World) (ha : chk a = 0) (hb : chk b = 0) :
    Calls Try.prog 34 #[pv a, pv b] w fun e w' => e = .returned (.bool (fightB a b)) ∧ Below w.heap.size w w' := by
  obtain ⟨_, _, _, ao, hsa⟩ := chk_zero ha
  obtain ⟨_, _, _, bo, hsb⟩ := chk_zero hb
  have b0 : Below w.heap.size w ((w.alloc (.cells (pc a) 24)).alloc (.cells (pc b) 24)) := ((Below.refl _ _).alloc (Nat.le_refl _) _).alloc (by simp) _
  have P0 : Hid (PB w.heap.size a ((w.alloc (.cells (pc a) 24)).alloc (.cells (pc b) 24))) := (PB.new w a).alloc _
  have Q0 : Hid (PB (w.heap.size + 1) b ((w.alloc (.cells (pc a) 24)).alloc (.cells (pc b) 24))) := by
    have := PB.new (w.alloc (.cells (pc a) 24)) b
    rw [show (w.alloc (.cells (pc a) 24)).heap.size = w.heap.size + 1 from by simp] at this
    exact this
  obtain ⟨oa, hoa⟩ := Int.eq_ofNat_of_zero_le ao.1
  obtain ⟨ob, hob⟩ := Int.eq_ofNat_of_zero_le bo.1
  have HS : ∀ n, fdiff a b (n + 1) = (fdiff a b n || (decide (oa * 8 ≤ ob * 8 + n) && decide (ob * 8 + n < oa * 8 + a.body.size) && (a.body.data.toList.getD (ob * 8 + n - oa * 8) 0 != b.body.data.toList.getD n 0))) := fun n => by
    have := fdiff_succ a b n
    rwa [hoa, hob, Int.toNat_natCast, Int.toNat_natCast] at this
  have H0 : fdiff a b 0 = false := rfl
  have HF : Hid (fightB a b = (fdiff a b b.body.size || ((!a.more && decide ((oa : Int) * 8 + a.body.size < (ob : Int) * 8 + b.body.size)) || (!b.more && decide ((ob : Int) * 8 + b.body.size < (oa : Int) * 8 + a.body.size))))) := by
    show fightB a b = _
    unfold fightB fend
    rw [hoa, hob]
  have x6 := P0.out.c6
  have x7 := P0.out.c7
  have x8 := P0.out.c8
  have y6 := Q0.out.c6
  have y7 := Q0.out.c7
  have y8 := Q0.out.c8
  rw [hoa] at x7 ao
  rw [hob] at y7 bo
  have HOA := Lib.hid hoa
  have HOB := Lib.hid hob
  generalize fightB a b = X at *
  generalize hD : fdiff a b = D at *
  have HD := Lib.hid hD
  have HSS := Lib.hid HS
  clear ha hb hoa hob hD HS
  go_enter Try.func34, Try.ntmps34
  go_wp2_with fail
  go_quiet (fail)
  go_wp2_with fail
  go_loopw [23] (fun i W => ∃ k : Nat, k ≤ b.body.size ∧ i = .int .i64 k ∧ D k = false ∧ PB w.heap.size a W ∧ PB (w.heap.size + 1) b W ∧ Below w.heap.size w W) (fun i _ => b.body.size - (intOf i).toNat)
  case atStart => exact ⟨0, Nat.zero_le _, rfl, H0, P0.out.drew, Q0.out.drew, ⟨b0.os, b0.tape, b0.output, b0.size, b0.block⟩⟩
  case round =>
    clear x6 x7 x8 y6 y7 y8
    obtain ⟨k, hk, rfl, hDk, hP, hQ, hb⟩ := hrel
    have P := Lib.hid hP
    have Q := Lib.hid hQ
    have x6 := hP.c6
    have x7 := hP.c7
    have x8 := hP.c8
    have y6 := hQ.c6
    have y7 := hQ.c7
    have y8 := hQ.c8
    rw [HOA.out] at x7
    rw [HOB.out] at y7
    clear hP hQ
    by_cases hlt : k < b.body.size
    · have HN := Lib.hid (HSS.out k)
      by_cases h1 : oa * 8 ≤ ob * 8 + k
      · by_cases h2 : ob * 8 + k < oa * 8 + a.body.size
        · have e1 : decide ((8 : Int) * (oa : Int) ≤ 8 * (ob : Int) + (k : Int)) = true := by simp; omega
          have e2 : decide ((8 : Int) * (ob : Int) + (k : Int) < 8 * (oa : Int) + (a.body.size : Int)) = true := by simp; omega
          obtain ⟨j, hj⟩ : ∃ j, ob * 8 + k - oa * 8 = j := ⟨_, rfl⟩
          have hjl : j < a.body.size := by omega
          have ej : (8 : Int) * (ob : Int) + (k : Int) - 8 * (oa : Int) = (j : Int) := by omega
          have hix : ∀ w', (Instr.index 9 (.string b.body) (.int .i64 (k : Int))).run Try.prog w' = .ok (.int .u8 ((b.body.data.toList.getD k 0).toNat : Int)) w' := fun w' => index_at _ _ hlt w'
          have hiy : ∀ w', (Instr.index 9 (.string a.body) (.int .i64 ((8 : Int) * (ob : Int) + (k : Int) - 8 * (oa : Int)))).run Try.prog w' = .ok (.int .u8 ((a.body.data.toList.getD j 0).toNat : Int)) w' := fun w' => by rw [ej]; exact index_at _ _ hjl w'
          rw [hj] at HN
          generalize b.body.data.toList.getD k 0 = B1 at *
          generalize a.body.data.toList.getD j 0 = B2 at *
          clear hj ej
          by_cases hB : B2 = B1
          · subst hB
            have HN : Hid (D (k + 1) = false) := by show _ = _; rw [HN.out, hDk]; simp
            go_wp2_with fail
            go_quiet (fail)
            go_wp2_with fail
            go_roundw
            case rel => exact ⟨k + 1, by omega, by go_num, HN.out, P.out.drew, Q.out.drew, ⟨hb.os, hb.tape, hb.output, hb.size, hb.block⟩⟩
            case measure => simp [intOf]; omega
          · have hne : ((B2.toNat : Int) != (B1.toNat : Int)) = true := by rw [u8_ne]; simpa using hB
            have HX : Hid (D b.body.size = true) := by
              show D b.body.size = true
              have h1 : D (k + 1) = true := by rw [HN.out]; simp [hB, h1, h2]
              have : ∀ m, k + 1 ≤ m → D m = true := fun m hm => by
                induction m with
                | zero => omega
                | succ m ih =>
                  rcases Nat.lt_or_ge k m with h2 | h2
                  · rw [HSS.out m, ih (by omega)]; rfl
                  · rw [show m = k from by omega]; exact h1
              exact this _ (by omega)
            go_wp2_with fail
            go_quiet (fail)
            go_wp2_with fail
            go_ret
            exact ⟨ret_bool (by rw [HF.out, HX.out]; rfl), ⟨hb.os, hb.tape, hb.output, hb.size, hb.block⟩⟩
        · have e1 : decide ((8 : Int) * (oa : Int) ≤ 8 * (ob : Int) + (k : Int)) = true := by simp; omega
          have e2 : decide ((8 : Int) * (ob : Int) + (k : Int) < 8 * (oa : Int) + (a.body.size : Int)) = false := by simp; omega
          have HN : Hid (D (k + 1) = false) := by show _ = _; rw [HN.out, hDk]; simp [h2]
          clear h1 h2
          go_wp2_with fail
          go_quiet (fail)
          go_wp2_with fail
          go_roundw
          case rel => exact ⟨k + 1, by omega, by go_num, HN.out, P.out.drew, Q.out.drew, ⟨hb.os, hb.tape, hb.output, hb.size, hb.block⟩⟩
          case measure => simp [intOf]; omega
      · have e1 : decide ((8 : Int) * (oa : Int) ≤ 8 * (ob : Int) + (k : Int)) = false := by simp; omega
        have HN : Hid (D (k + 1) = false) := by show _ = _; rw [HN.out, hDk]; simp [h1]
        clear h1
        go_wp2_with fail
        go_quiet (fail)
        go_wp2_with fail
        go_roundw
        case rel => exact ⟨k + 1, by omega, by go_num, HN.out, P.out.drew, Q.out.drew, ⟨hb.os, hb.tape, hb.output, hb.size, hb.block⟩⟩
        case measure => simp [intOf]; omega
    · have hlt' : ¬ ((k : Int) < (b.body.size : Int)) := by omega
      obtain rfl : k = b.body.size := by omega
      rw [hDk] at HF
      clear HSS HD
      generalize ham : a.more = am at *
      generalize hbm : b.more = bm at *
      clear ham hbm
      cases am <;> cases bm <;> by_cases h1 : (oa : Int) * 8 + (a.body.size : Int) < (ob : Int) * 8 + (b.body.size : Int) <;> by_cases h2 : (ob : Int) * 8 + (b.body.size : Int) < (oa : Int) * 8 + (a.body.size : Int)
      all_goals
        first
        | (exfalso; omega)
        | (have m1 : (8 : Int) * (oa : Int) = (oa : Int) * 8 := Int.mul_comm _ _
           have m2 : (8 : Int) * (ob : Int) = (ob : Int) * 8 := Int.mul_comm _ _
           have M1 := Lib.hid m1
           have M2 := Lib.hid m2
           clear m1 m2
           go_wp2_with fail
           go_ret
           exact ⟨ret_bool (by rw [HF.out]; first | rfl | (rw [M1.out, M2.out]; simp [h1, h2]) | simp [h1, h2]), hb⟩)
end Go.Proofs.Ytfnmcnbiahfnfaa
