/-
  Whatever is handed in, what has bytes may come by Accept of package seq just if one of them lies within what is let in, unless it begins ahead of that and ends behind it; no condition.
-/
import Derived.Test.YtmclhofobdlhiabRows
import Derived.WalkKit
import Derived.ProofKit
import Derived.OpenShut
import Derived.ShutString
import Derived.SizedLaws
import Derived.Below
import Derived.Test.YtmclhofobdlhiabSeq
namespace Go.Proofs.Ytmclhofobdlhiab.seqMeets
open Go.ChangeShapes Go.WideShapes Go.ChangeAt Go.RowKit
open Go.ChangeMaps (open_string shut_string)
set_option linter.unusedVariables false

theorem own : ownKnob Try.prog.godebug = none := by kernel_rfl

set_option maxHeartbeats 800000 in
theorem walk (a0 : Int) (a1 : Int) (a2 : Int) (a3 : Int) (w0 : (Lit.int .u32 a0).wf = true) (w1 : (Lit.int .i64 a1).wf = true) (w2 : (Lit.int .i64 a2).wf = true) (w3 : (Lit.int .i64 a3).wf = true) (w : World) :
    Calls Try.prog 4 #[.int .u32 a0, .int .i64 a1, .int .i64 a2, .int .i64 a3] w fun e w' => e = .returned (.bool true) ∧ Below w.heap.size w w' := by
  obtain ⟨l0, u0⟩ := bounds_u32 w0
  obtain ⟨l1, u1⟩ := bounds_i64 w1
  obtain ⟨l2, u2⟩ := bounds_i64 w2
  obtain ⟨l3, u3⟩ := bounds_i64 w3
  clear w0 w1 w2 w3
  have p0 : 0 ≤ a1 % 200 := by omega
  have p1 : a1 % 200 ≤ 199 := by omega
  have q0 : 0 ≤ a2 % 100 := by omega
  have q1 : a2 % 100 ≤ 99 := by omega
  have r0 : 0 ≤ a3 % 100 := by omega
  have r1 : a3 % 100 ≤ 99 := by omega
  go_enter Try.func4, Try.ntmps4
  go_wp2_with fail
  refine (rest_any _ _ _ (by omega) (by omega) l1 u1).mono ?_; rintro e w1 ⟨rfl, rfl⟩
  generalize a1 % 200 = A at *
  go_wp2_with fail
  refine (rest_any _ _ _ (by omega) (by omega) l2 u2).mono ?_; rintro e w1 ⟨rfl, rfl⟩
  generalize a2 % 100 = L at *
  go_wp2_with fail
  refine (rest_any _ _ _ (by omega) (by omega) l3 u3).mono ?_; rintro e w1 ⟨rfl, rfl⟩
  generalize a3 % 100 = W at *
  go_wp2
  go_loop [9, 22] (fun m i => ∃ k : Nat, (k : Int) ≤ 1 + L ∧ i = .int .i64 k ∧ m = .bool (met (A - 100) W k)) (fun _ i => (1 + L).toNat - (intOf i).toNat)
  case atStart => exact ⟨0, by omega, rfl, by rw [show ((0 : Nat) : Int) = 0 from rfl, met_zero]⟩
  case round =>
    obtain ⟨k, hk, rfl, rfl⟩ := hrel
    by_cases hlt : (k : Int) < 1 + L
    · have h1 := met_in (A - 100) W k (by omega)
      have h2 := met_out (A - 100) W k (by omega)
      have h3 := met_on (A - 100) W k (by omega)
      generalize hm : met (A - 100) W k = m at *
      have HF : Hid (met (A - 100) W ((k + 1 : Nat) : Int) = (m || (decide (0 ≤ A - 100 + k) && decide (A - 100 + k < W)))) := by
        show _ = _
        rw [show ((k + 1 : Nat) : Int) = (k : Int) + 1 from by omega]
        cases m
        · by_cases hh : 0 ≤ A - 100 + k ∧ A - 100 + k < W
          · rw [h1 hh.1 hh.2]; simp [hh]
          · rw [h2 hh]; simp; omega
        · rw [h3 rfl]; rfl
      clear h1 h2 h3 hm
      cases m
      · go_wp2
        all_goals
          go_round
          case rel => exact ⟨k + 1, by omega, by go_num, by rw [HF.out]; first | rfl | (simp; omega)⟩
          case measure => simp [intOf]; omega
      · go_wp2
        all_goals
          go_round
          case rel => exact ⟨k + 1, by omega, by go_num, by rw [HF.out]; rfl⟩
          case measure => simp [intOf]; omega
    · have hke : (k : Int) = 1 + L := by omega
      have ha := acc_met a0 (A - 100) (1 + L) W (by omega) (by omega) (by omega) (by omega) r0 r1
      rw [hke] at *
      have HA : Hid (¬ (A - 100 < 0 ∧ W < A - 100 + (1 + L)) → acc ((a0 + (A - 100)) % 4294967296) (1 + L) a0 W = met (A - 100) W (1 + L)) := ha
      clear ha
      generalize met (A - 100) W (1 + L) = m at *
      have HS : Hid (acc a0 0 a0 0 = true) := acc_self a0
      go_wp2_with fail
      refine (acc_any _ _ _ _ _ (by omega)).mono ?_; rintro e w1 ⟨rfl, rfl⟩
      generalize acc ((a0 + (A - 100)) % 4294967296) (1 + L) a0 W = s at *
      go_wp2_with fail
      refine (acc_any _ _ _ _ _ (by omega)).mono ?_; rintro e w1 ⟨rfl, rfl⟩
      rw [HS.out]
      go_wp2
      all_goals
        go_ret
        first
          | exact ⟨rfl, Below.refl _ _⟩
          | exact ⟨by rw [HA.out (by omega)]; simp, Below.refl _ _⟩

set_option maxRecDepth 100000 in
theorem lifted (os : Os) (started : os.Started) (H : Type) (enc : TypeId × Value → H) :
    ReturnsInHanded {} Try.checked os 4 .any (Rows.seqMeetsSpec.pre6 enc Try.prog Try.f4 Rows.seqMeetsRow.domain false) (Rows.seqMeetsSpec.post enc Try.prog Try.f4 false true false false) := by
  refine returnsInHanded_of_change_sized (C := Try.checked) own started (by kernel_rfl) Try.func4
    (ChangeSpec.witness6 (enc := enc) (C := Try.checked) false ⟨#[], #[.int .u32 0, .int .i64 0, .int .i64 0, .int .i64 0], []⟩ 8 (by kernel_rfl) (by kernel_rfl) (by kernel_rfl) (by kernel_rfl)) ?_
  intro W base args ds gs before hval0 hW hcnd hsz0 _
  have hval : ∀ (j : Nat) t v, Try.f4.params[j]? = some t → args[j]? = some v → Value.okWide Try.prog W .any base t v := hval0
  have hW' := hW
  obtain ⟨p, q, hA0, hV, rfl, hfz, hnd⟩ := hW
  have hA : DataW.TrodAll enc Try.prog W 0 (fun _ => true) true Try.f4.params.toList args.toList ds p := hA0
  have hsz : (DataW.weightsEach Try.prog (Try.f4.params.toList ++ Rows.seqMeetsSpec.plain.varTypes Try.prog) (ds ++ gs)).all (· ≤ reachBytes) = true := hsz0
  rw [Try.params4] at hA hval hsz
  obtain ⟨v0, vs0, d0, ds0, p0, q0, hargs, rfl, rfl, h0, r0⟩ := trodAll_cons hA
  obtain ⟨v1, vs1, d1, ds1, p1, q1, rfl, rfl, rfl, h1, r1⟩ := trodAll_cons r0
  obtain ⟨v2, vs2, d2, ds2, p2, q2, rfl, rfl, rfl, h2, r2⟩ := trodAll_cons r1
  obtain ⟨v3, vs3, d3, ds3, p3, q3, rfl, rfl, rfl, h3, r3⟩ := trodAll_cons r2
  obtain ⟨rfl, rfl, rfl⟩ := trodAll_nil r3
  obtain rfl : args = #[v0, v1, v2, v3] := by cases args; simp_all
  obtain ⟨rfl, rfl⟩ := trodVars_none hV
  obtain ⟨a0, rfl, rfl, rfl, w0⟩ := open_int Try.underlying22 (hval 0 22 v0 rfl rfl) h0
  obtain ⟨a1, rfl, rfl, rfl, w1⟩ := open_int Try.underlying3 (hval 1 3 v1 rfl rfl) h1
  obtain ⟨a2, rfl, rfl, rfl, w2⟩ := open_int Try.underlying3 (hval 2 3 v2 rfl rfl) h2
  obtain ⟨a3, rfl, rfl, rfl, w3⟩ := open_int Try.underlying3 (hval 3 3 v3 rfl rfl) h3
  clear hA0 hval0
  simp only [List.append_nil] at hW'
  refine (walk a0 a1 a2 a3 w0 w1 w2 w3 W).mono fun e W' ⟨he, bel⟩ => ?_
  subst he
  exact ⟨_, rfl, _, _, _, [], [], [], hW', (trodAll_cons_mk (shut_bool Try.underlying4 _) trodAll_mk0), (trodAll_cons_mk (shut_int Try.underlying22 w0) (trodAll_cons_mk (shut_int Try.underlying3 w1) (trodAll_cons_mk (shut_int Try.underlying3 w2) (trodAll_cons_mk (shut_int Try.underlying3 w3) trodAll_mk0)))), rfl, bel.frame _, fun h => by cases h⟩

theorem over : Rows.seqMeetsRow.holds Try.pinned (OpenSpec.ofChange Rows.seqMeetsSpec) :=
  OpenClaim.holds_of_wide 4 Try.f4 rfl rfl rfl rfl rfl rfl rfl ⟨rfl, rfl, rfl, rfl, rfl⟩ rfl rfl rfl rfl rfl (by kernel_rfl) Try.func4 (by kernel_rfl)
    (of_decide_eq_true (by kernel_rfl)) (by unfold Func.isWrapper; first | (rw [if_pos (by decide +kernel)]; kernel_rfl) | (rw [if_neg (by decide +kernel)]; exact ⟨rfl, rfl⟩))
    (fun os started H enc _ => lifted os started H enc)

end Go.Proofs.Ytmclhofobdlhiab.seqMeets

namespace Go.Proofs.Ytmclhofobdlhiab
theorem seqMeets_holds : Rows.SeqMeetsSaid := seqMeets.over
#print axioms seqMeets_holds
end Go.Proofs.Ytmclhofobdlhiab
