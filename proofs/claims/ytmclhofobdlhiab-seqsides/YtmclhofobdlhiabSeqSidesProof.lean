/-
  Whatever two numbers, distance and count are handed in, of two numbers that differ just one is ahead unless they lie across, and In of package seq is a stretch of that many; no condition.
-/
import Derived.Test.YtmclhofobdlhiabRows
import Derived.WalkKit
import Derived.ProofKit
import Derived.OpenShut
import Derived.ShutString
import Derived.SizedLaws
import Derived.Below
import Derived.Test.YtmclhofobdlhiabSeq
namespace Go.Proofs.Ytmclhofobdlhiab.seqSides
open Go.ChangeShapes Go.WideShapes Go.ChangeAt Go.RowKit
open Go.ChangeMaps (open_string shut_string)
set_option linter.unusedVariables false

theorem own : ownKnob Try.prog.godebug = none := by kernel_rfl

set_option maxHeartbeats 800000 in
theorem walk (a0 : Int) (a1 : Int) (a2 : Int) (a3 : Int) (w0 : (Lit.int .u32 a0).wf = true) (w1 : (Lit.int .u32 a1).wf = true) (w2 : (Lit.int .i64 a2).wf = true) (w3 : (Lit.int .i64 a3).wf = true) (w : World) :
    Calls Try.prog 3 #[.int .u32 a0, .int .u32 a1, .int .i64 a2, .int .i64 a3] w fun e w' => e = .returned (.bool true) ∧ Below w.heap.size w w' := by
  obtain ⟨l0, u0⟩ := bounds_u32 w0
  obtain ⟨l1, u1⟩ := bounds_u32 w1
  obtain ⟨l2, u2⟩ := bounds_i64 w2
  obtain ⟨l3, u3⟩ := bounds_i64 w3
  clear w0 w1 w2 w3
  have p0 : 0 ≤ a2 % 4294967296 := by omega
  have p1 : a2 % 4294967296 ≤ 4294967295 := by omega
  have q0 : 0 ≤ a3 % 4294967296 := by omega
  have q1 : a3 % 4294967296 ≤ 4294967295 := by omega
  have HI : Hid (inn ((a0 + a2 % 4294967296) % 4294967296) a0 (a3 % 4294967296) = decide (a2 % 4294967296 < a3 % 4294967296)) := inn_at _ _ _ p0 p1
  have H7 : Hid (inn 7 7 1 = true) := by show _ = _; decide
  have HC : Hid ((a0 = a1 ∧ dif a0 a1 = 0 ∧ dif a1 a0 = 0) ∨ (a0 ≠ a1 ∧ (a0 - a1) % 4294967296 = 2147483648 ∧ dif a0 a1 = -2147483648 ∧ dif a1 a0 = -2147483648) ∨ (a0 ≠ a1 ∧ (a0 - a1) % 4294967296 ≠ 2147483648 ∧ dif a1 a0 = - dif a0 a1 ∧ dif a0 a1 ≠ 0)) := by
    show _ ∨ _ ∨ _
    unfold dif
    by_cases h : a0 = a1
    · left; subst h; simp
    · right
      by_cases h2 : (a0 - a1) % 4294967296 = 2147483648
      · left; refine ⟨h, h2, ?_, ?_⟩ <;> split <;> omega
      · right; refine ⟨h, h2, ?_, ?_⟩ <;> split <;> (try split) <;> omega
  go_enter Try.func3, Try.ntmps3
  go_wp2_with fail
  refine (rest_any _ _ _ (by omega) (by omega) l2 u2).mono ?_; rintro e w1 ⟨rfl, rfl⟩
  go_wp2_with fail
  refine (rest_any _ _ _ (by omega) (by omega) l3 u3).mono ?_; rintro e w1 ⟨rfl, rfl⟩
  generalize a2 % 4294967296 = K at *
  generalize a3 % 4294967296 = M at *
  go_wp2_with fail
  refine (in_any _ _ _ _).mono ?_; rintro e w1 ⟨rfl, rfl⟩
  rw [HI.out]
  go_wp2_with fail
  refine (in_any _ _ _ _).mono ?_; rintro e w1 ⟨rfl, rfl⟩
  rw [H7.out]
  rcases HC.out with ⟨h, e1, e2⟩ | ⟨h, h2, e1, e2⟩ | ⟨h, h2, e1, e2⟩
  · clear HC
    subst h
    go_wp2_with (go_at_call 7; refine (less_any _ _ _).mono ?_; rintro e w' ⟨rfl, rfl⟩)
    go_ret
    exact ⟨rfl, Below.refl _ _⟩
  · clear HC
    go_wp2_with (go_at_call 7; refine (less_any _ _ _).mono ?_; rintro e w' ⟨rfl, rfl⟩)
    go_ret
    exact ⟨rfl, Below.refl _ _⟩
  · clear HC
    by_cases hs : dif a0 a1 < 0
    all_goals
      go_wp2_with (go_at_call 7; refine (less_any _ _ _).mono ?_; rintro e w' ⟨rfl, rfl⟩)
      go_ret
      exact ⟨ret_bool (by first | (simp; omega) | (rw [decide_eq_false (show ¬ dif a0 a1 < 0 by omega), decide_eq_true (show 0 < dif a0 a1 by omega)]; rfl)), Below.refl _ _⟩

set_option maxRecDepth 100000 in
theorem lifted (os : Os) (started : os.Started) (H : Type) (enc : TypeId × Value → H) :
    ReturnsInHanded {} Try.checked os 3 .any (Rows.seqSidesSpec.pre6 enc Try.prog Try.f3 Rows.seqSidesRow.domain false) (Rows.seqSidesSpec.post enc Try.prog Try.f3 false true false false) := by
  refine returnsInHanded_of_change_sized (C := Try.checked) own started (by kernel_rfl) Try.func3
    (ChangeSpec.witness6 (enc := enc) (C := Try.checked) false ⟨#[], #[.int .u32 0, .int .u32 0, .int .i64 0, .int .i64 0], []⟩ 8 (by kernel_rfl) (by kernel_rfl) (by kernel_rfl) (by kernel_rfl)) ?_
  intro W base args ds gs before hval0 hW hcnd hsz0 _
  have hval : ∀ (j : Nat) t v, Try.f3.params[j]? = some t → args[j]? = some v → Value.okWide Try.prog W .any base t v := hval0
  have hW' := hW
  obtain ⟨p, q, hA0, hV, rfl, hfz, hnd⟩ := hW
  have hA : DataW.TrodAll enc Try.prog W 0 (fun _ => true) true Try.f3.params.toList args.toList ds p := hA0
  have hsz : (DataW.weightsEach Try.prog (Try.f3.params.toList ++ Rows.seqSidesSpec.plain.varTypes Try.prog) (ds ++ gs)).all (· ≤ reachBytes) = true := hsz0
  rw [Try.params3] at hA hval hsz
  obtain ⟨v0, vs0, d0, ds0, p0, q0, hargs, rfl, rfl, h0, r0⟩ := trodAll_cons hA
  obtain ⟨v1, vs1, d1, ds1, p1, q1, rfl, rfl, rfl, h1, r1⟩ := trodAll_cons r0
  obtain ⟨v2, vs2, d2, ds2, p2, q2, rfl, rfl, rfl, h2, r2⟩ := trodAll_cons r1
  obtain ⟨v3, vs3, d3, ds3, p3, q3, rfl, rfl, rfl, h3, r3⟩ := trodAll_cons r2
  obtain ⟨rfl, rfl, rfl⟩ := trodAll_nil r3
  obtain rfl : args = #[v0, v1, v2, v3] := by cases args; simp_all
  obtain ⟨rfl, rfl⟩ := trodVars_none hV
  obtain ⟨a0, rfl, rfl, rfl, w0⟩ := open_int Try.underlying22 (hval 0 22 v0 rfl rfl) h0
  obtain ⟨a1, rfl, rfl, rfl, w1⟩ := open_int Try.underlying22 (hval 1 22 v1 rfl rfl) h1
  obtain ⟨a2, rfl, rfl, rfl, w2⟩ := open_int Try.underlying3 (hval 2 3 v2 rfl rfl) h2
  obtain ⟨a3, rfl, rfl, rfl, w3⟩ := open_int Try.underlying3 (hval 3 3 v3 rfl rfl) h3
  clear hA0 hval0
  simp only [List.append_nil] at hW'
  refine (walk a0 a1 a2 a3 w0 w1 w2 w3 W).mono fun e W' ⟨he, bel⟩ => ?_
  subst he
  exact ⟨_, rfl, _, _, _, [], [], [], hW', (trodAll_cons_mk (shut_bool Try.underlying4 _) trodAll_mk0), (trodAll_cons_mk (shut_int Try.underlying22 w0) (trodAll_cons_mk (shut_int Try.underlying22 w1) (trodAll_cons_mk (shut_int Try.underlying3 w2) (trodAll_cons_mk (shut_int Try.underlying3 w3) trodAll_mk0)))), rfl, bel.frame _, fun h => by cases h⟩

theorem over : Rows.seqSidesRow.holds Try.pinned (OpenSpec.ofChange Rows.seqSidesSpec) :=
  OpenClaim.holds_of_wide 3 Try.f3 rfl rfl rfl rfl rfl rfl rfl ⟨rfl, rfl, rfl, rfl, rfl⟩ rfl rfl rfl rfl rfl (by kernel_rfl) Try.func3 (by kernel_rfl)
    (of_decide_eq_true (by kernel_rfl)) (by unfold Func.isWrapper; first | (rw [if_pos (by decide +kernel)]; kernel_rfl) | (rw [if_neg (by decide +kernel)]; exact ⟨rfl, rfl⟩))
    (fun os started H enc _ => lifted os started H enc)

end Go.Proofs.Ytmclhofobdlhiab.seqSides

namespace Go.Proofs.Ytmclhofobdlhiab
theorem seqSides_holds : Rows.SeqSidesSaid := seqSides.over
#print axioms seqSides_holds
end Go.Proofs.Ytmclhofobdlhiab
