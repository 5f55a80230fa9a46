/-
  Whatever place and distance are handed in, Near of package seq finds a number again of its lowest bits and of one near to it; no condition.
-/
import Derived.Test.YtmclhofobdlhiaaRows
import Derived.WalkKit
import Derived.ProofKit
import Derived.OpenShut
import Derived.ShutString
import Derived.SizedLaws
import Derived.Below
import Derived.Test.YtmclhofobdlhiaaKeep
namespace Go.Proofs.Ytmclhofobdlhiaa.seqNearest
open Go.ChangeShapes Go.WideShapes Go.ChangeAt Go.RowKit
open Go.ChangeMaps (open_string shut_string)
set_option linter.unusedVariables false

theorem own : ownKnob Try.prog.godebug = none := by kernel_rfl

set_option maxHeartbeats 800000 in
theorem walk (a0 : Int) (a1 : Int) (w0 : (Lit.int .i64 a0).wf = true) (w1 : (Lit.int .i64 a1).wf = true) (w : World) :
    Calls Try.prog 7 #[.int .i64 a0, .int .i64 a1] w fun e w' => e = .returned (.bool true) ∧ Below w.heap.size w w' := by
  obtain ⟨l0, u0⟩ := bounds_i64 w0
  obtain ⟨l1, u1⟩ := bounds_i64 w1
  clear w0 w1
  have p0 : 0 ≤ a0 % 1125899906842624 := by omega
  have p1 : a0 % 1125899906842624 ≤ 1125899906842623 := by omega
  have d0 : 0 ≤ a1 % 4294967296 := by omega
  have d1 : a1 % 4294967296 ≤ 4294967295 := by omega
  have h7 : near 7 7 = 7 := by decide
  go_enter Try.func7, Try.ntmps7
  go_wp2_with fail
  refine (rest_any _ _ _ (by omega) (by omega) l0 u0).mono ?_; rintro e w1 ⟨rfl, rfl⟩
  generalize a0 % 1125899906842624 = P at *
  go_wp2_with fail
  refine (rest_any _ _ _ (by omega) (by omega) l1 u1).mono ?_; rintro e w1 ⟨rfl, rfl⟩
  generalize a1 % 4294967296 = D at *
  by_cases hn : P + (D - 2147483648) < 0
  · go_wp2_with (go_at_call 16; refine (near_any _ _ _ (by omega)).mono ?_; rintro e w' ⟨rfl, rfl⟩)
    go_ret
    exact ⟨rfl, Below.refl _ _⟩
  · have HA : Hid (near (P % 4294967296) (P + (D - 2147483648)) = if D = 0 then P - 4294967296 else P) := near_again P D p0 p1 d0 d1 (by omega)
    by_cases hz : D = 0
    · have HB : Hid (near (P % 4294967296) (P + -2147483648) = P - 4294967296) := by show _ = _; have := HA.out; rw [if_pos hz, hz] at this; exact this
      clear HA
      subst hz
      go_wp2_with fail
      refine (near_any _ _ _ (by omega)).mono ?_; rintro e w' ⟨rfl, rfl⟩
      rw [HB.out]
      go_wp2
      go_ret
      exact ⟨rfl, Below.refl _ _⟩
    · have HB : Hid (near (P % 4294967296) (P + (D - 2147483648)) = P) := by show _ = _; have := HA.out; rw [if_neg hz] at this; exact this
      have hz2 : 0 < D := by omega
      clear HA
      go_wp2_with fail
      refine (near_any _ _ _ (by omega)).mono ?_; rintro e w' ⟨rfl, rfl⟩
      rw [HB.out]
      go_wp2
      go_ret
      exact ⟨rfl, Below.refl _ _⟩

set_option maxRecDepth 100000 in
theorem lifted (os : Os) (started : os.Started) (H : Type) (enc : TypeId × Value → H) :
    ReturnsInHanded {} Try.checked os 7 .any (Rows.seqNearestSpec.pre6 enc Try.prog Try.f7 Rows.seqNearestRow.domain false) (Rows.seqNearestSpec.post enc Try.prog Try.f7 false true false false) := by
  refine returnsInHanded_of_change_sized (C := Try.checked) own started (by kernel_rfl) Try.func7
    (ChangeSpec.witness6 (enc := enc) (C := Try.checked) false ⟨#[], #[.int .i64 0, .int .i64 0], []⟩ 8 (by kernel_rfl) (by kernel_rfl) (by kernel_rfl) (by kernel_rfl)) ?_
  intro W base args ds gs before hval0 hW hcnd hsz0 _
  have hval : ∀ (j : Nat) t v, Try.f7.params[j]? = some t → args[j]? = some v → Value.okWide Try.prog W .any base t v := hval0
  have hW' := hW
  obtain ⟨p, q, hA0, hV, rfl, hfz, hnd⟩ := hW
  have hA : DataW.TrodAll enc Try.prog W 0 (fun _ => true) true Try.f7.params.toList args.toList ds p := hA0
  have hsz : (DataW.weightsEach Try.prog (Try.f7.params.toList ++ Rows.seqNearestSpec.plain.varTypes Try.prog) (ds ++ gs)).all (· ≤ reachBytes) = true := hsz0
  rw [Try.params7] at hA hval hsz
  obtain ⟨v0, vs0, d0, ds0, p0, q0, hargs, rfl, rfl, h0, r0⟩ := trodAll_cons hA
  obtain ⟨v1, vs1, d1, ds1, p1, q1, rfl, rfl, rfl, h1, r1⟩ := trodAll_cons r0
  obtain ⟨rfl, rfl, rfl⟩ := trodAll_nil r1
  obtain rfl : args = #[v0, v1] := by cases args; simp_all
  obtain ⟨rfl, rfl⟩ := trodVars_none hV
  obtain ⟨a0, rfl, rfl, rfl, w0⟩ := open_int Try.underlying3 (hval 0 3 v0 rfl rfl) h0
  obtain ⟨a1, rfl, rfl, rfl, w1⟩ := open_int Try.underlying3 (hval 1 3 v1 rfl rfl) h1
  clear hA0 hval0
  simp only [List.append_nil] at hW'
  refine (walk a0 a1 w0 w1 W).mono fun e W' ⟨he, bel⟩ => ?_
  subst he
  exact ⟨_, rfl, _, _, _, [], [], [], hW', (trodAll_cons_mk (shut_bool Try.underlying4 _) trodAll_mk0), (trodAll_cons_mk (shut_int Try.underlying3 w0) (trodAll_cons_mk (shut_int Try.underlying3 w1) trodAll_mk0)), rfl, bel.frame _, fun h => by cases h⟩

theorem over : Rows.seqNearestRow.holds Try.pinned (OpenSpec.ofChange Rows.seqNearestSpec) :=
  OpenClaim.holds_of_wide 7 Try.f7 rfl rfl rfl rfl rfl rfl rfl ⟨rfl, rfl, rfl, rfl, rfl⟩ rfl rfl rfl rfl rfl (by kernel_rfl) Try.func7 (by kernel_rfl)
    (of_decide_eq_true (by kernel_rfl)) (by unfold Func.isWrapper; first | (rw [if_pos (by decide +kernel)]; kernel_rfl) | (rw [if_neg (by decide +kernel)]; exact ⟨rfl, rfl⟩))
    (fun os started H enc _ => lifted os started H enc)

end Go.Proofs.Ytmclhofobdlhiaa.seqNearest

namespace Go.Proofs.Ytmclhofobdlhiaa
theorem seqNearest_holds : Rows.SeqNearestSaid := seqNearest.over
#print axioms seqNearest_holds
end Go.Proofs.Ytmclhofobdlhiaa
