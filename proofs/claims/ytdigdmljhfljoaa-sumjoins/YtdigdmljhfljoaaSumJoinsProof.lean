/-
  Whatever two texts are handed in, the Sum of both is the Join of their Sums, the Check of nothing is 65535, and a text with its Check behind it sums up to 65535; no condition.
-/
import Derived.Test.YtdigdmljhfljoaaRows
import Derived.WalkKit
import Derived.ProofKit
import Derived.OpenShut
import Derived.ShutString
import Derived.SizedLaws
import Derived.Below
import Derived.Test.YtdigdmljhfljoaaJoin
namespace Go.Proofs.Ytdigdmljhfljoaa.sumJoins
open Go.ChangeShapes Go.WideShapes Go.ChangeAt Go.RowKit
open Go.ChangeMaps (open_string shut_string)
set_option linter.unusedVariables false

theorem own : ownKnob Try.prog.godebug = none := by kernel_rfl

set_option maxHeartbeats 800000 in
theorem walk (a0 : ByteArray) (a1 : ByteArray) (w0 : a0.size ≤ 140737488351232) (w1 : a1.size ≤ 140737488351232) (w : World) :
    Calls Try.prog 6 #[.string a0, .string a1] w fun e w' => e = .returned (.bool true) ∧ Below w.heap.size w w' := by
  have hl0 := Pm.fd_le (Pm.hv true a0.data.toList)
  have hl1 := Pm.fd_le (Pm.hv true a1.data.toList)
  have hcat : (a0 ++ a1).size = a0.size + a1.size := ByteArray.size_append
  by_cases hev : a0.size % 2 = 0
  · have hz : (((a0.size : Int) % 2) == 1) = false := by simp; omega
    have HJ : Hid (Pm.fd (Pm.hv true (a0 ++ a1).data.toList) = Pm.fd (Pm.fd (Pm.hv true a0.data.toList) + Pm.fd (Pm.hv true a1.data.toList))) := join_even_eq a0 a1 hev
    have HB : Hid (Pm.fd (Pm.hv true (a0 ++ wd (65535 - Pm.fd (Pm.hv true a0.data.toList))).data.toList) = 65535) := behind_eq a0 hev
    go_enter Try.func6, Try.ntmps6
    go_wp2_with fail
    refine (sum_any (a0 ++ a1) _ (by omega)).mono ?_; rintro e w1 ⟨rfl, rfl⟩
    rw [HJ.out]
    go_wp2_with fail
    refine (sum_any a0 _ (by omega)).mono ?_; rintro e w1 ⟨rfl, rfl⟩
    go_wp2_with fail
    refine (sum_any a1 _ (by omega)).mono ?_; rintro e w1 ⟨rfl, rfl⟩
    go_wp2_with fail
    refine (join_even _ _ _ hl0 hl1).mono ?_; rintro e w1 ⟨rfl, rfl⟩
    go_wp2_with fail
    refine (check_any _ _ (by decide)).mono ?_; rintro e w1 ⟨rfl, rfl⟩
    go_wp2_with fail
    refine (check_any a0 _ (by omega)).mono ?_; rintro e w1 ⟨rfl, rfl⟩
    go_wp2_with fail
    refine (two_any _ _ (by omega)).mono ?_; rintro e w2 ⟨rfl, hb2⟩
    have hsz : (a0 ++ wd (65535 - Pm.fd (Pm.hv true a0.data.toList))).size = a0.size + 2 := by rw [ByteArray.size_append, wd_size]
    have hwz := wd_size (65535 - Pm.fd (Pm.hv true a0.data.toList))
    generalize hV : wd (65535 - Pm.fd (Pm.hv true a0.data.toList)) = V at *
    go_wp2_with fail
    refine (sum_any _ _ (by omega)).mono ?_; rintro e w3 ⟨rfl, rfl⟩
    rw [HB.out]
    go_wp2
    go_ret
    exact ⟨rfl, hb2⟩
  · have hz : (((a0.size : Int) % 2) == 1) = true := by simp; omega
    have HJ : Hid (Pm.fd (Pm.hv true (a0 ++ a1).data.toList) = Pm.fd (Pm.fd (Pm.hv true a0.data.toList) + swp (Pm.fd (Pm.hv true a1.data.toList)))) := join_odd_eq a0 a1 (by omega)
    have hpz : (a0 ++ ⟨#[0]⟩).size = a0.size + 1 := by rw [ByteArray.size_append]; rfl
    have hlS := Pm.fd_le (Pm.hv true (a0 ++ ⟨#[0]⟩).data.toList)
    have HB : Hid (Pm.fd (Pm.hv true (a0 ++ ⟨#[0]⟩ ++ wd (65535 - Pm.fd (Pm.hv true (a0 ++ ⟨#[0]⟩).data.toList))).data.toList) = 65535) := by
      show _ = _
      exact behind_eq (a0 ++ ⟨#[0]⟩) (by omega)
    have hadd : ∀ w', (Op.stringOp .add a0 ⟨#[0]⟩).run Try.prog w' = .ok (.string (a0 ++ ⟨#[0]⟩)) w' := fun w' => run_string_add_sum w' _ _ (by show a0.size + 1 ≤ _; omega)
    generalize a0 ++ ⟨#[0]⟩ = S at *
    go_enter Try.func6, Try.ntmps6
    go_wp2_with fail
    refine (sum_any (a0 ++ a1) _ (by omega)).mono ?_; rintro e w1 ⟨rfl, rfl⟩
    rw [HJ.out]
    go_wp2_with fail
    refine (sum_any a0 _ (by omega)).mono ?_; rintro e w1 ⟨rfl, rfl⟩
    go_wp2_with fail
    refine (sum_any a1 _ (by omega)).mono ?_; rintro e w1 ⟨rfl, rfl⟩
    go_wp2_with fail
    refine (join_odd _ _ _ hl0 hl1).mono ?_; rintro e w1 ⟨rfl, rfl⟩
    go_wp2_with fail
    refine (check_any _ _ (by decide)).mono ?_; rintro e w1 ⟨rfl, rfl⟩
    go_wp2_with fail
    refine (check_any S _ (by omega)).mono ?_; rintro e w1 ⟨rfl, rfl⟩
    go_wp2_with fail
    refine (two_any _ _ (by omega)).mono ?_; rintro e w2 ⟨rfl, hb2⟩
    have hsz : (S ++ wd (65535 - Pm.fd (Pm.hv true S.data.toList))).size = S.size + 2 := by rw [ByteArray.size_append, wd_size]
    have hwz := wd_size (65535 - Pm.fd (Pm.hv true S.data.toList))
    generalize hV : wd (65535 - Pm.fd (Pm.hv true S.data.toList)) = V at *
    go_wp2_with fail
    refine (sum_any _ _ (by omega)).mono ?_; rintro e w3 ⟨rfl, rfl⟩
    rw [HB.out]
    go_wp2
    go_ret
    exact ⟨rfl, hb2⟩

set_option maxRecDepth 100000 in
theorem lifted (os : Os) (started : os.Started) (H : Type) (enc : TypeId × Value → H) :
    ReturnsInHanded {} Try.checked os 6 .any (Rows.sumJoinsSpec.pre6 enc Try.prog Try.f6 Rows.sumJoinsRow.domain false) (Rows.sumJoinsSpec.post enc Try.prog Try.f6 false true false false) := by
  refine returnsInHanded_of_change_sized (C := Try.checked) own started (by kernel_rfl) Try.func6
    (ChangeSpec.witness6 (enc := enc) (C := Try.checked) false ⟨#[], #[.string ByteArray.empty, .string ByteArray.empty], []⟩ 8 (by kernel_rfl) (by kernel_rfl) (by kernel_rfl) (by kernel_rfl)) ?_
  intro W base args ds gs before hval0 hW hcnd hsz0 _
  have hval : ∀ (j : Nat) t v, Try.f6.params[j]? = some t → args[j]? = some v → Value.okWide Try.prog W .any base t v := hval0
  have hW' := hW
  obtain ⟨p, q, hA0, hV, rfl, hfz, hnd⟩ := hW
  have hA : DataW.TrodAll enc Try.prog W 0 (fun _ => true) true Try.f6.params.toList args.toList ds p := hA0
  have hsz : (DataW.weightsEach Try.prog (Try.f6.params.toList ++ Rows.sumJoinsSpec.plain.varTypes Try.prog) (ds ++ gs)).all (· ≤ reachBytes) = true := hsz0
  rw [Try.params6] at hA hval hsz
  obtain ⟨v0, vs0, d0, ds0, p0, q0, hargs, rfl, rfl, h0, r0⟩ := trodAll_cons hA
  obtain ⟨v1, vs1, d1, ds1, p1, q1, rfl, rfl, rfl, h1, r1⟩ := trodAll_cons r0
  obtain ⟨rfl, rfl, rfl⟩ := trodAll_nil r1
  obtain rfl : args = #[v0, v1] := by cases args; simp_all
  obtain ⟨rfl, rfl⟩ := trodVars_none hV
  obtain ⟨a0, rfl, rfl, rfl, w0⟩ := open_string Try.underlying9 (hval 0 9 v0 rfl rfl) h0
  have za0 : a0.size ≤ 140737488351232 := by
    have := sized_string hsz (j := 0) (t := 9) rfl rfl
    simpa [reachBytes] using this
  obtain ⟨a1, rfl, rfl, rfl, w1⟩ := open_string Try.underlying9 (hval 1 9 v1 rfl rfl) h1
  have za1 : a1.size ≤ 140737488351232 := by
    have := sized_string hsz (j := 1) (t := 9) rfl rfl
    simpa [reachBytes] using this
  clear hA0 hval0
  simp only [List.append_nil] at hW'
  refine (walk a0 a1 za0 za1 W).mono fun e W' ⟨he, bel⟩ => ?_
  subst he
  exact ⟨_, rfl, _, _, _, [], [], [], hW', (trodAll_cons_mk (shut_bool Try.underlying4 _) trodAll_mk0), (trodAll_cons_mk (shut_string Try.underlying9 w0) (trodAll_cons_mk (shut_string Try.underlying9 w1) trodAll_mk0)), rfl, bel.frame _, fun h => by cases h⟩

theorem over : Rows.sumJoinsRow.holds Try.pinned (OpenSpec.ofChange Rows.sumJoinsSpec) :=
  OpenClaim.holds_of_wide 6 Try.f6 rfl rfl rfl rfl rfl rfl rfl ⟨rfl, rfl, rfl, rfl, rfl⟩ rfl rfl rfl rfl rfl (by kernel_rfl) Try.func6 (by kernel_rfl)
    (of_decide_eq_true (by kernel_rfl)) (by unfold Func.isWrapper; first | (rw [if_pos (by decide +kernel)]; kernel_rfl) | (rw [if_neg (by decide +kernel)]; exact ⟨rfl, rfl⟩))
    (fun os started H enc _ => lifted os started H enc)

end Go.Proofs.Ytdigdmljhfljoaa.sumJoins

namespace Go.Proofs.Ytdigdmljhfljoaa
theorem sumJoins_holds : Rows.SumJoinsSaid := sumJoins.over
#print axioms sumJoins_holds
end Go.Proofs.Ytdigdmljhfljoaa
