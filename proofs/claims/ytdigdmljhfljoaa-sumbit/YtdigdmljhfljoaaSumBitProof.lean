/-
  Whatever text, place and bit are handed in, the Sum of a text that is not empty changes when that bit is turned, the Sum of nothing is 0 and that of the one byte 1 is 256; no condition.
-/
import Derived.Test.YtdigdmljhfljoaaRows
import Derived.WalkKit
import Derived.ProofKit
import Derived.OpenShut
import Derived.ShutString
import Derived.SizedLaws
import Derived.Below
import Derived.Test.YtdigdmljhfljoaaTurn
namespace Go.Proofs.Ytdigdmljhfljoaa.sumBit
open Go.ChangeShapes Go.WideShapes Go.ChangeAt Go.RowKit
open Go.ChangeMaps (open_string shut_string)
set_option linter.unusedVariables false

theorem own : ownKnob Try.prog.godebug = none := by kernel_rfl

set_option maxHeartbeats 800000 in
theorem walk (a0 : ByteArray) (a1 : Int) (a2 : Int) (w0 : a0.size ≤ 140737488351232) (w1 : (Lit.int .i64 a1).wf = true) (w2 : (Lit.int .i64 a2).wf = true) (w : World) :
    Calls Try.prog 8 #[.string a0, .int .i64 a1, .int .i64 a2] w fun e w' => e = .returned (.bool true) ∧ Below w.heap.size w w' := by
  obtain ⟨l1, u1⟩ := bounds_i64 w1
  obtain ⟨l2, u2⟩ := bounds_i64 w2
  have HO : Hid (∀ w', Calls Try.prog 10 #[.string ⟨#[1]⟩] w' fun e w'' => e = .returned (.int .u16 256) ∧ w'' = w') := fun w' => (sum_any ⟨#[1]⟩ w' (by decide)).mono fun e w'' ⟨he, hw⟩ => ⟨he.trans (ret_int (by decide)), hw⟩
  have HN : Hid (∀ w', Calls Try.prog 10 #[.string ByteArray.empty] w' fun e w'' => e = .returned (.int .u16 0) ∧ w'' = w') := fun w' => (sum_any ByteArray.empty w' (by decide)).mono fun e w'' ⟨he, hw⟩ => ⟨he.trans (ret_int (by decide)), hw⟩
  by_cases hp : a0.size = 0
  · have he : a0 = ByteArray.empty := by
      apply ByteArray.ext; exact Array.eq_empty_of_size_eq_zero hp
    subst he
    go_enter Try.func8, Try.ntmps8
    go_wp2_with fail
    refine (HO.out _).mono ?_; rintro e w1 ⟨rfl, rfl⟩
    go_wp2_with fail
    refine (HN.out _).mono ?_; rintro e w1 ⟨rfl, rfl⟩
    go_wp2
    go_ret
    exact ⟨rfl, Below.refl _ _⟩
  · have hne : a0.toList.isEmpty = false := by
      rw [List.isEmpty_eq_false_iff]
      intro h
      have := (toList_nil_iff_emptyBytes a0).1 h
      rw [this] at hp; simp at hp
    have hpos : (0 : Int) < (a0.size : Int) := by omega
    obtain ⟨i, hi⟩ := Int.eq_ofNat_of_zero_le (Int.emod_nonneg a1 (show (a0.size : Int) ≠ 0 by omega))
    obtain ⟨k, hk⟩ := Int.eq_ofNat_of_zero_le (Int.emod_nonneg a2 (show (8 : Int) ≠ 0 by omega))
    have hil : i < a0.size := by
      have := Int.emod_lt_of_pos a1 hpos
      omega
    have hk8 : k < 8 := by omega
    have hfl : (flip a0 i k hil).length = a0.size := by unfold flip; simp
    have HT : Hid (∀ w', Calls Try.prog 18 #[.string a0, .int .i64 a1, .int .i64 a2] w' fun e w'' => e = .returned (.string ⟨(flip a0 i k hil).toArray⟩) ∧ Below w'.heap.size w' w'') := fun w' => turned_any a0 a1 a2 w' (by omega) (by omega) l1 u1 l2 u2 i k hi hk hil
    have HF : Hid (Pm.fd (Pm.hv true (⟨(flip a0 i k hil).toArray⟩ : ByteArray).data.toList) ≠ Pm.fd (Pm.hv true a0.data.toList)) := flip_ne a0 i k hil hk8
    have hsz : (⟨(flip a0 i k hil).toArray⟩ : ByteArray).size = a0.size := hfl
    clear hi hk hfl l1 u1 l2 u2 w1 w2 hp
    generalize (⟨(flip a0 i k hil).toArray⟩ : ByteArray) = R at *
    go_enter Try.func8, Try.ntmps8
    go_wp2_with fail
    refine (HO.out _).mono ?_; rintro e w1 ⟨rfl, rfl⟩
    go_wp2_with fail
    refine (HT.out _).mono ?_; rintro e w2 ⟨rfl, hb2⟩
    go_wp2_with fail
    refine (sum_any R _ (by omega)).mono ?_; rintro e w3 ⟨rfl, rfl⟩
    go_wp2_with fail
    refine (sum_any a0 _ (by omega)).mono ?_; rintro e w3 ⟨rfl, rfl⟩
    generalize Pm.fd (Pm.hv true R.data.toList) = X at *
    generalize Pm.fd (Pm.hv true a0.data.toList) = Y at *
    have hxy : ((X : Int) != (Y : Int)) = true := by
      rw [bne_iff_ne]
      intro h
      exact HF.out (by omega)
    clear HF
    go_wp2
    go_ret
    exact ⟨rfl, hb2⟩

set_option maxRecDepth 100000 in
theorem lifted (os : Os) (started : os.Started) (H : Type) (enc : TypeId × Value → H) :
    ReturnsInHanded {} Try.checked os 8 .any (Rows.sumBitSpec.pre6 enc Try.prog Try.f8 Rows.sumBitRow.domain false) (Rows.sumBitSpec.post enc Try.prog Try.f8 false true false false) := by
  refine returnsInHanded_of_change_sized (C := Try.checked) own started (by kernel_rfl) Try.func8
    (ChangeSpec.witness6 (enc := enc) (C := Try.checked) false ⟨#[], #[.string ByteArray.empty, .int .i64 0, .int .i64 0], []⟩ 8 (by kernel_rfl) (by kernel_rfl) (by kernel_rfl) (by kernel_rfl)) ?_
  intro W base args ds gs before hval0 hW hcnd hsz0 _
  have hval : ∀ (j : Nat) t v, Try.f8.params[j]? = some t → args[j]? = some v → Value.okWide Try.prog W .any base t v := hval0
  have hW' := hW
  obtain ⟨p, q, hA0, hV, rfl, hfz, hnd⟩ := hW
  have hA : DataW.TrodAll enc Try.prog W 0 (fun _ => true) true Try.f8.params.toList args.toList ds p := hA0
  have hsz : (DataW.weightsEach Try.prog (Try.f8.params.toList ++ Rows.sumBitSpec.plain.varTypes Try.prog) (ds ++ gs)).all (· ≤ reachBytes) = true := hsz0
  rw [Try.params8] at hA hval hsz
  obtain ⟨v0, vs0, d0, ds0, p0, q0, hargs, rfl, rfl, h0, r0⟩ := trodAll_cons hA
  obtain ⟨v1, vs1, d1, ds1, p1, q1, rfl, rfl, rfl, h1, r1⟩ := trodAll_cons r0
  obtain ⟨v2, vs2, d2, ds2, p2, q2, rfl, rfl, rfl, h2, r2⟩ := trodAll_cons r1
  obtain ⟨rfl, rfl, rfl⟩ := trodAll_nil r2
  obtain rfl : args = #[v0, v1, v2] := by cases args; simp_all
  obtain ⟨rfl, rfl⟩ := trodVars_none hV
  obtain ⟨a0, rfl, rfl, rfl, w0⟩ := open_string Try.underlying9 (hval 0 9 v0 rfl rfl) h0
  have za0 : a0.size ≤ 140737488351232 := by
    have := sized_string hsz (j := 0) (t := 9) rfl rfl
    simpa [reachBytes] using this
  obtain ⟨a1, rfl, rfl, rfl, w1⟩ := open_int Try.underlying3 (hval 1 3 v1 rfl rfl) h1
  obtain ⟨a2, rfl, rfl, rfl, w2⟩ := open_int Try.underlying3 (hval 2 3 v2 rfl rfl) h2
  clear hA0 hval0
  simp only [List.append_nil] at hW'
  refine (walk a0 a1 a2 za0 w1 w2 W).mono fun e W' ⟨he, bel⟩ => ?_
  subst he
  exact ⟨_, rfl, _, _, _, [], [], [], hW', (trodAll_cons_mk (shut_bool Try.underlying4 _) trodAll_mk0), (trodAll_cons_mk (shut_string Try.underlying9 w0) (trodAll_cons_mk (shut_int Try.underlying3 w1) (trodAll_cons_mk (shut_int Try.underlying3 w2) trodAll_mk0))), rfl, bel.frame _, fun h => by cases h⟩

theorem over : Rows.sumBitRow.holds Try.pinned (OpenSpec.ofChange Rows.sumBitSpec) :=
  OpenClaim.holds_of_wide 8 Try.f8 rfl rfl rfl rfl rfl rfl rfl ⟨rfl, rfl, rfl, rfl, rfl⟩ rfl rfl rfl rfl rfl (by kernel_rfl) Try.func8 (by kernel_rfl)
    (of_decide_eq_true (by kernel_rfl)) (by unfold Func.isWrapper; first | (rw [if_pos (by decide +kernel)]; kernel_rfl) | (rw [if_neg (by decide +kernel)]; exact ⟨rfl, rfl⟩))
    (fun os started H enc _ => lifted os started H enc)

end Go.Proofs.Ytdigdmljhfljoaa.sumBit

namespace Go.Proofs.Ytdigdmljhfljoaa
theorem sumBit_holds : Rows.SumBitSaid := sumBit.over
#print axioms sumBit_holds
end Go.Proofs.Ytdigdmljhfljoaa
