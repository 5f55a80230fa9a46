/-
  Whatever list of steps and list of addresses are handed in: of all calls of a table, in the steps' order, the program's answers are the document's: what Add and Drop say, what All tells behind each step, and what Find tells of each address; no condition.
-/
import Derived.Test.YtchmfbfijglokaaRows
import Derived.WalkKit
import Derived.ProofKit
import Derived.OpenShut
import Derived.ShutString
import Derived.SizedLaws
import Derived.Below
import Derived.Lib.SmallJoins
import Derived.Test.YtchmfbfijglokaaOpen
import Derived.Test.YtchmfbfijglokaaSays
import Derived.Test.YtchmfbfijglokaaRefE
namespace Go.Proofs.Ytchmfbfijglokaa.routeSays
open Go.ChangeShapes Go.WideShapes Go.ChangeAt Go.RowKit Go.Joins
set_option linter.unusedVariables false

theorem own : ownKnob Try.prog.godebug = none := by kernel_rfl
theorem laid : laidOutB Try.prog = true := by kernel_rfl
theorem addSaid : AddSaid := fun rb g cap o L pa pb via w hpa h hG => radd_any rb g cap o L pa pb via w hpa h hG

/-- A list of addresses that is handed in. -/
theorem open_addrs {H : Type} {enc : TypeId × Value → H} {W : World} {b0 : Nat} {v : Value} {d : DataW H} {p : List MemPlace} (hv : Value.okWide Try.prog W .any b0 23 v) (h : DataW.Trod enc Try.prog W 0 (fun _ => true) true 23 v d p) :
    ∃ (o : Option Addr) (b off len cap : Nat) (Z : Nat → Nat), v = .slice o len cap ∧ (0 < len → o = some ⟨b, off, none⟩ ∧ b < W.heap.size) ∧ (∀ i, i < len → W.cell? ⟨b, off + i, none⟩ = some (.int .u32 (Z i : Int)) ∧ Z i < 4294967296) ∧ len ≤ maxLen := by
  obtain ⟨o, len, cap, rfl⟩ := okWide_slice Try.underlying23 hv
  obtain ⟨fuel, hf⟩ := h
  have hf : DataW.trod enc Try.prog W 0 (fun _ => true) true fuel 23 [.slice o len cap] = some (d, p) := hf
  rcases open_ints Try.underlying23 Try.underlying32 cells32 hf with ⟨h0, _⟩ | ⟨a, len', cap', zs, h0, _, hlc, hcm, hzl, _, hx, hw⟩
  · simp at h0
    obtain ⟨rfl, rfl, rfl⟩ := h0
    exact ⟨none, 0, 0, 0, 0, fun _ => 0, rfl, by omega, fun i hi => by omega, by unfold maxLen; omega⟩
  · simp at h0
    obtain ⟨rfl, rfl, rfl⟩ := h0
    have hzl : zs.length = cap := by simpa using hzl
    have hp : 0 < len → a = ⟨a.block, a.off, none⟩ ∧ a.block < W.heap.size := fun hp => by
      have := hx 0 (by omega)
      rw [show a.add 0 = a from by simp [Addr.add]] at this
      exact ⟨plain_of_cell this, World.block_lt_of_cell? _ _ this⟩
    refine ⟨some a, a.block, a.off, len, cap, fun i => (zs.getD i 0).toNat, rfl, fun h => ⟨congrArg some (hp h).1, (hp h).2⟩, fun i hi => ?_, by omega⟩
    have h1 := hx i (by omega)
    have hm : zs.getD i 0 ∈ zs := by
      rw [List.getD_eq_getElem?_getD, List.getElem?_eq_getElem (by omega), Option.getD_some]; exact List.getElem_mem _
    obtain ⟨l1, u1⟩ := bounds_u32 (hw _ hm)
    rw [(hp (by omega)).1, Addr.add_mid] at h1
    refine ⟨?_, by show (zs.getD i 0).toNat < 4294967296; omega⟩
    rw [h1, Int.toNat_of_nonneg l1]

set_option maxRecDepth 100000 in
theorem lifted (os : Os) (started : os.Started) (H : Type) (enc : TypeId × Value → H) :
    ReturnsInHanded {} Try.checked os 3 .any (Rows.routeSaysSpec.pre6 enc Try.prog Try.f3 Rows.routeSaysRow.domain false) (Rows.routeSaysSpec.post enc Try.prog Try.f3 false true false false) := by
  refine returnsInHanded_of_change_sized (C := Try.checked) own started (by kernel_rfl) Try.func3
    (ChangeSpec.witness6 (enc := enc) (C := Try.checked) false ⟨#[], #[.slice none 0 0, .slice none 0 0], []⟩ 8 (by kernel_rfl) (by kernel_rfl) (by kernel_rfl) (by kernel_rfl)) ?_
  intro W base args ds gs before hval0 hW hcnd hsz0 _
  have hval : ∀ (j : Nat) t v, Try.f3.params[j]? = some t → args[j]? = some v → Value.okWide Try.prog W .any base t v := hval0
  have hW' := hW
  obtain ⟨p, q, hA0, hV, rfl, hfz, hnd⟩ := hW
  have hA : DataW.TrodAll enc Try.prog W 0 (fun _ => true) true Try.f3.params.toList args.toList ds p := hA0
  rw [Try.params3] at hA hval
  obtain ⟨v0, vs0, d0, ds0, p0, q0, hargs, rfl, rfl, h0, r0⟩ := trodAll_cons hA
  obtain ⟨v1, vs1, d1, ds1, p1, q1, rfl, rfl, rfl, h1, r1⟩ := trodAll_cons r0
  obtain ⟨rfl, rfl, rfl⟩ := trodAll_nil r1
  obtain rfl : args = #[v0, v1] := by cases args; simp_all
  obtain ⟨rfl, rfl⟩ := trodVars_none hV
  have h0k := h0
  have h1k := h1
  have hlt : ∀ x ∈ p0, x.block < W.heap.size := fun x hx => hW'.lt x (by simp [hx])
  have hlt1 : ∀ x ∈ p1, x.block < W.heap.size := fun x hx => hW'.lt x (by simp [hx])
  obtain ⟨o, b, off, len, cap, C, S, rfl, hb, hS, hlen⟩ := open_steps (hval 0 22 v0 rfl rfl) h0
  obtain ⟨o2, b2, off2, len2, cap2, Z, rfl, hb2, hZ, hlen2⟩ := open_addrs (hval 1 23 v1 rfl rfl) h1
  clear hA0 hval0
  simp only [List.append_nil] at hW'
  refine (says_walk addSaid o b off len cap C S o2 b2 off2 len2 cap2 Z W hb hS hlen hb2 hZ hlen2).mono fun e W' ⟨he, bel⟩ => ?_
  subst he
  exact ⟨_, rfl, _, _, _, [], _, [], hW', (trodAll_cons_mk (shut_bool Try.underlying4 _) trodAll_mk0), (trodAll_cons_mk (Below.trod laid (by kernel_rfl) (of_decide_eq_true (by kernel_rfl)) h0k bel hlt) (trodAll_cons_mk (Below.trod laid (by kernel_rfl) (of_decide_eq_true (by kernel_rfl)) h1k bel hlt1) trodAll_mk0)), rfl, bel.frame _, fun h => by cases h⟩

theorem over : Rows.routeSaysRow.holds Try.pinned (OpenSpec.ofChange Rows.routeSaysSpec) :=
  OpenClaim.holds_of_wide 3 Try.f3 rfl rfl rfl rfl rfl rfl rfl ⟨rfl, rfl, rfl, rfl, rfl⟩ rfl rfl rfl rfl rfl (by kernel_rfl) Try.func3 (by kernel_rfl)
    (of_decide_eq_true (by kernel_rfl)) (by unfold Func.isWrapper; first | (rw [if_pos (by decide +kernel)]; kernel_rfl) | (rw [if_neg (by decide +kernel)]; exact ⟨rfl, rfl⟩))
    (fun os started H enc _ => lifted os started H enc)

end Go.Proofs.Ytchmfbfijglokaa.routeSays

namespace Go.Proofs.Ytchmfbfijglokaa
theorem routeSays_holds : Rows.RouteSaysSaid := routeSays.over
#print axioms routeSays_holds
end Go.Proofs.Ytchmfbfijglokaa
