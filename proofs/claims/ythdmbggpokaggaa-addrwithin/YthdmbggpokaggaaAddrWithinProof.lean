/-
  Whatever two prefixes and address are handed in: of two prefixes that both have the address the wider one has the other's first address, and what has an address is a prefix, by Has and Check of package addr; no condition.
-/
import Derived.Test.YthdmbggpokaggaaRows
import Derived.WalkKit
import Derived.ProofKit
import Derived.OpenShut
import Derived.ShutString
import Derived.SizedLaws
import Derived.Below
import Derived.Lib.SmallJoins
import Derived.Test.YthdmbggpokaggaaPfx
namespace Go.Proofs.Ythdmbggpokaggaa.addrWithin
open Go.ChangeShapes Go.WideShapes Go.ChangeAt Go.RowKit Go.Joins
set_option linter.unusedVariables false

theorem own : ownKnob Try.prog.godebug = none := by kernel_rfl
theorem cells24 : Try.prog.cellsOf 24 = 2 := by kernel_rfl
/-- Two prefixes lie in the blocks b and b + 1, and may be written. -/
def Two (b : Nat) (pa qa : Nat) (pb qb : Int) (W : World) : Prop :=
  b + 1 < W.heap.size ∧ (W.cell? ⟨b, 0, none⟩ = some (.int .u32 (pa : Int)) ∧ W.cell? ⟨b, 1, none⟩ = some (.int .i64 pb) ∧ W.cell? ⟨b + 1, 0, none⟩ = some (.int .u32 (qa : Int)) ∧ W.cell? ⟨b + 1, 1, none⟩ = some (.int .i64 qb)) ∧
    W.frozen? ⟨b, 0, none⟩ = false ∧ W.frozen? ⟨b, 1, none⟩ = false ∧ W.frozen? ⟨b + 1, 0, none⟩ = false ∧ W.frozen? ⟨b + 1, 1, none⟩ = false
theorem Two.keep {b : Nat} {pa qa : Nat} {pb qb : Int} {W w1 : World} (h : Two b pa qa pb qb W) (hb : Below W.heap.size W w1) : Two b pa qa pb qb w1 := by
  obtain ⟨hs, ⟨h1, h2, h3, h4⟩, h5, h6, h7, h8⟩ := h
  refine ⟨by have := hb.size; omega, ⟨?_, ?_, ?_, ?_⟩, ?_, ?_, ?_, ?_⟩
  · rw [hb.cell (p := ⟨b, 0, none⟩) (by show b < _; omega)]; exact h1
  · rw [hb.cell (p := ⟨b, 1, none⟩) (by show b < _; omega)]; exact h2
  · rw [hb.cell (p := ⟨b + 1, 0, none⟩) (by show b + 1 < _; omega)]; exact h3
  · rw [hb.cell (p := ⟨b + 1, 1, none⟩) (by show b + 1 < _; omega)]; exact h4
  · rw [hb.frozen (p := ⟨b, 0, none⟩) (by show b < _; omega)]; exact h5
  · rw [hb.frozen (p := ⟨b, 1, none⟩) (by show b < _; omega)]; exact h6
  · rw [hb.frozen (p := ⟨b + 1, 0, none⟩) (by show b + 1 < _; omega)]; exact h7
  · rw [hb.frozen (p := ⟨b + 1, 1, none⟩) (by show b + 1 < _; omega)]; exact h8

theorem floor_floor (a m t : Nat) (hm : 0 < m) : (a - a % m) - (a - a % m) % (m * t) = a - a % (m * t) := by
  have e : ∀ x k : Nat, x - x % k = k * (x / k) := fun x k => by have := Nat.div_add_mod x k; omega
  rw [e a m, e (m * (a / m)) (m * t), e a (m * t), Nat.mul_div_mul_left _ _ hm, Nat.div_div_eq_div_mul]
theorem has_of {pa qa x : Nat} {pb qb : Int} (h1 : has pa pb x = true) (h2 : has qa qb x = true) (h : pb ≤ qb) : has pa pb qa = true := by
  unfold has at *
  simp only [decide_eq_true_eq] at *
  obtain ⟨c1, e1⟩ := h1
  obtain ⟨c2, e2⟩ := h2
  obtain ⟨p0, p1, _⟩ := chk_ok c1
  obtain ⟨q0, q1, _⟩ := chk_ok c2
  refine ⟨c1, ?_⟩
  have ew : wid pb = wid qb * 2 ^ (qb.toNat - pb.toNat) := by
    unfold wid; rw [← Nat.pow_add]; congr 1; omega
  have hw : 0 < wid qb := Nat.two_pow_pos _
  rw [← e2, ew, floor_floor _ _ _ hw, ← ew, e1]

set_option maxHeartbeats 2000000 in
theorem walk (pa qa x : Nat) (pb qb : Int) (h0 : pa < 4294967296) (h1 : qa < 4294967296) (h2 : x < 4294967296) (w : World) :
    Calls Try.prog 3 #[.agg #[.int .u32 pa, .int .i64 pb], .agg #[.int .u32 qa, .int .i64 qb], .int .u32 x] w fun e w' => e = .returned (.bool true) ∧ Below w.heap.size w w' := by
  have HC : Hid (∀ w', Calls Try.prog 4 #[.agg #[.int .u32 0, .int .i64 40]] w' fun e w'' => e = .returned (.int .i64 1) ∧ Below w'.heap.size w' w'') := fun w' => check_any 0 40 w' (by omega)
  have HP : Hid (∀ w', Calls Try.prog 5 #[.agg #[.int .u32 pa, .int .i64 pb], .int .u32 x] w' fun e w'' => e = .returned (.bool (has pa pb x)) ∧ Below w'.heap.size w' w'') := fun w' => has_any pa x pb w' h0 h2
  have HQ : Hid (∀ w', Calls Try.prog 5 #[.agg #[.int .u32 qa, .int .i64 qb], .int .u32 x] w' fun e w'' => e = .returned (.bool (has qa qb x)) ∧ Below w'.heap.size w' w'') := fun w' => has_any qa x qb w' h1 h2
  have h00 : Below w.heap.size w ((w.alloc (.cells #[.int .u32 (pa : Int), .int .i64 pb] 24)).alloc (.cells #[.int .u32 (qa : Int), .int .i64 qb] 24)) := ((Below.refl _ _).alloc (Nat.le_refl _) _).alloc (by simp) _
  have T0 : Hid (Two w.heap.size pa qa pb qb ((w.alloc (.cells #[.int .u32 (pa : Int), .int .i64 pb] 24)).alloc (.cells #[.int .u32 (qa : Int), .int .i64 qb] 24))) := by
    refine ⟨by simp, ⟨?_, ?_, ?_, ?_⟩, ?_, ?_, ?_, ?_⟩ <;> simp [go_sem]
  cases hp : has pa pb x
  · rw [hp] at HP
    clear hp
    go_enter Try.func3, Try.ntmps3
    go_wp2_with fail
    refine (HC.out _).mono ?_; rintro e w1 ⟨rfl, hb1⟩
    have T1 : Hid (Two w.heap.size pa qa pb qb w1) := T0.out.keep hb1
    obtain ⟨z1, ⟨k10, k11, k12, k13⟩, f10, f11, f12, f13⟩ := T1.out
    have h01 := h00.trans (hb1.mono (by simp; omega))
    go_wp2_with fail
    refine (HP.out _).mono ?_; rintro e w2 ⟨rfl, hb2⟩
    have T2 : Hid (Two w.heap.size pa qa pb qb w2) := T1.out.keep hb2
    obtain ⟨z2, ⟨k20, k21, k22, k23⟩, f20, f21, f22, f23⟩ := T2.out
    have h02 := h01.trans (hb2.mono (by omega))
    go_wp2_with fail
    refine (HP.out _).mono ?_; rintro e w3 ⟨rfl, hb3⟩
    have h03 := h02.trans (hb3.mono (by omega))
    go_wp2
    go_ret
    exact ⟨rfl, h03⟩
  · rw [hp] at HP
    have hk : Hid (chk pa pb = 0) := by
      show _ = _
      unfold has at hp; simp only [decide_eq_true_eq] at hp; exact hp.1
    have HK : Hid (∀ w', Calls Try.prog 4 #[.agg #[.int .u32 pa, .int .i64 pb]] w' fun e w'' => e = .returned (.int .i64 0) ∧ Below w'.heap.size w' w'') := fun w' => by
      have := check_any pa pb w' h0
      rwa [hk.out] at this
    cases hq : has qa qb x
    · rw [hq] at HQ
      clear hp hq
      go_enter Try.func3, Try.ntmps3
      go_wp2_with fail
      refine (HC.out _).mono ?_; rintro e w1 ⟨rfl, hb1⟩
      have T1 : Hid (Two w.heap.size pa qa pb qb w1) := T0.out.keep hb1
      obtain ⟨z1, ⟨k10, k11, k12, k13⟩, f10, f11, f12, f13⟩ := T1.out
      have h01 := h00.trans (hb1.mono (by simp; omega))
      go_wp2_with fail
      refine (HP.out _).mono ?_; rintro e w2 ⟨rfl, hb2⟩
      have T2 : Hid (Two w.heap.size pa qa pb qb w2) := T1.out.keep hb2
      obtain ⟨z2, ⟨k20, k21, k22, k23⟩, f20, f21, f22, f23⟩ := T2.out
      have h02 := h01.trans (hb2.mono (by omega))
      go_wp2_with fail
      refine (HQ.out _).mono ?_; rintro e w3 ⟨rfl, hb3⟩
      have T3 : Hid (Two w.heap.size pa qa pb qb w3) := T2.out.keep hb3
      obtain ⟨z3, ⟨k30, k31, k32, k33⟩, f30, f31, f32, f33⟩ := T3.out
      have h03 := h02.trans (hb3.mono (by omega))
      go_wp2_with fail
      refine (HP.out _).mono ?_; rintro e w4 ⟨rfl, hb4⟩
      have T4 : Hid (Two w.heap.size pa qa pb qb w4) := T3.out.keep hb4
      obtain ⟨z4, ⟨k40, k41, k42, k43⟩, f40, f41, f42, f43⟩ := T4.out
      have h04 := h03.trans (hb4.mono (by omega))
      go_wp2_with fail
      refine (HK.out _).mono ?_; rintro e w5 ⟨rfl, hb5⟩
      have h05 := h04.trans (hb5.mono (by omega))
      go_wp2
      go_ret
      exact ⟨rfl, h05⟩
    · rw [hq] at HQ
      by_cases hle : pb ≤ qb
      · have HF : Hid (∀ w', Calls Try.prog 5 #[.agg #[.int .u32 pa, .int .i64 pb], .int .u32 qa] w' fun e w'' => e = .returned (.bool true) ∧ Below w'.heap.size w' w'') := fun w' => by
          have := has_any pa qa pb w' h0 h1
          rwa [has_of hp hq hle] at this
        clear hp hq
        go_enter Try.func3, Try.ntmps3
        go_wp2_with fail
        refine (HC.out _).mono ?_; rintro e w1 ⟨rfl, hb1⟩
        have T1 : Hid (Two w.heap.size pa qa pb qb w1) := T0.out.keep hb1
        obtain ⟨z1, ⟨k10, k11, k12, k13⟩, f10, f11, f12, f13⟩ := T1.out
        have h01 := h00.trans (hb1.mono (by simp; omega))
        go_wp2_with fail
        refine (HP.out _).mono ?_; rintro e w2 ⟨rfl, hb2⟩
        have T2 : Hid (Two w.heap.size pa qa pb qb w2) := T1.out.keep hb2
        obtain ⟨z2, ⟨k20, k21, k22, k23⟩, f20, f21, f22, f23⟩ := T2.out
        have h02 := h01.trans (hb2.mono (by omega))
        go_wp2_with fail
        refine (HQ.out _).mono ?_; rintro e w3 ⟨rfl, hb3⟩
        have T3 : Hid (Two w.heap.size pa qa pb qb w3) := T2.out.keep hb3
        obtain ⟨z3, ⟨k30, k31, k32, k33⟩, f30, f31, f32, f33⟩ := T3.out
        have h03 := h02.trans (hb3.mono (by omega))
        go_wp2_with fail
        refine (HF.out _).mono ?_; rintro e w4 ⟨rfl, hb4⟩
        have h04 := h03.trans (hb4.mono (by omega))
        go_wp2
        go_ret
        exact ⟨rfl, h04⟩
      · have HF : Hid (∀ w', Calls Try.prog 5 #[.agg #[.int .u32 qa, .int .i64 qb], .int .u32 pa] w' fun e w'' => e = .returned (.bool true) ∧ Below w'.heap.size w' w'') := fun w' => by
          have := has_any qa pa qb w' h1 h0
          rwa [has_of hq hp (by omega)] at this
        clear hp hq
        go_enter Try.func3, Try.ntmps3
        go_wp2_with fail
        refine (HC.out _).mono ?_; rintro e w1 ⟨rfl, hb1⟩
        have T1 : Hid (Two w.heap.size pa qa pb qb w1) := T0.out.keep hb1
        obtain ⟨z1, ⟨k10, k11, k12, k13⟩, f10, f11, f12, f13⟩ := T1.out
        have h01 := h00.trans (hb1.mono (by simp; omega))
        go_wp2_with fail
        refine (HP.out _).mono ?_; rintro e w2 ⟨rfl, hb2⟩
        have T2 : Hid (Two w.heap.size pa qa pb qb w2) := T1.out.keep hb2
        obtain ⟨z2, ⟨k20, k21, k22, k23⟩, f20, f21, f22, f23⟩ := T2.out
        have h02 := h01.trans (hb2.mono (by omega))
        go_wp2_with fail
        refine (HQ.out _).mono ?_; rintro e w3 ⟨rfl, hb3⟩
        have T3 : Hid (Two w.heap.size pa qa pb qb w3) := T2.out.keep hb3
        obtain ⟨z3, ⟨k30, k31, k32, k33⟩, f30, f31, f32, f33⟩ := T3.out
        have h03 := h02.trans (hb3.mono (by omega))
        go_wp2_with fail
        refine (HF.out _).mono ?_; rintro e w4 ⟨rfl, hb4⟩
        go_wp2
        go_ret
        refine ⟨rfl, Below.trans ?_ (hb4.mono (by simp; omega))⟩
        exact (((h03.setCell (by simp) _).setCell (by simp) _).setCell (by simp) _).setCell (by simp) _

set_option maxRecDepth 100000 in
theorem lifted (os : Os) (started : os.Started) (H : Type) (enc : TypeId × Value → H) :
    ReturnsInHanded {} Try.checked os 3 .any (Rows.addrWithinSpec.pre6 enc Try.prog Try.f3 Rows.addrWithinRow.domain false) (Rows.addrWithinSpec.post enc Try.prog Try.f3 false true false false) := by
  refine returnsInHanded_of_change_sized (C := Try.checked) own started (by kernel_rfl) Try.func3
    (ChangeSpec.witness6 (enc := enc) (C := Try.checked) false ⟨#[], #[.agg #[.int .u32 0, .int .i64 0], .agg #[.int .u32 0, .int .i64 0], .int .u32 0], []⟩ 8 (by kernel_rfl) (by kernel_rfl) (by kernel_rfl) (by kernel_rfl)) ?_
  intro W base args ds gs before hval0 hW hcnd hsz0 _
  have hval : ∀ (j : Nat) t v, Try.f3.params[j]? = some t → args[j]? = some v → Value.okWide Try.prog W .any base t v := hval0
  have hW' := hW
  obtain ⟨p, q, hA0, hV, rfl, hfz, hnd⟩ := hW
  have hA : DataW.TrodAll enc Try.prog W 0 (fun _ => true) true Try.f3.params.toList args.toList ds p := hA0
  rw [Try.params3] at hA hval
  obtain ⟨v0, vs0, d0, ds0, p0, q0, hargs, rfl, rfl, h0, r0⟩ := trodAll_cons hA
  obtain ⟨v1, vs1, d1, ds1, p1, q1, rfl, rfl, rfl, h1, r1⟩ := trodAll_cons r0
  obtain ⟨v2, vs2, d2, ds2, p2, q2, rfl, rfl, rfl, h2, r2⟩ := trodAll_cons r1
  obtain ⟨rfl, rfl, rfl⟩ := trodAll_nil r2
  obtain rfl : args = #[v0, v1, v2] := by cases args; simp_all
  obtain ⟨rfl, rfl⟩ := trodVars_none hV
  obtain ⟨c00, c01, y00, y01, m0, rfl, rfl, rfl, hy00, hy01⟩ := open_agg2 Try.underlying24 (by kernel_rfl) cells24 (hval 0 24 v0 rfl rfl) h0
  obtain ⟨a00, e00, rfl, w00⟩ := DataW.trod_int Try.underlying22 hy00
  obtain ⟨a01, e01, rfl, w01⟩ := DataW.trod_int Try.underlying3 hy01
  simp at e00 e01
  subst e00 e01
  obtain ⟨c10, c11, y10, y11, m1, rfl, rfl, rfl, hy10, hy11⟩ := open_agg2 Try.underlying24 (by kernel_rfl) cells24 (hval 1 24 v1 rfl rfl) h1
  obtain ⟨a10, e10, rfl, w10⟩ := DataW.trod_int Try.underlying22 hy10
  obtain ⟨a11, e11, rfl, w11⟩ := DataW.trod_int Try.underlying3 hy11
  simp at e10 e11
  subst e10 e11
  obtain ⟨a2, rfl, rfl, rfl, w2⟩ := open_int Try.underlying22 (hval 2 22 v2 rfl rfl) h2
  clear hA0 hval0
  simp only [List.append_nil] at hW'
  obtain ⟨l00, u00⟩ := bounds_u32 w00
  obtain ⟨l10, u10⟩ := bounds_u32 w10
  obtain ⟨l2, u2⟩ := bounds_u32 w2
  obtain ⟨n00, rfl⟩ := Int.eq_ofNat_of_zero_le l00
  obtain ⟨n10, rfl⟩ := Int.eq_ofNat_of_zero_le l10
  obtain ⟨n2, rfl⟩ := Int.eq_ofNat_of_zero_le l2
  have back : ∀ (W' : World) (sp : Nat → Bool) (a b : Int), (Lit.int .u32 a).wf = true → (Lit.int .i64 b).wf = true → DataW.Trod enc Try.prog W' 0 sp true 24 (.agg #[.int .u32 a, .int .i64 b]) (.agg [.lit (.int .u32 a), .lit (.int .i64 b)]) [] := fun W' sp a b wa wb =>
    shut_agg2 (y0 := (.lit (.int .u32 a), [])) (y1 := (.lit (.int .i64 b), [])) Try.underlying24 (by kernel_rfl) cells24 ⟨1, by simp [DataW.trod, Try.underlying22, wa]⟩ ⟨1, by simp [DataW.trod, Try.underlying3, wb]⟩
  refine (walk n00 n10 n2 a01 a11 (by omega) (by omega) (by omega) W).mono fun e W' ⟨he, bel⟩ => ?_
  subst he
  exact ⟨_, rfl, _, _, _, [], [], [], hW', (trodAll_cons_mk (shut_bool Try.underlying4 _) trodAll_mk0), (trodAll_cons_mk (back _ _ _ _ w00 w01) (trodAll_cons_mk (back _ _ _ _ w10 w11) (trodAll_cons_mk (shut_int Try.underlying22 w2) trodAll_mk0))), rfl, bel.frame _, fun h => by cases h⟩

theorem over : Rows.addrWithinRow.holds Try.pinned (OpenSpec.ofChange Rows.addrWithinSpec) :=
  OpenClaim.holds_of_wide 3 Try.f3 rfl rfl rfl rfl rfl rfl rfl ⟨rfl, rfl, rfl, rfl, rfl⟩ rfl rfl rfl rfl rfl (by kernel_rfl) Try.func3 (by kernel_rfl)
    (of_decide_eq_true (by kernel_rfl)) (by unfold Func.isWrapper; first | (rw [if_pos (by decide +kernel)]; kernel_rfl) | (rw [if_neg (by decide +kernel)]; exact ⟨rfl, rfl⟩))
    (fun os started H enc _ => lifted os started H enc)

end Go.Proofs.Ythdmbggpokaggaa.addrWithin

namespace Go.Proofs.Ythdmbggpokaggaa
theorem addrWithin_holds : Rows.AddrWithinSaid := addrWithin.over
#print axioms addrWithin_holds
end Go.Proofs.Ythdmbggpokaggaa
