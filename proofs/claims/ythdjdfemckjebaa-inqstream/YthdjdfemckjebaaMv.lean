/-
  Contract of move (package inq).
-/
import Derived.Test.YthdjdfemckjebaaEd
namespace Go.Proofs.Ythdjdfemckjebaa
open Go.RowKit
set_option linter.unusedVariables false
set_option linter.unusedSimpArgs false

section
variable {b : Nat} {c : Nat → Option UInt8} {f n r g : Nat} {w : World}
set_option maxHeartbeats 2000000 in
theorem move_any (h : OM b c f n n r g w) (f1 : 1 ≤ f) (hf : f ≤ 1152921504606846976) (fn : f ≤ n) (hn : n ≤ f + 2048) (hc : ∀ p, (c p).isSome = true → p < f + 2048) (k : Nat) (hk1 : n ≤ k) (hk2 : ∀ p, n ≤ p → p < k → (c p).isSome = true) (hk3 : c k = none) (x : Nat) (hx : x = if k = g then k + 1 else k) (mv : Bool) (hmv : mv = decide (n < x)) :
    Calls Try.prog 26 #[.pointer (some ⟨b, 0, none⟩)] w fun e w' => e = .returned (.bool mv) ∧ OM b c f k x r g w' ∧ Kp [b] w w' := by
  have hk4 : k ≤ f + 2048 := by
    rcases Nat.lt_or_ge (f + 2048) k with h1 | h1
    · have := hc (f + 2048) (hk2 _ hn h1); omega
    · exact h1
  have H := Lib.hid h
  have c1 := h.cNext
  have HC := Lib.hid hc
  have HK2 := Lib.hid hk2
  have HK3 : Hid (c k = none) := hk3
  have HM := Lib.hid hmv
  clear h hc hk2 hk3 hmv
  go_enter Try.func26, Try.ntmps26
  go_wp2_with fail
  go_loopw [17] (fun _ W => ∃ m : Nat, n ≤ m ∧ m ≤ k ∧ OM b c f m m r g W ∧ Kp [b] w W) (fun _ W => f + 2048 - (match W.cell? ⟨b, 4097, none⟩ with | some v => (intOf v).toNat | none => 0))
  case atStart => exact ⟨n, Nat.le_refl _, hk1, H.out, Kp.refl _ _⟩
  case round =>
    obtain ⟨m, hm1, hm2, hO, hK⟩ := hrel
    have HO := Lib.hid hO
    have HK := Lib.hid hK
    clear hO hK H c1
    have b1 : (0 : Int) ≤ (m : Int) := by omega
    have b2 : (m : Int) ≤ 1152921504606849024 := by omega
    have c1 := HO.out.cNext
    have ct := HO.out.test (by omega) (by omega) HC.out f1
    have f1' := HO.out.free (2048 + m % 2048)
    rcases Nat.lt_or_ge m k with hlt | hge
    · rw [HK2.out m hm1 hlt] at ct
      have HS : Hid (∀ N, OM b c f (m + 1) (m + 1) r g (((wr.drewN N).setCell ⟨b, 2048 + m % 2048, none⟩ (.bool false)).setCell ⟨b, 4097, none⟩ (.int .i64 ((m : Int) + 1)))) := fun N => (HO.out.drewN N).step (by omega) (by omega)
      have KS : Hid (∀ N, Kp [b] w (((wr.drewN N).setCell ⟨b, 2048 + m % 2048, none⟩ (.bool false)).setCell ⟨b, 4097, none⟩ (.int .i64 ((m : Int) + 1)))) := fun N => ((HK.out.drewN N).setCell (Or.inl (by simp)) _).setCell (Or.inl (by simp)) _
      have CS : Hid (∀ N, ((wr.drewN N).setCell ⟨b, 2048 + m % 2048, none⟩ (.bool false)).cell? ⟨b, 4097, none⟩ = some (.int .i64 (m : Int)) ∧ ((wr.drewN N).setCell ⟨b, 2048 + m % 2048, none⟩ (.bool false)).frozen? ⟨b, 4097, none⟩ = false) := fun N => by
        obtain ⟨q, hq, k⟩ := HO.out
        have := (hq.drewN N).setThere (m % 2048) (by omega) false
        exact ⟨by rw [this.cNext]; exact congrArg _ (val_int k.next), this.free 4097⟩
      go_wp2_with fail
      go_quiet (fail)
      go_wp2_with fail
      go_region
      obtain ⟨c2, f2⟩ := CS.out (nq + 1)
      have HN := Lib.hid (HS.out (nq + 1))
      have KN := Lib.hid (KS.out (nq + 1))
      have cm := HN.out.cNext
      clear CS HS KS ct f1'
      generalize (wr.drewN (nq + 1)).setCell ⟨b, 2048 + m % 2048, none⟩ (.bool false) = W2 at *
      have CM := Lib.hid cm
      clear cm
      go_wp2_with fail
      go_roundw
      case rel => exact ⟨m + 1, by omega, by omega, HN.out, KN.out⟩
      case measure =>
        rw [CM.out, c1]
        simp only [intOf]
        omega
    · obtain rfl : m = k := by omega
      rw [HK3.out] at ct
      have ct : wr.cell? ⟨b, 2048 + m % 2048, none⟩ = some (.bool false) := ct
      have cg := HO.out.cFin
      clear f1'
      by_cases hg : m = g
      · have hx1 : x = m + 1 := by rw [hx]; exact if_pos hg
        have d1 : ((m : Int) == (g : Int)) = true := beq_iff_eq.2 (by omega)
        have d2 : (m : Int) = (g : Int) := by omega
        have d3 : decide ((n : Int) < (m : Int) + 1) = true := decide_eq_true (by omega)
        have HD : Hid (mv = true) := by show _ = _; rw [HM.out]; exact decide_eq_true (by omega)
        have HS : Hid (∀ N, OM b c f m x r g ((wr.drewN N).setCell ⟨b, 4097, none⟩ (.int .i64 ((m : Int) + 1)))) := fun N => by
          have := (HO.out.drewN N).setNext (m + 1)
          rw [hx1]; exact this
        have KS : Hid (∀ N, Kp [b] w ((wr.drewN N).setCell ⟨b, 4097, none⟩ (.int .i64 ((m : Int) + 1)))) := fun N => ((HK.out.drewN N).setCell (Or.inl (by simp)) _)
        have f2 := HO.out.free 4097
        clear hx hx1 hg d2
        go_wp2_with fail
        go_quiet (fail)
        go_wp2_with fail
        go_quiet (fail)
        go_wp2_with fail
        go_ret
        exact ⟨ret_bool HD.out.symm, HS.out _, KS.out _⟩
      · have hx1 : x = m := by rw [hx]; exact if_neg hg
        have d1 : ((m : Int) == (g : Int)) = false := beq_eq_false_iff_ne.2 (by omega)
        have d2 : ¬ (m : Int) = (g : Int) := by omega
        subst hx1
        clear hx hg
        have HD : Hid (mv = decide ((n : Int) < (x : Int))) := by show _ = _; rw [HM.out, decide_eq_decide]; omega
        go_wp2_with fail
        go_quiet (fail)
        go_wp2_with fail
        go_quiet (fail)
        go_wp2_with fail
        go_ret
        exact ⟨ret_bool HM.out.symm, HO.out.drewN _, HK.out.drewN _⟩
end
end Go.Proofs.Ythdjdfemckjebaa
