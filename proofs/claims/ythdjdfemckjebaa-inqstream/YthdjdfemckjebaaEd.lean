/-
  Contracts of end and move (package inq).
-/
import Derived.Test.YthdjdfemckjebaaGt
namespace Go.Proofs.Ythdjdfemckjebaa
open Go.RowKit
set_option linter.unusedVariables false
set_option linter.unusedSimpArgs false

section
variable {b : Nat} {c : Nat → Option UInt8} {f n r g : Nat} {w : World}
/-- What end makes of FIN. -/
def eend (f n r g : Nat) (q : Int) : Nat := if g = 0 ∧ (n : Int) ≤ q ∧ q ≤ f + 2048 ∧ (r : Int) ≤ q then q.toNat else g

set_option maxHeartbeats 1000000 in
theorem end_any (h : OM b c f n n r g w) (q : Int) (hf : f ≤ 1152921504606846976) (hn : n ≤ f + 2048) (hg : g ≤ f + 2048) (hr : r ≤ f + 2048) :
    Calls Try.prog 25 #[.pointer (some ⟨b, 0, none⟩), .int .i64 q] w fun e w' => e = .returned (.tuple #[]) ∧ OM b c f n n r (eend f n r g q) w' ∧ Kp [b] w w' := by
  have H := Lib.hid h
  have c1 := h.cNext
  have c2 := h.cFin
  have c3 := h.cReach
  have b1 : (0 : Int) ≤ (n : Int) := by omega
  have HEq : Hid (eend f n r g q = if g = 0 ∧ (n : Int) ≤ q ∧ q ≤ f + 2048 ∧ (r : Int) ≤ q then q.toNat else g) := rfl
  by_cases h0 : g = 0
  · have d0 : decide ((g : Int) = 0) = true := decide_eq_true (by omega)
    have d0' : ((g : Int) == 0) = true := by simpa using h0
    have HV : Hid (Calls Try.prog 31 #[.pointer (some ⟨b, 0, none⟩)] w fun e w' => e = .returned (.int .i64 (f + 2048)) ∧ ∃ m, w' = w.drewN m) := edge_raw h false (by rw [h0]; rfl) ((n : Int) - (f : Int)) rfl (by omega) (by omega) (by omega) _ (by omega)
    have hg2 : (g : Int) = 0 := by omega
    by_cases h1 : (n : Int) ≤ q
    · by_cases h2 : q ≤ f + 2048
      · by_cases h3 : (r : Int) ≤ q
        · have HE : Hid (eend f n r g q = q.toNat) := by show _ = _; rw [HEq.out]; exact if_pos ⟨h0, h1, h2, h3⟩
          have HF : Hid (∀ W, OM b c f n n r g W → OM b c f n n r q.toNat (W.setCell ⟨b, 4099, none⟩ (.int .i64 q))) := fun W h => by
            have := h.setFin q.toNat
            rwa [show ((q.toNat : Nat) : Int) = q from by omega] at this
          rw [hg2] at c2
          clear h h0 d0 d0' HEq hg hr hg2
          generalize eend f n r g q = E at *
          go_enter Try.func25, Try.ntmps25
          go_wp2_with fail
          refine HV.out.mono ?_
          rintro e w1 ⟨rfl, hm⟩
          have H1 : Hid (OM b c f n n r g w1) := by obtain ⟨m, rfl⟩ := hm; exact H.out
          have K1 : Hid (Kp [b] w w1) := by obtain ⟨m, rfl⟩ := hm; exact (Kp.refl _ _).drewN _
          have c3 := H1.out.cReach
          have f3 := H1.out.free 4099
          have c4 := H1.out.cFin
          have H2 := Lib.hid (HF.out _ H1.out)
          have K2 := Lib.hid (K1.out.setCell (p := ⟨b, 4099, none⟩) (Or.inl (by simp)) (.int .i64 q))
          clear H1 K1 HV H HF hm
          go_wp2_with fail
          refine bodyPost_end (results_none rfl _ _ _) rfl ?_
          exact ⟨rfl, by rw [HE.out]; exact H2.out, K2.out⟩
        · have HE : Hid (eend f n r g q = g) := by show _ = _; rw [HEq.out]; exact if_neg (fun h => h3 h.2.2.2)
          rw [hg2] at c2
          clear h h0 d0 d0' HEq hg hr hg2
          generalize eend f n r g q = E at *
          go_enter Try.func25, Try.ntmps25
          go_wp2_with fail
          refine HV.out.mono ?_
          rintro e w1 ⟨rfl, hm⟩
          have H1 : Hid (OM b c f n n r g w1) := by obtain ⟨m, rfl⟩ := hm; exact H.out
          have K1 : Hid (Kp [b] w w1) := by obtain ⟨m, rfl⟩ := hm; exact (Kp.refl _ _).drewN _
          have c3 := H1.out.cReach
          clear HV H hm
          go_wp2_with fail
          refine bodyPost_end (results_none rfl _ _ _) rfl ?_
          exact ⟨rfl, by rw [HE.out]; exact H1.out, K1.out⟩
      · have HE : Hid (eend f n r g q = g) := by show _ = _; rw [HEq.out]; exact if_neg (fun h => h2 h.2.2.1)
        rw [hg2] at c2
        clear h h0 d0 d0' HEq hg hr hg2
        generalize eend f n r g q = E at *
        go_enter Try.func25, Try.ntmps25
        go_wp2_with fail
        refine HV.out.mono ?_
        rintro e w1 ⟨rfl, hm⟩
        have H1 : Hid (OM b c f n n r g w1) := by obtain ⟨m, rfl⟩ := hm; exact H.out
        have K1 : Hid (Kp [b] w w1) := by obtain ⟨m, rfl⟩ := hm; exact (Kp.refl _ _).drewN _
        clear HV H hm
        go_wp2_with fail
        refine bodyPost_end (results_none rfl _ _ _) rfl ?_
        exact ⟨rfl, by rw [HE.out]; exact H1.out, K1.out⟩
    · have HE : Hid (eend f n r g q = g) := by show _ = _; rw [HEq.out]; exact if_neg (fun h => h1 h.2.1)
      rw [hg2] at c2
      clear h h0 d0 d0' HEq hg hr hg2
      generalize eend f n r g q = E at *
      go_enter Try.func25, Try.ntmps25
      go_wp2_with fail
      refine bodyPost_end (results_none rfl _ _ _) rfl ?_
      exact ⟨rfl, by rw [HE.out]; exact H.out, Kp.refl _ _⟩
  · have HE : Hid (eend f n r g q = g) := by show _ = _; rw [HEq.out]; exact if_neg (fun h => h0 h.1)
    have d0 : ((g : Int) == 0) = false := by simpa using h0
    have d1 : ¬ (g : Int) = 0 := by omega
    clear h h0 HEq hg hr
    generalize eend f n r g q = E at *
    go_enter Try.func25, Try.ntmps25
    go_wp2_with fail
    refine bodyPost_end (results_none rfl _ _ _) rfl ?_
    exact ⟨rfl, by rw [HE.out]; exact H.out, Kp.refl _ _⟩

/-- What move's loop keeps: Next is m. -/
theorem OM.test {m : Nat} {W : World} (h : OM b c f m m r g W) (h1 : f ≤ m) (h2 : m ≤ f + 2048) (hc : ∀ p, (c p).isSome = true → p < f + 2048) (hp : 1 ≤ f) : W.cell? ⟨b, 2048 + m % 2048, none⟩ = some (.bool (c m).isSome) := by
  obtain ⟨q, hq, k⟩ := h
  rw [hq.cThere _ (by omega), k.ring.test h1 h2 hc hp]
theorem OM.step {m : Nat} {W : World} (h : OM b c f m m r g W) (h1 : f ≤ m) (h2 : m < f + 2048) : OM b c f (m + 1) (m + 1) r g ((W.setCell ⟨b, 2048 + m % 2048, none⟩ (.bool false)).setCell ⟨b, 4097, none⟩ (.int .i64 ((m : Int) + 1))) := by
  obtain ⟨q, hq, k⟩ := h
  have := (hq.setThere (m % 2048) (by omega) false).setNext ((m : Int) + 1)
  exact ⟨_, this, k.ring.step h1 h2 _, k.first, by show (m : Int) + 1 = _; omega, k.reach, k.fin⟩
end
end Go.Proofs.Ythdjdfemckjebaa
