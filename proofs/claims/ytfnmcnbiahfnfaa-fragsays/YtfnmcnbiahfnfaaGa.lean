/-
  Contracts of what looks at a fragment (package frag): endOf, fragFault, nameOf.
-/
import Derived.Test.YtfnmcnbiahfnfaaGm
import Derived.Test.YtfnmcnbiahfnfaaFrm
import Derived.BigQuiet
import Derived.Deep.QuietTactic
namespace Go.Proofs.Ytfnmcnbiahfnfaa
open Go.RowKit
set_option linter.unusedVariables false
set_option linter.unusedSimpArgs false

/-- Where a fragment ends. -/
def fend (p : Pk) : Int := p.off * 8 + (p.body.size : Int)
/-- What is wrong with p as a fragment by itself. -/
def ffl (p : Pk) : Int := if p.more = true ∧ (p.body.size = 0 ∨ p.body.size % 8 ≠ 0) then 4 else if 4000 < fend p then 2 else 0

theorem chk_zero {p : Pk} (h : chk p = 0) : (0 ≤ p.proto ∧ p.proto ≤ 255) ∧ (0 ≤ p.ttl ∧ p.ttl ≤ 255) ∧ (0 ≤ p.id ∧ p.id ≤ 65535) ∧ (0 ≤ p.off ∧ p.off ≤ 8191) ∧ p.body.size ≤ 1400 := by
  unfold chk at h
  split at h
  · cases h
  · rename_i hb
    split at h
    · cases h
    · unfold bads bad at hb; omega

theorem endOf_any (p : Pk) (w : World) (h : 0 ≤ p.off ∧ p.off ≤ 8191) (hs : p.body.size ≤ 140737488355328) :
    Calls Try.prog 37 #[pv p] w fun e w' => e = .returned (.int .i64 (fend p)) ∧ Below w.heap.size w w' := by
  have HF : Hid (fend p = p.off * 8 + (p.body.size : Int)) := rfl
  generalize fend p = F at *
  obtain ⟨h1, h2⟩ := h
  go_enter Try.func37, Try.ntmps37
  go_wp2_with fail
  go_ret
  exact ⟨ret_int HF.out.symm, (Below.refl _ _).alloc (Nat.le_refl _) _⟩

theorem empty_of (s : ByteArray) (h : s.size = 0) : s = ⟨#[]⟩ := by
  apply ByteArray.ext; exact Array.eq_empty_of_size_eq_zero h
theorem filled (s : ByteArray) (h : s.size ≠ 0) : s.toList.isEmpty = false := by
  rw [List.isEmpty_eq_false_iff]
  intro hc
  have := (toList_nil_iff_emptyBytes s).1 hc
  rw [this] at h; exact h rfl

set_option maxHeartbeats 1000000 in
theorem fragFault_any (p : Pk) (w : World) (h : chk p = 0) :
    Calls Try.prog 28 #[pv p] w fun e w' => e = .returned (.int .i64 (ffl p)) ∧ Below w.heap.size w w' := by
  obtain ⟨_, _, _, ho, hs⟩ := chk_zero h
  have HE : Hid (∀ w', Calls Try.prog 37 #[pv p] w' fun e w'' => e = .returned (.int .i64 (fend p)) ∧ Below w'.heap.size w' w'') := fun w' => endOf_any p w' ho (by omega)
  have HF : Hid (ffl p = if p.more = true ∧ (p.body.size = 0 ∨ p.body.size % 8 ≠ 0) then 4 else if 4000 < fend p then 2 else 0) := rfl
  have b0 : Below w.heap.size w (w.alloc (.cells (pc p) 24)) := (Below.refl _ _).alloc (Nat.le_refl _) _
  have P0 := Lib.hid (PB.new w p)
  have HU := Lib.hid Try.underlying24
  have HI : Hid ((Try.prog.info? 24).map (·.size) = some 9) := info24
  generalize ffl p = F at *
  generalize fend p = E at *
  have x6 := P0.out.c6
  have x8 := P0.out.c8
  clear h ho
  cases hm : p.more with
  | true =>
    rw [hm] at x6
    by_cases h0 : p.body.size = 0
    · have hF : F = 4 := by rw [HF.out, if_pos ⟨hm, Or.inl h0⟩]
      have hb := empty_of _ h0
      rw [hb] at x8
      have HM := Lib.hid hm
      have HB := Lib.hid hb
      clear hm h0 hb hs HF
      go_enter Try.func28, Try.ntmps28
      go_wp2_with fail
      go_ret
      exact ⟨ret_int hF.symm, b0⟩
    · have hne := filled _ h0
      by_cases h8 : p.body.size % 8 = 0
      · have h8' : ((p.body.size : Int) % 8 != 0) = false := by rw [bne_eq_false_iff_eq]; omega
        have hF : F = if 4000 < E then 2 else 0 := by rw [HF.out, if_neg (by simp [h0, h8])]
        have HM := Lib.hid hm
        clear hm h0 h8 HF
        go_enter Try.func28, Try.ntmps28
        go_wp2_with (refine wpList_load_mid rfl 24 _ rfl w.heap.size 0 rfl (pcl p) _ P0.out.range HU.out rfl HI.out ?_)
        refine (HE.out _).mono ?_; rintro e w1 ⟨rfl, hb1⟩
        have b1 := b0.trans (hb1.mono (by simp))
        by_cases h4 : 4000 < E
        · rw [if_pos h4] at hF
          go_wp2_with fail
          go_ret
          exact ⟨ret_int hF.symm, b1⟩
        · rw [if_neg h4] at hF
          go_wp2_with fail
          go_ret
          exact ⟨ret_int hF.symm, b1⟩
      · have h8' : ((p.body.size : Int) % 8 != 0) = true := by rw [bne_iff_ne]; omega
        have hF : F = 4 := by rw [HF.out, if_pos ⟨hm, Or.inr h8⟩]
        have HM := Lib.hid hm
        clear hm h0 h8 HF
        go_enter Try.func28, Try.ntmps28
        go_wp2_with fail
        go_ret
        exact ⟨ret_int hF.symm, b0⟩
  | false =>
    have hF : F = if 4000 < E then 2 else 0 := by rw [HF.out, if_neg (by simp [hm])]
    clear HF x6 x8 P0
    obtain ⟨src, dst, proto, ttl, id, dont, more, off, body⟩ := p
    simp only at hm hs
    subst hm
    go_enter Try.func28, Try.ntmps28
    go_wp2_with fail
    refine (HE.out _).mono ?_; rintro e w1 ⟨rfl, hb1⟩
    have b1 := b0.trans (hb1.mono (by simp))
    by_cases h4 : 4000 < E
    · rw [if_pos h4] at hF
      go_wp2_with fail
      go_ret
      exact ⟨ret_int hF.symm, b1⟩
    · rw [if_neg h4] at hF
      go_wp2_with fail
      go_ret
      exact ⟨ret_int hF.symm, b1⟩

theorem nameOf_any (p : Pk) (w : World) :
    Calls Try.prog 29 #[pv p] w fun e w' => e = .returned (nv (nmOf p)) ∧ Below w.heap.size w w' := by
  go_enter Try.func29, Try.ntmps29
  go_wp2_with fail
  exact bodyPost_ret (v := nv (nmOf p)) (by simp [results, Try.results29, go_sem, nmOf]) rfl ⟨rfl, ((Below.refl _ _).alloc (Nat.le_refl _) _).alloc (by simp) _⟩
end Go.Proofs.Ytfnmcnbiahfnfaa
