/-
  ConnBlind: what goes over while two connections come to be, by rounds.
-/
import Derived.Test.YtnhcjefbiihfjaaSd
namespace Go.Proofs.Ytnhcjefbiihfjaa
open Go.RowKit
open Tc (Sg gchk)
set_option linter.unusedVariables false
set_option linter.unusedSimpArgs false
section
variable {iss irs : Nat} {ma mb : Int}
theorem dialled_outC (la : Nat) (lp : Int) (ra : Nat) (rp : Int) (mss : Int) : (dialled la lp ra rp iss mss).outC = dialled la lp ra rp iss mss := by
  simp [Cn.outC, Cn.outP, Cn.outs, Cn.pieces, Cn.left, Cn.limit, Cn.more, Cn.firsts, Cn.look, Cn.waits, dialled, Cn.fresh, o1, Oq.enI, Oq.en, Oq.lst, Oq.nxG, Oq.go?, nil_size]
theorem dialled_outL (la : Nat) (lp : Int) (ra : Nat) (rp : Int) (mss : Int) : (dialled la lp ra rp iss mss).outL = [] := by
  simp [Cn.outL, Cn.outP, Cn.outs, Cn.pieces, Cn.left, Cn.limit, Cn.more, Cn.firsts, Cn.carry, dialled, Cn.fresh, o1, Oq.enI, Oq.en, Oq.lst, Oq.nxG, Oq.go?, nil_size]
theorem rcvd_outC0 (la : Nat) (lp : Int) (ra : Nat) (rp : Int) (told mss : Int) : (rcvd la lp ra rp iss irs told mss).outC = rcvd la lp ra rp iss irs told mss := rcvd_outC false
theorem rcvd_outL0 (la : Nat) (lp : Int) (ra : Nat) (rp : Int) (told mss : Int) : (rcvd la lp ra rp iss irs told mss).outL = [] := by
  simp [Cn.outL, Cn.outP, Cn.outs, Cn.pieces, Cn.left, Cn.limit, Cn.more, Cn.firsts, Cn.carry, rcvd, taken, Cn.fresh, o1, Oq.enI, Oq.en, Oq.lst, Oq.nxG, Oq.go?, nil_size]
/-- The first one's, the second one's state, and what the pair keeps, ahead of round i. -/
def blC (iss irs : Nat) (ma mb : Int) (i : Nat) : Cn := if i = 0 then dialled 1 40000 2 80 iss ma else estab 1 40000 2 80 iss irs ma (min ma mb) 0 false
def blE (iss irs : Nat) (ma mb : Int) (i : Nat) : Cn := if i ≤ 1 then rcvd 2 80 1 40000 irs iss mb (min mb ma) else estab 2 80 1 40000 irs iss mb (min mb ma) 1 false
def blA (iss irs : Nat) (mb : Int) (i : Nat) : List Sg := if i = 0 then [sackSg 2 80 1 40000 irs iss mb] else if i = 1 then [ackSg 1 40000 2 80 iss irs] else []
def blP (iss irs : Nat) (mb : Int) (i : Nat) : Pr :=
  if i = 0 then sd1 pr0 (sackSg 2 80 1 40000 irs iss mb)
  else if i = 1 then sd0 { sd1 pr0 (sackSg 2 80 1 40000 irs iss mb) with air := [] } (ackSg 1 40000 2 80 iss irs)
  else { sd0 { sd1 pr0 (sackSg 2 80 1 40000 irs iss mb) with air := [] } (ackSg 1 40000 2 80 iss irs) with air := [] }
theorem blP_air (i : Nat) : (blP iss irs mb i).air = blA iss irs mb i := by
  unfold blP blA
  have h1 : (sd1 pr0 (sackSg 2 80 1 40000 irs iss mb)).air = [sackSg 2 80 1 40000 irs iss mb] := by
    simp [sd1, push, edA, pr0, sackSg, synSg]
  have h2 : (sd0 { sd1 pr0 (sackSg 2 80 1 40000 irs iss mb) with air := [] } (ackSg 1 40000 2 80 iss irs)).air = [ackSg 1 40000 2 80 iss irs] := by
    unfold sd0 push edB
    split <;> split <;> simp_all
  split
  · exact h1
  · split
    · exact h2
    · rfl
/-- Ahead of the rounds: what goes out of both. -/
theorem bl_start (ha : 8 ≤ ma ∧ ma ≤ 1000) (hb : 8 ≤ mb ∧ mb ≤ 1000) (hj : irs < 4294967296) :
    (dialled 1 40000 2 80 iss ma).outC = blC iss irs ma mb 0 ∧ (taken 2 80 1 40000 irs iss mb (min mb ma)).outC = blE iss irs ma mb 0 ∧
    (taken 2 80 1 40000 irs iss mb (min mb ma)).outL.foldl sd1 ((dialled 1 40000 2 80 iss ma).outL.foldl sd0 pr0) = blP iss irs mb 0 ∧
    goes0 pr0 (dialled 1 40000 2 80 iss ma).outL ∧ goes1 ((dialled 1 40000 2 80 iss ma).outL.foldl sd0 pr0) (taken 2 80 1 40000 irs iss mb (min mb ma)).outL := by
  have hm : 8 ≤ min mb ma := by omega
  refine ⟨dialled_outC _ _ _ _ _, taken_outC hm, ?_, ?_, ?_⟩
  · rw [taken_outL hm hj, dialled_outL]; rfl
  · rw [dialled_outL]; trivial
  · rw [taken_outL hm hj, dialled_outL]
    exact ⟨⟨rfl, rfl, rfl, rfl, sack_chk hb.1 hb.2 (by decide) (by decide), fun h => by simp [pr0] at h⟩, trivial⟩
/-- What both do with what comes, in round i. -/
theorem bl_in (ha : 8 ≤ ma ∧ ma ≤ 1000) (hb : 8 ≤ mb ∧ mb ≤ 1000) :
    (dialled 1 40000 2 80 iss ma).inC (sackSg 2 80 1 40000 irs iss mb) = estab 1 40000 2 80 iss irs ma (min ma mb) 0 true ∧
    (rcvd 2 80 1 40000 irs iss mb (min mb ma)).inC (ackSg 1 40000 2 80 iss irs) = estab 2 80 1 40000 irs iss mb (min mb ma) 1 false :=
  ⟨(dialled_in ha.1 hb.1 hb.2 ha.2 (by decide) (by decide)).1, (rcvd_in (by decide) (by decide)).1⟩
end
end Go.Proofs.Ytnhcjefbiihfjaa
