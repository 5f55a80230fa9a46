/-
  ConnBlind: the three segments that are handed to the first one when it is Established.
-/
import Derived.Test.YtnhcjefbiihfjaaBt
namespace Go.Proofs.Ytnhcjefbiihfjaa
open Go.RowKit
open Tc (Sg gchk)
set_option linter.unusedVariables false
set_option linter.unusedSimpArgs false
theorem blind_rst_ends {c : Cn} {g : Sg} (hs : c.st = 3) (h1 : gchk g = 0) (h2 : c.ours g = true) (hr : g.rst = true) (hn : g.sq ≠ c.next) (h : Sg) : (c.inC g).ours h = c.ours h := by
  have e := inE_ok h1 h2 (by rw [hs]; decide)
  unfold Cn.inC
  rw [if_neg (by rw [e]; decide), if_neg (by rw [hs]; decide)]
  unfold Cn.inLater
  split
  · unfold Cn.away Cn.again9
    rw [hr, if_pos rfl, if_neg (by rw [hs]; omega)]; rfl
  · rw [if_neg (fun e => hn e.2), if_pos (Or.inl hr)]; rfl
theorem blind_syn_ends {c : Cn} {g : Sg} (hs : c.st = 3) (h1 : gchk g = 0) (h2 : c.ours g = true) (hr : g.syn = true) (hf : g.rst = false) (h : Sg) : (c.inC g).ours h = c.ours h := by
  have e := inE_ok h1 h2 (by rw [hs]; decide)
  unfold Cn.inC
  rw [if_neg (by rw [e]; decide), if_neg (by rw [hs]; decide)]
  unfold Cn.inLater
  split
  · unfold Cn.away Cn.again9
    rw [hf]
    rw [if_neg (by show ¬ (c.st = 9 ∧ _); rw [hs]; omega)]; rfl
  · rw [if_neg (fun e => by rw [hf] at e; cases e.1), if_pos (Or.inr hr)]; rfl
def rsB (n : Nat) (win : Int) : Sg := { sa := 2, sp := 80, da := 1, dp := 40000, sq := n, ak := 0, syn := false, ack := false, fin := false, rst := true, win := win, mss := 0, body := ⟨#[]⟩ }
def syB (n : Nat) (win : Int) : Sg := { sa := 2, sp := 80, da := 1, dp := 40000, sq := n, ak := 0, syn := true, ack := false, fin := false, rst := false, win := win, mss := 0, body := ⟨#[]⟩ }
def otB (a : Nat) (p : Int) (n : Nat) : Sg := { sa := a, sp := p, da := 1, dp := 40000, sq := n, ak := 0, syn := false, ack := false, fin := false, rst := true, win := 0, mss := 0, body := ⟨#[]⟩ }
section
variable {iss irs : Nat} {told mss wp : Int}
theorem rsB_chk {n : Nat} {win : Int} (h : 0 ≤ win ∧ win ≤ 65535) : gchk (rsB n win) = 0 := by
  unfold gchk rsB
  rw [if_neg (by simp [Tc.badp, Tc.bad0]; omega), if_neg (by simp [Tc.frm]), if_neg (by show ¬ (1000 < (⟨#[]⟩ : ByteArray).size); decide)]
theorem syB_chk {n : Nat} {win : Int} (h : 0 ≤ win ∧ win ≤ 65535) : gchk (syB n win) = 0 := by
  unfold gchk syB
  rw [if_neg (by simp [Tc.badp, Tc.bad0]; omega), if_neg (by simp [Tc.frm]), if_neg (by show ¬ (1000 < (⟨#[]⟩ : ByteArray).size); decide)]
theorem estab_ours (g : Sg) : (estab 1 40000 2 80 iss irs told mss wp false).ours g = decide (g.sa = 2 ∧ g.sp = 80 ∧ g.da = 1 ∧ g.dp = 40000) := by
  rfl
theorem estab_next : (estab 1 40000 2 80 iss irs told mss wp false).next = Cn.nm irs 1 := by
  simp [Cn.next, Cn.nxtI, estab, taken, Cn.fresh, nxt0]
theorem estab_lets {win : Int} : (estab 1 40000 2 80 iss irs told mss wp false).lets (rsB (Cn.nm irs 1) win) = true := by
  unfold Cn.lets
  rw [estab_next, lnw_eq _ (by show (⟨#[]⟩ : ByteArray).size ≤ 1048576; decide)]
  have e1 : (estab 1 40000 2 80 iss irs told mss wp false).wndI = 2048 := by simp [Cn.wndI, estab, taken, Cn.fresh, wnd0]
  rw [e1]
  show Sq.acc (Cn.nm irs 1) ((((⟨#[]⟩ : ByteArray).size + false.toNat + false.toNat : Nat)) : Int) (Cn.nm irs 1) 2048 = true
  rw [acc_nm (by omega) (by omega) (by decide) (by decide)]
  decide
/-- The place is the one that is awaited: it is broken off. -/
theorem bl_hit {win : Int} (h : 0 ≤ win ∧ win ≤ 65535) : (estab 1 40000 2 80 iss irs told mss wp false).inE (rsB (Cn.nm irs 1) win) = 0 ∧ ((estab 1 40000 2 80 iss irs told mss wp false).inC (rsB (Cn.nm irs 1) win)).st = 0 ∧ ((estab 1 40000 2 80 iss irs told mss wp false).inC (rsB (Cn.nm irs 1) win)).why = 12 :=
  hit_rst rfl (rsB_chk h) rfl rfl estab_next.symm estab_lets
/-- Else nothing comes of it, nor of a SYN. -/
theorem bl_miss {win : Int} {n : Nat} (h : 0 ≤ win ∧ win ≤ 65535) (hn : n ≠ Cn.nm irs 1) {c : Cn} (hc : c = estab 1 40000 2 80 iss irs told mss wp false) :
    (c.inE (rsB n win) = 0 ∧ (c.inC (rsB n win)).st = 3) ∧ ((c.inC (rsB n win)).inE (syB n win) = 0 ∧ ((c.inC (rsB n win)).inC (syB n win)).st = 3) ∧
    ∀ g, ((c.inC (rsB n win)).inC (syB n win)).ours g = decide (g.sa = 2 ∧ g.sp = 80 ∧ g.da = 1 ∧ g.dp = 40000) := by
  subst hc
  have hs : (estab 1 40000 2 80 iss irs told mss wp false).st = 3 := rfl
  have hne : (rsB n win).sq ≠ (estab 1 40000 2 80 iss irs told mss wp false).next := by rw [estab_next]; exact hn
  have a1 := blind_rst hs (rsB_chk (n := n) h) rfl rfl hne
  have a2 := blind_rst_ends hs (rsB_chk (n := n) h) rfl rfl hne
  have o1 : ((estab 1 40000 2 80 iss irs told mss wp false).inC (rsB n win)).ours (syB n win) = true := (a2 _).trans rfl
  have b1 := blind_syn a1.2 (syB_chk (n := n) h) o1 rfl rfl
  have b2 := blind_syn_ends a1.2 (syB_chk (n := n) h) o1 rfl rfl
  exact ⟨a1, b1, fun g => (b2 g).trans ((a2 g).trans (estab_ours g))⟩
/-- From another end nothing is taken. -/
theorem bl_other {c : Cn} (hs : c.st = 3) (ho : ∀ g, c.ours g = decide (g.sa = 2 ∧ g.sp = 80 ∧ g.da = 1 ∧ g.dp = 40000)) (a : Nat) (p : Int) (n : Nat) :
    ((a = 2 ∧ p = 80) → c.inE (otB a p n) = 0) ∧ (¬ (a = 2 ∧ p = 80) → c.inE (otB a p n) ≠ 0 ∧ (c.inC (otB a p n)).st = 3) := by
  have hk : c.ours (otB a p n) = decide (a = 2 ∧ p = 80) := by
    rw [ho]; simp [otB]
  refine ⟨fun h => ?_, fun h => ?_⟩
  · obtain ⟨rfl, rfl⟩ := h
    exact inE_ok (rsB_chk (n := n) (win := 0) (by decide)) (hk.trans (by decide)) (by rw [hs]; decide)
  · have e : c.inE (otB a p n) ≠ 0 := by
      unfold Cn.inE
      by_cases h1 : gchk (otB a p n) ≠ 0
      · rw [if_pos h1]; exact h1
      · rw [if_neg h1, if_pos (hk.trans (decide_eq_false h))]; decide
    refine ⟨e, ?_⟩
    unfold Cn.inC
    rw [if_pos e]; exact hs
end
/-! A round: what came has been handed on; what both send then. -/
def blC' (iss irs : Nat) (ma mb : Int) (i : Nat) : Cn := if i = 0 then estab 1 40000 2 80 iss irs ma (min ma mb) 0 true else blC iss irs ma mb i
def blE' (iss irs : Nat) (ma mb : Int) (i : Nat) : Cn := if i = 1 then estab 2 80 1 40000 irs iss mb (min mb ma) 1 false else blE iss irs ma mb i
theorem bl_round {iss irs : Nat} {ma mb : Int} (i : Nat) {p : Pr} (hp : p = { blP iss irs mb i with air := [] }) :
    (blC' iss irs ma mb i).outC = blC iss irs ma mb (i + 1) ∧ (blE' iss irs ma mb i).outC = blE iss irs ma mb (i + 1) ∧
    (blE' iss irs ma mb i).outL.foldl sd1 ((blC' iss irs ma mb i).outL.foldl sd0 p) = blP iss irs mb (i + 1) ∧
    goes0 p (blC' iss irs ma mb i).outL ∧ goes1 ((blC' iss irs ma mb i).outL.foldl sd0 p) (blE' iss irs ma mb i).outL := by
  subst hp
  rcases i with _ | _ | i
  · have eC : blC' iss irs ma mb 0 = estab 1 40000 2 80 iss irs ma (min ma mb) 0 true := rfl
    have eE : blE' iss irs ma mb 0 = rcvd 2 80 1 40000 irs iss mb (min mb ma) := rfl
    rw [eC, eE, estab_outC, estab_outL, rcvd_outC0, rcvd_outL0, if_pos rfl]
    exact ⟨rfl, rfl, rfl, ⟨⟨rfl, rfl, rfl, rfl, ack_chk (by decide) (by decide), fun h => absurd h.2.1 (by show ¬ (0 < (⟨#[]⟩ : ByteArray).size); decide)⟩, trivial⟩, trivial⟩
  · have eC : blC' iss irs ma mb 1 = estab 1 40000 2 80 iss irs ma (min ma mb) 0 false := rfl
    have eE : blE' iss irs ma mb 1 = estab 2 80 1 40000 irs iss mb (min mb ma) 1 false := rfl
    rw [eC, eE, estab_outC, estab_outL, estab_outC, estab_outL]
    exact ⟨rfl, rfl, rfl, trivial, trivial⟩
  · have eC : blC' iss irs ma mb (i + 2) = estab 1 40000 2 80 iss irs ma (min ma mb) 0 false := rfl
    have eE : blE' iss irs ma mb (i + 2) = estab 2 80 1 40000 irs iss mb (min mb ma) 1 false := by unfold blE' blE; rw [if_neg (by omega), if_neg (by omega)]
    rw [eC, eE, estab_outC, estab_outL, estab_outC, estab_outL]
    refine ⟨rfl, ?_, ?_, trivial, trivial⟩
    · unfold blE; rw [if_neg (by omega)]
    · have e1 : blP iss irs mb (i + 2) = blP iss irs mb 2 := by unfold blP; rw [if_neg (by omega), if_neg (by omega), if_neg (by omega), if_neg (by omega)]
      have e2 : blP iss irs mb (i + 2 + 1) = blP iss irs mb 2 := by unfold blP; rw [if_neg (by omega), if_neg (by omega), if_neg (by omega), if_neg (by omega)]
      rw [e1, e2]; rfl
/-- What the first, the second one does with what is in the air. -/
theorem bl_first {iss irs : Nat} {ma mb : Int} (ha : 8 ≤ ma ∧ ma ≤ 1000) (hb : 8 ≤ mb ∧ mb ≤ 1000) : (blC iss irs ma mb 0).inC (sackSg 2 80 1 40000 irs iss mb) = blC' iss irs ma mb 0 ∧ (blE iss irs ma mb 1).inC (ackSg 1 40000 2 80 iss irs) = blE' iss irs ma mb 1 := bl_in ha hb
/-- Whatever each is in a round, it is in order. -/
theorem bl_oks {iss irs : Nat} {ma mb : Int} (hi : iss < 4294967296) (hj : irs < 4294967296) (hA : 8 ≤ ma ∧ ma ≤ 1000) (hB : 8 ≤ mb ∧ mb ≤ 1000) :
    COk 0 (dialled 1 40000 2 80 iss ma) ∧ COk 0 (taken 2 80 1 40000 irs iss mb (min mb ma)) ∧ COk 0 (rcvd 2 80 1 40000 irs iss mb (min mb ma)) ∧ COk 2 (estab 1 40000 2 80 iss irs ma (min ma mb) 0 true) ∧ COk 2 (estab 1 40000 2 80 iss irs ma (min ma mb) 0 false) ∧ COk 2 (estab 2 80 1 40000 irs iss mb (min mb ma) 1 false) ∧
    SOk (sackSg 2 80 1 40000 irs iss mb) ∧ SOk (ackSg 1 40000 2 80 iss irs) := by
  have hm : 8 ≤ min mb ma := by omega
  have ok0 : COk 0 (dialled 1 40000 2 80 iss ma) := by
    rw [← fresh_outC hA.1]
    exact (COk.fresh (by decide) (by decide) hi (by decide) (by decide) hA).outC (by unfold Few; omega)
  have okt : COk 0 (taken 2 80 1 40000 irs iss mb (min mb ma)) := by
    have h1 := (COk.fresh (la := 2) (ra := 1) (lp := 80) (rp := 40000) (by decide) (by decide) hj (by decide) (by decide) hB).meet (g := synSg 1 40000 2 80 iss ma) hi (by show (0 : Int) ≤ 2048 ∧ (2048 : Int) ≤ 65535; decide) (by show 0 ≤ ma; omega)
    have h2 := h1.setSt 2 (by decide) (fun e => by cases e)
    have m1 : Cn.mssOf (synSg 1 40000 2 80 iss ma) = ma := by
      show (if ma = 0 then (536 : Int) else max ma 8) = ma
      rw [if_neg (by omega)]; omega
    unfold Cn.meet at h2
    rw [m1] at h2
    exact h2
  have okr : COk 0 (rcvd 2 80 1 40000 irs iss mb (min mb ma)) := by rw [← taken_outC hm]; exact okt.outC (by unfold Few; omega)
  have sk1 : SOk (sackSg 2 80 1 40000 irs iss mb) := ⟨by show 2 < 4294967296; decide, by show 1 < 4294967296; decide, hj, nm_lt iss 1⟩
  have sk2 : SOk (ackSg 1 40000 2 80 iss irs) := ⟨by show 1 < 4294967296; decide, by show 2 < 4294967296; decide, nm_lt iss 1, nm_lt irs 1⟩
  have i1 := (bl_in (iss := iss) (irs := irs) hA hB).1
  have i2 := (bl_in (iss := iss) (irs := irs) hA hB).2
  have oke : COk 2 (estab 1 40000 2 80 iss irs ma (min ma mb) 0 true) := by rw [← i1]; exact ok0.inC sk1
  have okf : COk 2 (estab 1 40000 2 80 iss irs ma (min ma mb) 0 false) := by rw [← estab_outC true]; exact oke.outC (by unfold Few; omega)
  have okg : COk 2 (estab 2 80 1 40000 irs iss mb (min mb ma) 1 false) := by rw [← i2]; exact okr.inC sk2
  exact ⟨ok0, okt, okr, oke, okf, okg, sk1, sk2⟩
theorem bl_ok {iss irs : Nat} {ma mb : Int} (hi : iss < 4294967296) (hj : irs < 4294967296) (hA : 8 ≤ ma ∧ ma ≤ 1000) (hB : 8 ≤ mb ∧ mb ≤ 1000) (i : Nat) :
    (∃ k, Few k ∧ COk k (blC iss irs ma mb i)) ∧ (∃ k, Few k ∧ COk k (blC' iss irs ma mb i)) ∧ (∃ k, Few k ∧ COk k (blE iss irs ma mb i)) ∧ (∃ k, Few k ∧ COk k (blE' iss irs ma mb i)) := by
  obtain ⟨a, b, c, d, e, f, _⟩ := bl_oks hi hj hA hB
  have f0 : Few 0 := by unfold Few; omega
  have f2 : Few 2 := by unfold Few; omega
  refine ⟨?_, ?_, ?_, ?_⟩
  all_goals (try unfold blC'); (try unfold blE'); (try unfold blC); (try unfold blE)
  all_goals (repeat' split)
  all_goals first | exact ⟨0, f0, a⟩ | exact ⟨0, f0, c⟩ | exact ⟨2, f2, d⟩ | exact ⟨2, f2, e⟩ | exact ⟨2, f2, f⟩
end Go.Proofs.Ytnhcjefbiihfjaa
