import Derived.Test.YtnhcjefbiihfjaaPl
namespace Go.Proofs.Ytnhcjefbiihfjaa
open Go.RowKit
open Tc (Sg gchk)
set_option linter.unusedVariables false
set_option linter.unusedSimpArgs false

theorem nil_size : (⟨#[]⟩ : ByteArray).size = 0 := rfl
theorem put_nil {t : Iq.St} (h : Iq.Ok t) (q : Int) : Iq.put t q ⟨#[]⟩ false = t := by
  have e0 : ((⟨#[]⟩ : ByteArray).size : Int) = 0 := rfl
  have hb : Iq.bh t q ⟨#[]⟩ ≤ Iq.fr t q := by
    have := (Iq.bh_le t q ⟨#[]⟩).2.1
    unfold Iq.fr; omega
  have e1 : Iq.cput t q ⟨#[]⟩ = t.c := by
    funext p
    exact Iq.cput_out (by omega)
  have e2 : Iq.rput t q ⟨#[]⟩ = t.r := by unfold Iq.rput; rw [if_neg (by omega)]
  have e3 : Iq.eput t q ⟨#[]⟩ false = t.e := Iq.eput_false t q _
  have e4 : Iq.nput t q ⟨#[]⟩ = t.n := by
    refine (Iq.nput_eq h q ⟨#[]⟩ (Nat.le_refl _) (fun p h1 h2 => absurd h2 (Nat.not_lt.2 h1)) ?_).symm
    rw [e1]; exact h.at'
  unfold Iq.put
  split
  · rfl
  · rw [e1, e2, e3, e4]
def o1 : Oq.St := ⟨⟨#[]⟩, false, 0, 1, 1⟩
def o2 : Oq.St := ⟨⟨#[]⟩, false, 1, 1, 1⟩
/-- A SYN that has gone out. -/
def dialled (la : Nat) (lp : Int) (ra : Nat) (rp : Int) (iss : Nat) (mss : Int) : Cn := { Cn.fresh la lp ra rp iss mss with o := o1, run := true, beh := 1 }
def synSg (la : Nat) (lp : Int) (ra : Nat) (rp : Int) (iss : Nat) (mss : Int) : Sg := { sa := la, sp := lp, da := ra, dp := rp, sq := iss, ak := 0, syn := true, ack := false, fin := false, rst := false, win := 2048, mss := mss, body := ⟨#[]⟩ }
/-- Its answer. -/
def sackSg (la : Nat) (lp : Int) (ra : Nat) (rp : Int) (iss irs : Nat) (mss : Int) : Sg := { synSg la lp ra rp iss mss with ack := true, ak := Cn.nm irs 1 }
/-- An ACK alone. -/
def ackSg (la : Nat) (lp : Int) (ra : Nat) (rp : Int) (iss irs : Nat) : Sg := { sa := la, sp := lp, da := ra, dp := rp, sq := Cn.nm iss 1, ak := Cn.nm irs 1, syn := false, ack := true, fin := false, rst := false, win := 2048, mss := 0, body := ⟨#[]⟩ }
/-- A SYN has come, and none has gone out. -/
def taken (la : Nat) (lp : Int) (ra : Nat) (rp : Int) (iss irs : Nat) (told mss : Int) : Cn := { Cn.fresh la lp ra rp iss told with irs := irs, st := 2, mss := mss, i := some Iq.st0, wnd := 2048, cw := Cw.wn0 mss }
/-- It was answered. -/
def rcvd (la : Nat) (lp : Int) (ra : Nat) (rp : Int) (iss irs : Nat) (told mss : Int) : Cn := { taken la lp ra rp iss irs told mss with o := o1, run := true, beh := 1 }
/-- Established. -/
def estab (la : Nat) (lp : Int) (ra : Nat) (rp : Int) (iss irs : Nat) (told mss wp : Int) (ack : Bool) : Cn := { taken la lp ra rp iss irs told mss with st := 3, o := o2, wp := wp, cw := Cw.ack (Cw.wn0 mss) 1, tm := Rt.smp Rt.tm0 0, ack := ack }
section
variable {la ra iss irs : Nat} {lp rp told mss mo wp : Int}
theorem fresh_outC (h : 8 ≤ mss) : (Cn.fresh la lp ra rp iss mss).outC = dialled la lp ra rp iss mss := by
  have h1 : (1 : Int) ≤ mss := by omega
  simp [Cn.outC, Cn.outP, Cn.outs, Cn.pieces, Cn.fresh, Cn.left, Cn.limit, Cn.more, Cn.piece, Cn.firsts, Cn.measure, Cn.look, Cn.waits, dialled, o1, Oq.enI, Oq.en, Oq.lst, Oq.st0, Oq.nxG, Oq.go?, Oq.nx, Oq.nxC, Oq.nxP, Oq.py, Oq.pz, Oq.plen, nil_size, h1]
  decide
theorem fresh_outL (h : 8 ≤ mss) (hi : iss < 4294967296) : (Cn.fresh la lp ra rp iss mss).outL = [synSg la lp ra rp iss mss] := by
  have h1 : (1 : Int) ≤ mss := by omega
  simp [Cn.outL, Cn.outP, Cn.outs, Cn.pieces, Cn.fresh, Cn.left, Cn.limit, Cn.more, Cn.piece, Cn.firsts, Cn.measure, Cn.look, Cn.waits, Cn.carry, Cn.wndI, synSg, o1, Oq.enI, Oq.en, Oq.lst, Oq.st0, Oq.nxG, Oq.go?, Oq.nx, Oq.nxC, Oq.nxP, Oq.py, Oq.pz, Oq.plen, nil_size, h1, nm_0 hi]
theorem taken_outC (h : 8 ≤ mss) : (taken la lp ra rp iss irs told mss).outC = rcvd la lp ra rp iss irs told mss := by
  have h1 : (1 : Int) ≤ mss := by omega
  simp [Cn.outC, Cn.outP, Cn.outs, Cn.pieces, Cn.fresh, Cn.left, Cn.limit, Cn.more, Cn.piece, Cn.firsts, Cn.measure, Cn.look, Cn.waits, taken, rcvd, o1, Oq.enI, Oq.en, Oq.lst, Oq.st0, Oq.nxG, Oq.go?, Oq.nx, Oq.nxC, Oq.nxP, Oq.py, Oq.pz, Oq.plen, nil_size, h1]
  decide
theorem taken_outL (h : 8 ≤ mss) (hi : iss < 4294967296) : (taken la lp ra rp iss irs told mss).outL = [sackSg la lp ra rp iss irs told] := by
  have h1 : (1 : Int) ≤ mss := by omega
  have e1 : Iq.wnd Iq.st0 = 2048 := by decide
  have e2 : Iq.nxt Iq.st0 = 1 := by decide
  simp [Cn.outL, Cn.outP, Cn.outs, Cn.pieces, Cn.fresh, Cn.left, Cn.limit, Cn.more, Cn.piece, Cn.firsts, Cn.measure, Cn.look, Cn.waits, Cn.carry, Cn.wndI, Cn.nxtI, Cn.next, synSg, sackSg, taken, o1, Oq.enI, Oq.en, Oq.lst, Oq.st0, Oq.nxG, Oq.go?, Oq.nx, Oq.nxC, Oq.nxP, Oq.py, Oq.pz, Oq.plen, nil_size, h1, nm_0 hi, e1, e2]
/-- What was dialled gets an answer. -/
theorem dialled_in (h : 8 ≤ mss) (hm : 8 ≤ mo) (ho : mo ≤ 1000) (h1 : mss ≤ 1000) (hl : 1 ≤ lp ∧ lp ≤ 65535) (hr : 1 ≤ rp ∧ rp ≤ 65535) : (dialled la lp ra rp iss mss).inC (sackSg ra rp la lp irs iss mo) = estab la lp ra rp iss irs mss (min mss mo) 0 true ∧ (dialled la lp ra rp iss mss).inE (sackSg ra rp la lp irs iss mo) = 0 := by
  have e0 : gchk (sackSg ra rp la lp irs iss mo) = 0 := by
    unfold gchk sackSg synSg
    rw [if_neg (by simp [Tc.badp, Tc.bad0]; omega), if_neg (by simp [Tc.frm]), if_neg (by show ¬ (1000 < (⟨#[]⟩ : ByteArray).size); decide)]
  have e1 : (dialled la lp ra rp iss mss).ours (sackSg ra rp la lp irs iss mo) = true := by simp [Cn.ours, dialled, sackSg, synSg, Cn.fresh]
  have e2 : (dialled la lp ra rp iss mss).inE (sackSg ra rp la lp irs iss mo) = 0 := by
    unfold Cn.inE; rw [if_neg (by rw [e0]; decide), if_neg (by rw [e1]; decide), if_neg (by show ¬ ((1 : Int) = 0); decide)]
  refine ⟨?_, e2⟩
  unfold Cn.inC
  rw [if_neg (by rw [e2]; decide), if_pos (show (dialled la lp ra rp iss mss).st = 1 from rfl)]
  have m1 : Cn.mssOf (sackSg ra rp la lp irs iss mo) = mo := by
    show (if mo = 0 then (536 : Int) else max mo 8) = mo
    rw [if_neg (by omega)]; omega
  have m2 : Cn.mssOf { sa := ra, sp := rp, da := la, dp := lp, sq := irs, ak := Cn.nm iss 1, syn := true, ack := true, fin := false, rst := false, win := 2048, mss := mo, body := ⟨#[]⟩ } = mo := m1
  simp [Cn.inSyn, sackSg, synSg, dialled, Cn.fresh, o1, o2, Cn.answerSyn, Cn.meet, Cn.acked, Cn.look, Cn.waits, estab, taken, Oq.ak, Oq.akN, Oq.enI, Oq.en, Oq.lst, nil_size, m2]
/-- One that is Established: what goes out. -/
theorem estab_outC (a : Bool) : (estab la lp ra rp iss irs told mss wp a).outC = estab la lp ra rp iss irs told mss wp false := by
  have e1 : ∀ x : Int, ¬ (1 < min x 1) := fun x => by omega
  simp [Cn.outC, Cn.outP, Cn.outs, Cn.pieces, Cn.fresh, Cn.left, Cn.limit, Cn.more, Cn.firsts, Cn.look, Cn.waits, taken, estab, o2, Oq.enI, Oq.en, Oq.lst, Oq.nxG, Oq.go?, nil_size, e1]
theorem estab_outL (a : Bool) : (estab la lp ra rp iss irs told mss wp a).outL = if a then [ackSg la lp ra rp iss irs] else [] := by
  have e1 : ∀ x : Int, ¬ (1 < min x 1) := fun x => by omega
  have e2 : Iq.wnd Iq.st0 = 2048 := by decide
  have e3 : Iq.nxt Iq.st0 = 1 := by decide
  cases a
  · simp [Cn.outL, Cn.outP, Cn.outs, Cn.pieces, Cn.fresh, Cn.left, Cn.limit, Cn.more, Cn.firsts, taken, estab, o2, Oq.enI, Oq.en, Oq.lst, Oq.nxG, Oq.go?, nil_size, e1]
  · simp [Cn.outL, Cn.outP, Cn.outs, Cn.pieces, Cn.fresh, Cn.left, Cn.limit, Cn.more, Cn.firsts, Cn.carry, Cn.wndI, Cn.nxtI, Cn.next, ackSg, taken, estab, o2, Oq.enI, Oq.en, Oq.lst, Oq.nxG, Oq.go?, nil_size, e1, e2, e3]
theorem lnw_eq (g : Sg) (h : g.body.size ≤ 1048576) : Tc.lnw g = g.body.size + g.syn.toNat + g.fin.toNat := by
  unfold Tc.lnw
  have := Bool.toNat_le g.syn
  have := Bool.toNat_le g.fin
  rw [IntKind.wrap_i64, IntKind.wrap_i64]
  omega
/-- An ACK comes to one that has answered a SYN. -/
theorem ack_chk (hl : 1 ≤ lp ∧ lp ≤ 65535) (hr : 1 ≤ rp ∧ rp ≤ 65535) : gchk (ackSg la lp ra rp iss irs) = 0 := by
  unfold gchk ackSg
  rw [if_neg (by simp [Tc.badp, Tc.bad0]; omega), if_neg (by simp [Tc.frm]), if_neg (by show ¬ (1000 < (⟨#[]⟩ : ByteArray).size); decide)]
theorem sack_chk (hm : 8 ≤ mo) (ho : mo ≤ 1000) (hl : 1 ≤ lp ∧ lp ≤ 65535) (hr : 1 ≤ rp ∧ rp ≤ 65535) : gchk (sackSg la lp ra rp iss irs mo) = 0 := by
  unfold gchk sackSg synSg
  rw [if_neg (by simp [Tc.badp, Tc.bad0]; omega), if_neg (by simp [Tc.frm]), if_neg (by show ¬ (1000 < (⟨#[]⟩ : ByteArray).size); decide)]
theorem syn_chk (hm : 8 ≤ mo) (ho : mo ≤ 1000) (hl : 1 ≤ lp ∧ lp ≤ 65535) (hr : 1 ≤ rp ∧ rp ≤ 65535) : gchk (synSg la lp ra rp iss mo) = 0 := by
  unfold gchk synSg
  rw [if_neg (by simp [Tc.badp, Tc.bad0]; omega), if_neg (by simp [Tc.frm]), if_neg (by show ¬ (1000 < (⟨#[]⟩ : ByteArray).size); decide)]
theorem inE_ok {c : Cn} {g : Sg} (h1 : gchk g = 0) (h2 : c.ours g = true) (h3 : c.st ≠ 0) : c.inE g = 0 := by
  unfold Cn.inE; rw [if_neg (by rw [h1]; decide), if_neg (by rw [h2]; decide), if_neg h3]
theorem nxt0 : Iq.nxt Iq.st0 = 1 := by decide
theorem wnd0 : Iq.wnd Iq.st0 = 2048 := by decide
theorem over0 : Iq.over Iq.st0 = false := by decide
theorem rcvd_in (hl : 1 ≤ lp ∧ lp ≤ 65535) (hr : 1 ≤ rp ∧ rp ≤ 65535) : (rcvd la lp ra rp iss irs told mss).inC (ackSg ra rp la lp irs iss) = estab la lp ra rp iss irs told mss 1 false ∧ (rcvd la lp ra rp iss irs told mss).inE (ackSg ra rp la lp irs iss) = 0 := by
  have e2 : (rcvd la lp ra rp iss irs told mss).inE (ackSg ra rp la lp irs iss) = 0 := inE_ok (ack_chk hr hl) (by simp [Cn.ours, rcvd, taken, ackSg, Cn.fresh]) (by show ¬ ((2 : Int) = 0); decide)
  refine ⟨?_, e2⟩
  unfold Cn.inC
  rw [if_neg (by rw [e2]; decide), if_neg (show ¬ (rcvd la lp ra rp iss irs told mss).st = 1 from by show ¬ ((2 : Int) = 1); decide)]
  have l0 : Tc.lnw (ackSg ra rp la lp irs iss) = 0 := by rw [lnw_eq _ (by show (⟨#[]⟩ : ByteArray).size ≤ 1048576; decide)]; rfl
  have n1 : (rcvd la lp ra rp iss irs told mss).next = Cn.nm irs 1 := by simp [Cn.next, Cn.nxtI, rcvd, taken, Cn.fresh, nxt0]
  have h1 : (rcvd la lp ra rp iss irs told mss).lets (ackSg ra rp la lp irs iss) = true := by
    unfold Cn.lets
    rw [l0, n1]
    show Sq.acc (Cn.nm irs 1 : Nat) 0 (Cn.nm irs 1 : Nat) (Iq.wnd Iq.st0) = true
    rw [acc_nm (by omega) (by omega) (by omega) (by rw [wnd0]; decide), wnd0]; decide
  have h2 : (rcvd la lp ra rp iss irs told mss).ackAt (ackSg ra rp la lp irs iss) = 1 := by
    show Sq.near ((((Cn.nm iss 1 : Nat) : Int) - (iss : Int)) % 4294967296) 0 = 1
    exact near_nm (by decide) (by decide) (by decide) (by decide)
  have h3 : (rcvd la lp ra rp iss irs told mss).plcAt (ackSg ra rp la lp irs iss) = 1 := by
    unfold Cn.plcAt
    rw [show (rcvd la lp ra rp iss irs told mss).nxtI = 1 from by simp [Cn.nxtI, rcvd, taken, Cn.fresh, nxt0]]
    show Sq.near ((((Cn.nm irs 1 : Nat) : Int) - (irs : Int)) % 4294967296) 1 = 1
    exact near_nm (by decide) (by decide) (by decide) (by decide)
  have h4 : Iq.put Iq.st0 1 ⟨#[]⟩ false = Iq.st0 := put_nil Iq.st0_ok 1
  unfold Cn.inLater
  rw [if_neg (by rw [h1]; decide)]
  unfold Cn.follow
  rw [h2, h3]
  simp [ackSg] at l0
  simp [rcvd, taken, Cn.fresh, o1, ackSg, Cn.mayAck, Cn.takeAck, Cn.acked, Cn.ripen, Cn.takeBody, Cn.putI, Cn.overI, h4, l0, over0, Cn.look, Cn.waits, estab, o2, Oq.ak, Oq.akN, Oq.enI, Oq.en, Oq.lst, nil_size]
/-- Two SYNs that meet. -/
def crossed (la : Nat) (lp : Int) (ra : Nat) (rp : Int) (iss irs : Nat) (told mss : Int) : Cn := { taken la lp ra rp iss irs told mss with o := ⟨⟨#[]⟩, false, 0, 0, 1⟩, beh := 1 }
theorem cross_in (h : 8 ≤ mss) (hm : 8 ≤ mo) (ho : mo ≤ 1000) (h1 : mss ≤ 1000) (hl : 1 ≤ lp ∧ lp ≤ 65535) (hr : 1 ≤ rp ∧ rp ≤ 65535) : (dialled la lp ra rp iss mss).inC (synSg ra rp la lp irs mo) = crossed la lp ra rp iss irs mss (min mss mo) := by
  have e2 : (dialled la lp ra rp iss mss).inE (synSg ra rp la lp irs mo) = 0 := inE_ok (syn_chk hm ho hr hl) (by simp [Cn.ours, dialled, synSg, Cn.fresh]) (by show ¬ ((1 : Int) = 0); decide)
  unfold Cn.inC
  rw [if_neg (by rw [e2]; decide), if_pos (show (dialled la lp ra rp iss mss).st = 1 from rfl)]
  have m2 : Cn.mssOf (synSg ra rp la lp irs mo) = mo := by
    show (if mo = 0 then (536 : Int) else max mo 8) = mo
    rw [if_neg (by omega)]; omega
  simp [synSg] at m2
  simp [Cn.inSyn, synSg, dialled, Cn.fresh, o1, Cn.answerSyn, Cn.meet, Cn.look, Cn.waits, crossed, taken, Oq.bk, m2]
theorem crossed_outC (h : 8 ≤ mss) : (crossed la lp ra rp iss irs told mss).outC = rcvd la lp ra rp iss irs told mss := by
  have h1 : (1 : Int) ≤ mss := by omega
  simp [Cn.outC, Cn.outP, Cn.outs, Cn.pieces, Cn.fresh, Cn.left, Cn.limit, Cn.more, Cn.piece, Cn.firsts, Cn.measure, Cn.look, Cn.waits, crossed, taken, rcvd, o1, Oq.enI, Oq.en, Oq.lst, Oq.st0, Oq.nxG, Oq.go?, Oq.nx, Oq.nxC, Oq.nxP, Oq.py, Oq.pz, Oq.plen, nil_size, h1]
theorem crossed_outL (h : 8 ≤ mss) (hi : iss < 4294967296) : (crossed la lp ra rp iss irs told mss).outL = [sackSg la lp ra rp iss irs told] := by
  have h1 : (1 : Int) ≤ mss := by omega
  simp [Cn.outL, Cn.outP, Cn.outs, Cn.pieces, Cn.fresh, Cn.left, Cn.limit, Cn.more, Cn.piece, Cn.firsts, Cn.measure, Cn.look, Cn.waits, Cn.carry, Cn.wndI, Cn.nxtI, Cn.next, synSg, sackSg, crossed, taken, o1, Oq.enI, Oq.en, Oq.lst, Oq.st0, Oq.nxG, Oq.go?, Oq.nx, Oq.nxC, Oq.nxP, Oq.py, Oq.pz, Oq.plen, nil_size, h1, nm_0 hi, nxt0, wnd0]
theorem rcvd_away (hi : irs < 4294967296) (hm : 8 ≤ mo) (ho : mo ≤ 1000) (hl : 1 ≤ lp ∧ lp ≤ 65535) (hr : 1 ≤ rp ∧ rp ≤ 65535) : (rcvd la lp ra rp iss irs told mss).inC (sackSg ra rp la lp irs iss mo) = { rcvd la lp ra rp iss irs told mss with ack := true } := by
  have e2 : (rcvd la lp ra rp iss irs told mss).inE (sackSg ra rp la lp irs iss mo) = 0 := inE_ok (sack_chk hm ho hr hl) (by simp [Cn.ours, rcvd, taken, sackSg, synSg, Cn.fresh]) (by show ¬ ((2 : Int) = 0); decide)
  unfold Cn.inC
  rw [if_neg (by rw [e2]; decide), if_neg (show ¬ (rcvd la lp ra rp iss irs told mss).st = 1 from by show ¬ ((2 : Int) = 1); decide)]
  have l0 : Tc.lnw (sackSg ra rp la lp irs iss mo) = 1 := by rw [lnw_eq _ (by show (⟨#[]⟩ : ByteArray).size ≤ 1048576; decide)]; rfl
  have n1 : (rcvd la lp ra rp iss irs told mss).next = Cn.nm irs 1 := by simp [Cn.next, Cn.nxtI, rcvd, taken, Cn.fresh, nxt0]
  have h1 : (rcvd la lp ra rp iss irs told mss).lets (sackSg ra rp la lp irs iss mo) = false := by
    unfold Cn.lets
    rw [l0, n1]
    show Sq.acc (irs : Nat) 1 (Cn.nm irs 1 : Nat) (Iq.wnd Iq.st0) = false
    have := acc_nm (s := irs) (p := 0) (l := 1) (q := 1) (m := 2048) (by omega) (by omega) (by omega) (by omega)
    rw [nm_0 hi] at this
    rw [wnd0, this]; decide
  unfold Cn.inLater
  rw [if_pos h1]
  simp [rcvd, taken, Cn.fresh, o1, sackSg, synSg, Cn.away, Cn.again9, Cn.look, Cn.waits]
theorem rcvd_outC (a : Bool) : ({ rcvd la lp ra rp iss irs told mss with ack := a } : Cn).outC = rcvd la lp ra rp iss irs told mss := by
  simp [Cn.outC, Cn.outP, Cn.outs, Cn.pieces, Cn.fresh, Cn.left, Cn.limit, Cn.more, Cn.firsts, Cn.look, Cn.waits, taken, rcvd, o1, Oq.enI, Oq.en, Oq.lst, Oq.nxG, Oq.go?, nil_size]
theorem rcvd_outL : ({ rcvd la lp ra rp iss irs told mss with ack := true } : Cn).outL = [ackSg la lp ra rp iss irs] := by
  simp [Cn.outL, Cn.outP, Cn.outs, Cn.pieces, Cn.fresh, Cn.left, Cn.limit, Cn.more, Cn.firsts, Cn.carry, Cn.wndI, Cn.nxtI, Cn.next, ackSg, taken, rcvd, o1, Oq.enI, Oq.en, Oq.lst, Oq.nxG, Oq.go?, nil_size, nxt0, wnd0]
/-- Time goes by. -/
theorem estab_tick (n : Int) (h0 : 0 ≤ n) (h1 : n ≤ 1000) (a : Bool) : (estab la lp ra rp iss irs told mss wp a).tickC n = { estab la lp ra rp iss irs told mss wp a with time := n } := by
  have e : (estab la lp ra rp iss irs told mss wp a).tickE n = 0 := by
    unfold Cn.tickE; rw [if_neg]; show ¬ (n < 0 ∨ 1099511627776 - 0 < n); omega
  unfold Cn.tickC
  rw [if_neg (by rw [e]; decide)]
  simp [Cn.tick1, Cn.look, Cn.waits, estab, taken, Cn.fresh, o2]
theorem estab_outLt (n : Int) : ({ estab la lp ra rp iss irs told mss wp false with time := n } : Cn).outL = [] := by
  have e1 : ∀ x : Int, ¬ (1 < min x 1) := fun x => by omega
  simp [Cn.outL, Cn.outP, Cn.outs, Cn.pieces, Cn.fresh, Cn.left, Cn.limit, Cn.more, Cn.firsts, taken, estab, o2, Oq.enI, Oq.en, Oq.lst, Oq.nxG, Oq.go?, nil_size, e1]
theorem estab_outCt (n : Int) : ({ estab la lp ra rp iss irs told mss wp false with time := n } : Cn).outC = { estab la lp ra rp iss irs told mss wp false with time := n } := by
  have e1 : ∀ x : Int, ¬ (1 < min x 1) := fun x => by omega
  simp [Cn.outC, Cn.outP, Cn.outs, Cn.pieces, Cn.fresh, Cn.left, Cn.limit, Cn.more, Cn.firsts, Cn.look, Cn.waits, taken, estab, o2, Oq.enI, Oq.en, Oq.lst, Oq.nxG, Oq.go?, nil_size, e1]
theorem estab_ready (n : Int) : ({ estab la lp ra rp iss irs told mss wp false with time := n } : Cn).ready = 2 := by
  have e1 : Oq.rmI o2 = 2048 := by decide
  have e2 : Iq.rdy Iq.st0 = 0 := by decide
  simp [Cn.ready, Cn.rdyI, Cn.overI, estab, taken, Cn.fresh, e1, e2, over0]
/-- A RST, a SYN of somebody who guesses. -/
theorem look_st (c : Cn) : c.look.st = c.st := rfl
theorem blind_rst {c : Cn} {g : Sg} (hs : c.st = 3) (h1 : gchk g = 0) (h2 : c.ours g = true) (hr : g.rst = true) (hn : g.sq ≠ c.next) : c.inE g = 0 ∧ (c.inC g).st = 3 := by
  have e := inE_ok h1 h2 (by rw [hs]; decide)
  refine ⟨e, ?_⟩
  unfold Cn.inC
  rw [if_neg (by rw [e]; decide), if_neg (by rw [hs]; decide), look_st]
  unfold Cn.inLater
  split
  · unfold Cn.away Cn.again9
    rw [hr, if_pos rfl, if_neg (by rw [hs]; omega)]; exact hs
  · rw [if_neg (fun e => hn e.2), if_pos (Or.inl hr)]; exact hs
theorem blind_syn {c : Cn} {g : Sg} (hs : c.st = 3) (h1 : gchk g = 0) (h2 : c.ours g = true) (hr : g.syn = true) (hf : g.rst = false) : c.inE g = 0 ∧ (c.inC g).st = 3 := by
  have e := inE_ok h1 h2 (by rw [hs]; decide)
  refine ⟨e, ?_⟩
  unfold Cn.inC
  rw [if_neg (by rw [e]; decide), if_neg (by rw [hs]; decide), look_st]
  unfold Cn.inLater
  split
  · unfold Cn.away Cn.again9
    rw [hf]
    rw [if_neg (by show ¬ (c.st = 9 ∧ _); rw [hs]; omega)]; exact hs
  · rw [if_neg (fun e => by rw [hf] at e; cases e.1), if_pos (Or.inr hr)]; exact hs
theorem hit_rst {c : Cn} {g : Sg} (hs : c.st = 3) (h1 : gchk g = 0) (h2 : c.ours g = true) (hr : g.rst = true) (hn : g.sq = c.next) (hl : c.lets g = true) : c.inE g = 0 ∧ (c.inC g).st = 0 ∧ (c.inC g).why = 12 := by
  have e := inE_ok h1 h2 (by rw [hs]; decide)
  refine ⟨e, ?_⟩
  have : c.inC g = (c.done 12).look := by
    unfold Cn.inC
    rw [if_neg (by rw [e]; decide), if_neg (by rw [hs]; decide)]
    unfold Cn.inLater
    rw [if_neg (by rw [hl]; decide), if_pos ⟨hr, hn⟩]
    unfold Cn.broken
    rw [if_neg (by rw [hs]; decide)]
  rw [this]; exact ⟨rfl, rfl⟩
end
/-! Two who dial one another: what each is behind so many rounds, and what it has sent. -/
section
variable {la ra iss irs : Nat} {lp rp ma mb : Int}
def bothC (la : Nat) (lp : Int) (ra : Nat) (rp : Int) (iss irs : Nat) (ma mb : Int) (i : Nat) : Cn :=
  if i = 0 then dialled la lp ra rp iss ma else if i = 1 ∨ i = 2 then rcvd la lp ra rp iss irs ma (min ma mb) else estab la lp ra rp iss irs ma (min ma mb) 1 false
def bothL (la : Nat) (lp : Int) (ra : Nat) (rp : Int) (iss irs : Nat) (ma : Int) (i : Nat) : List Sg :=
  if i = 0 then [synSg la lp ra rp iss ma] else if i = 1 then [sackSg la lp ra rp iss irs ma] else if i = 2 then [ackSg la lp ra rp iss irs] else []
theorem bothL_len (i : Nat) : (bothL la lp ra rp iss irs ma i).length ≤ 1 := by
  unfold bothL
  repeat' split
  all_goals simp
theorem both_ok (hl : la < 4294967296) (hr : ra < 4294967296) (hi : iss < 4294967296) (i : Nat) : ∀ g ∈ bothL la lp ra rp iss irs ma i, SOk g := by
  intro g hg
  unfold bothL at hg
  split at hg
  · obtain rfl : g = _ := by simpa using hg
    exact ⟨hl, hr, hi, by show 0 < 4294967296; decide⟩
  · split at hg
    · obtain rfl : g = _ := by simpa using hg
      exact ⟨hl, hr, hi, nm_lt irs 1⟩
    · split at hg
      · obtain rfl : g = _ := by simpa using hg
        exact ⟨hl, hr, nm_lt iss 1, nm_lt irs 1⟩
      · simp at hg
theorem both_step (hi : iss < 4294967296) (hj : irs < 4294967296) (ha : 8 ≤ ma ∧ ma ≤ 1000) (hb : 8 ≤ mb ∧ mb ≤ 1000) (hl : 1 ≤ lp ∧ lp ≤ 65535) (hr : 1 ≤ rp ∧ rp ≤ 65535) (i : Nat) :
    ((bothL ra rp la lp irs iss mb i).foldl Cn.inC (bothC la lp ra rp iss irs ma mb i)).outC = bothC la lp ra rp iss irs ma mb (i + 1) ∧ ((bothL ra rp la lp irs iss mb i).foldl Cn.inC (bothC la lp ra rp iss irs ma mb i)).outL = bothL la lp ra rp iss irs ma (i + 1) := by
  have hm : 8 ≤ min ma mb := by omega
  by_cases h0 : i = 0
  · subst h0
    show ((dialled la lp ra rp iss ma).inC (synSg ra rp la lp irs mb)).outC = rcvd la lp ra rp iss irs ma (min ma mb) ∧ ((dialled la lp ra rp iss ma).inC (synSg ra rp la lp irs mb)).outL = [sackSg la lp ra rp iss irs ma]
    rw [cross_in ha.1 hb.1 hb.2 ha.2 hl hr]
    exact ⟨crossed_outC hm, crossed_outL hm hi⟩
  · by_cases h1 : i = 1
    · subst h1
      show ((rcvd la lp ra rp iss irs ma (min ma mb)).inC (sackSg ra rp la lp irs iss mb)).outC = rcvd la lp ra rp iss irs ma (min ma mb) ∧ ((rcvd la lp ra rp iss irs ma (min ma mb)).inC (sackSg ra rp la lp irs iss mb)).outL = [ackSg la lp ra rp iss irs]
      rw [rcvd_away hj hb.1 hb.2 hl hr]
      exact ⟨rcvd_outC true, rcvd_outL⟩
    · by_cases h2 : i = 2
      · subst h2
        show ((rcvd la lp ra rp iss irs ma (min ma mb)).inC (ackSg ra rp la lp irs iss)).outC = estab la lp ra rp iss irs ma (min ma mb) 1 false ∧ ((rcvd la lp ra rp iss irs ma (min ma mb)).inC (ackSg ra rp la lp irs iss)).outL = []
        rw [(rcvd_in hl hr).1]
        exact ⟨estab_outC false, estab_outL false⟩
      · have e1 : bothL ra rp la lp irs iss mb i = [] := by unfold bothL; rw [if_neg h0, if_neg h1, if_neg h2]
        have e2 : bothC la lp ra rp iss irs ma mb i = estab la lp ra rp iss irs ma (min ma mb) 1 false := by unfold bothC; rw [if_neg h0, if_neg (by omega)]
        have e3 : bothC la lp ra rp iss irs ma mb (i + 1) = estab la lp ra rp iss irs ma (min ma mb) 1 false := by unfold bothC; rw [if_neg (by omega), if_neg (by omega)]
        have e4 : bothL la lp ra rp iss irs ma (i + 1) = [] := by unfold bothL; rw [if_neg (by omega), if_neg (by omega), if_neg (by omega)]
        rw [e1, e2, e3, e4]
        exact ⟨estab_outC false, estab_outL false⟩
end
end Go.Proofs.Ytnhcjefbiihfjaa
