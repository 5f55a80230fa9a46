/-
  What always holds of a connection; each call keeps it.
-/
import Derived.Test.YtnhcjefbiihfjaaCb
namespace Go.Proofs.Ytnhcjefbiihfjaa
open Go.RowKit
open Tc (Sg gchk)
set_option linter.unusedVariables false
set_option linter.unusedSimpArgs false

/-- What always holds of a connection behind k calls. -/
structure COk (k : Nat) (c : Cn) : Prop where
  o : Oq.Ok c.o
  oA : c.o.A.size ≤ 2048 * k
  i : ∀ t, c.i = some t → Iq.Ok t ∧ t.f ≤ 2048 * k + 1
  cw : Cw.WOk c.cw
  tm : Rt.TOk c.tm
  td : 8 ≤ c.told ∧ c.told ≤ 1000
  ms : 8 ≤ c.mss ∧ c.mss ≤ 1000
  wn : 0 ≤ c.wnd ∧ c.wnd ≤ 65535
  ti : 0 ≤ c.time ∧ c.time ≤ 1099511627776
  bg : 0 ≤ c.beg ∧ c.beg ≤ c.time
  sn : 0 ≤ c.snc ∧ c.snc ≤ c.time
  wt : 0 ≤ c.wts ∧ c.wts ≤ 1099511627796
  go : 0 ≤ c.gone ∧ c.gone ≤ 8
  sa : 0 ≤ c.same ∧ c.same ≤ k
  bh : 0 ≤ c.beh ∧ c.beh ≤ 1125899906850000
  wp : -2305843009213693952 ≤ c.wp ∧ c.wp ≤ 2305843009213693952
  st : 0 ≤ c.st ∧ c.st ≤ 9
  si : c.i = none → c.st = 0 ∨ c.st = 1
  is : c.iss < 4294967296
  ir : c.irs < 4294967296
  rs : c.rst.length ≤ k
  rn : ∀ n ∈ c.rst, n < 4294967296
  lp : 1 ≤ c.lp ∧ c.lp ≤ 65535
  rp : 1 ≤ c.rp ∧ c.rp ≤ 65535
  la : c.la < 4294967296
  ra : c.ra < 4294967296
/-- So many calls there may be. -/
abbrev Few (k : Nat) : Prop := k ≤ 549755813888
section
variable {k : Nat} {c : Cn}
theorem COk.oA' (h : COk k c) (hk : Few k) : c.o.A.size ≤ 1125899906842624 := by have := h.oA; unfold Few at hk; omega
theorem COk.ob (h : COk k c) (hk : Few k) : 0 ≤ c.o.u ∧ c.o.u ≤ c.o.c ∧ c.o.c ≤ c.o.s ∧ c.o.s ≤ Oq.enI c.o ∧ Oq.enI c.o ≤ 1125899906842626 := by
  have hA := h.oA' hk
  have := h.o.u0; have := h.o.uc; have := h.o.cs; have := h.o.se
  obtain ⟨e0, e1⟩ := Oq.en_le (Oq.lst c.o) c.o.sh
  unfold Oq.enI Oq.lst at *
  omega
theorem COk.ib (h : COk k c) (hk : Few k) {t : Iq.St} (ht : c.i = some t) : 1 ≤ t.f ∧ t.f ≤ 1125899906842625 ∧ t.f ≤ t.n ∧ t.n ≤ t.f + 2048 ∧ 0 ≤ Iq.wnd t ∧ Iq.wnd t ≤ 2048 ∧ Iq.nxt t ≤ t.n + 1 := by
  obtain ⟨o, hf⟩ := h.i t ht
  have := o.f1; have := o.fn; have := o.nw; have := Iq.nxt_le t
  unfold Few at hk
  unfold Iq.wnd
  omega
theorem nm_lt (s : Nat) (p : Int) : Cn.nm s p < 4294967296 := by unfold Cn.nm; omega
theorem nm_cast (s : Nat) (p : Int) : ((Cn.nm s p : Nat) : Int) = ((s : Int) + p) % 4294967296 := by unfold Cn.nm; omega
theorem COk.fl (h : COk k c) (hk : Few k) : 0 ≤ c.flight ∧ c.flight ≤ 1125899906842626 := by
  obtain ⟨a, b, d, e, f⟩ := h.ob hk
  unfold Cn.flight; omega
/-- Without a SYN of the other side there is no queue of what comes. -/
theorem COk.has (h : COk k c) (h0 : c.st ≠ 0) (h1 : c.st ≠ 1) : ∃ t, c.i = some t := by
  rcases hi : c.i with _ | t
  · rcases h.si hi with e | e
    · exact absurd e h0
    · exact absurd e h1
  · exact ⟨t, rfl⟩
theorem COk.mono (h : COk k c) {k' : Nat} (hk : k ≤ k') : COk k' c :=
  { h with
    oA := by have := h.oA; omega
    i := fun t ht => ⟨(h.i t ht).1, by have := (h.i t ht).2; omega⟩
    sa := ⟨h.sa.1, by have := h.sa.2; omega⟩
    rs := by have := h.rs; omega }
theorem COk.look (h : COk k c) : COk k c.look :=
  { h with
    bg := by
      show 0 ≤ (if Cn.waits c && !c.run then c.time else c.beg) ∧ (if Cn.waits c && !c.run then c.time else c.beg) ≤ c.time
      have := h.bg; have := h.ti
      split <;> omega }
theorem COk.done (h : COk k c) (w : Int) : COk k (c.done w) :=
  { h with
    st := ⟨Int.le_refl 0, (by decide : (0 : Int) ≤ 9)⟩
    si := fun _ => Or.inl rfl }
theorem COk.ask (h : COk k c) {n : Nat} (hn : n < 4294967296) : COk (k + 1) (c.ask n) :=
  { h.mono (Nat.le_succ k) with
    rs := by show (c.rst ++ [n]).length ≤ k + 1; have := h.rs; simp; omega
    rn := fun m hm => by
      have hm : m ∈ c.rst ++ [n] := hm
      rcases List.mem_append.1 hm with e | e
      · exact h.rn m e
      · have : m = n := by simpa using e
        omega }
theorem COk.endOut (h : COk k c) : COk k c.endOut :=
  { h with
    o := h.o.cl
    st := by
      show 0 ≤ (if c.st = 3 then (4 : Int) else if c.st = 6 then 8 else c.st) ∧ (if c.st = 3 then (4 : Int) else if c.st = 6 then 8 else c.st) ≤ 9
      have := h.st
      split
      · omega
      · split <;> omega
    si := fun hi => by
      show (if c.st = 3 then (4 : Int) else if c.st = 6 then 8 else c.st) = 0 ∨ (if c.st = 3 then (4 : Int) else if c.st = 6 then 8 else c.st) = 1
      rcases h.si hi with e | e <;> rw [e] <;> decide }
theorem mssOf_lo {g : Sg} (h : 0 ≤ g.mss) : 8 ≤ Cn.mssOf g := by unfold Cn.mssOf; split <;> omega
theorem COk.meet (h : COk k c) {g : Sg} (hs : g.sq < 4294967296) (hw : 0 ≤ g.win ∧ g.win ≤ 65535) (hm : 0 ≤ g.mss) : COk k (c.meet g) := by
  have h1 := mssOf_lo hm
  have h2 := h.td
  have h3 : 8 ≤ min c.told (Cn.mssOf g) ∧ min c.told (Cn.mssOf g) ≤ 1000 := by omega
  exact { h with
    i := fun t ht => by
      cases ht
      exact ⟨Iq.st0_ok, by show 1 ≤ 2048 * k + 1; omega⟩
    cw := Cw.wn0_ok h3.1 h3.2
    ms := h3
    wn := hw
    si := fun hi => by cases hi
    ir := hs }
theorem COk.wait (h : COk k c) (hi : c.i ≠ none) : COk k c.wait :=
  { h with
    st := ⟨(by decide : (0 : Int) ≤ 9), Int.le_refl 9⟩
    wt := by show 0 ≤ c.time + 20 ∧ c.time + 20 ≤ 1099511627796; have := h.ti; omega
    si := fun e => absurd e hi }
/-- A state is set. -/
theorem COk.setSt (h : COk k c) (s : Int) (hs : 0 ≤ s ∧ s ≤ 9) (hi : c.i ≠ none) : COk k { c with st := s } := { h with st := hs, si := fun e => absurd e hi }
theorem COk.setAck (h : COk k c) (a : Bool) : COk k { c with ack := a } := { h with }
theorem COk.acked (h : COk k c) (a : Int) : COk k (c.acked a) := by
  have h1 := h.ti
  have h2 := h.sn
  have h3 := h.bh
  have h4 := h.ms
  have ho := h.o.ak a
  have e1 : (Oq.ak c.o a).A = c.o.A := by unfold Oq.ak; split <;> rfl
  have e2 : (Oq.ak c.o a).sh = c.o.sh := by unfold Oq.ak; split <;> rfl
  exact { h with
    o := ho
    oA := by show (Oq.ak c.o a).A.size ≤ _; rw [e1]; exact h.oA
    cw := h.cw.ack _
    tm := by
      show Rt.TOk (if _ then _ else _)
      split
      · exact h.tm.smp (by omega) (by omega)
      · exact h.tm
    bg := ⟨h1.1, Int.le_refl _⟩
    sn := by
      show 0 ≤ (if 0 < c.beh ∧ c.beh ≤ a then (0 : Int) else c.snc) ∧ (if 0 < c.beh ∧ c.beh ≤ a then (0 : Int) else c.snc) ≤ c.time
      split <;> omega
    bh := by
      show 0 ≤ (if 0 < c.beh ∧ c.beh ≤ a then (0 : Int) else c.beh) ∧ (if 0 < c.beh ∧ c.beh ≤ a then (0 : Int) else c.beh) ≤ _
      split <;> omega
    go := ⟨Int.le_refl 0, by show (0 : Int) ≤ 8; decide⟩
    sa := ⟨Int.le_refl 0, by show (0 : Int) ≤ _; omega⟩ }
theorem COk.answerSyn (h : COk k c) (acks : Bool) (hi : c.i ≠ none) : COk k (c.answerSyn acks) := by
  unfold Cn.answerSyn
  split
  · exact ((h.acked 1).setSt 3 (by decide) hi).setAck true
  · exact { h with o := h.o.bk, st := ⟨by show (0 : Int) ≤ 2; decide, by show (2 : Int) ≤ 9; decide⟩, si := fun e => absurd e hi }
/-- A segment's numbers are such. -/
structure SOk (g : Sg) : Prop where
  sa : g.sa < 4294967296
  da : g.da < 4294967296
  sq : g.sq < 4294967296
  ak : g.ak < 4294967296
/-- What Check lets pass. -/
theorem chk_ok {g : Sg} (h : gchk g = 0) : (0 ≤ g.win ∧ g.win ≤ 65535) ∧ (0 ≤ g.mss ∧ g.mss ≤ 65535) ∧ g.body.size ≤ 1000 := by
  obtain ⟨_, _, _, _, a, b, c, d, _, e⟩ := Tc.gchk_ok h
  exact ⟨⟨a, b⟩, ⟨c, d⟩, e⟩
theorem COk.inSyn (h : COk k c) {g : Sg} (hs : SOk g) (hg : gchk g = 0) : COk (k + 1) (c.inSyn g) := by
  obtain ⟨hw, hm, _⟩ := chk_ok hg
  have h1 := h.mono (Nat.le_succ k)
  unfold Cn.inSyn
  split
  · split
    · exact h1
    · exact h.ask hs.ak
  · split
    · split
      · exact h1.done 11
      · exact h1
    · split
      · exact (h1.meet hs.sq hw hm.1).answerSyn g.ack (fun e => by cases e)
      · exact h1
theorem COk.again9 (h : COk k c) (g : Sg) : COk k (c.again9 g) := by
  unfold Cn.again9
  split
  · rename_i hc
    obtain ⟨t, ht⟩ := h.has (by rw [hc.1]; decide) (by rw [hc.1]; decide)
    exact h.wait (by rw [ht]; simp)
  · exact h
theorem COk.away (h : COk k c) (g : Sg) : COk k (c.away g) := by
  unfold Cn.away
  split
  · exact h.again9 g
  · exact (h.setAck true).again9 g
theorem COk.broken (h : COk k c) : COk k c.broken := by
  unfold Cn.broken
  split <;> exact h.done _
theorem COk.onceMore (h : COk k c) : COk (k + 1) c.onceMore := by
  have h1 := h.mono (Nat.le_succ k)
  have h2 := h.sa
  have h3 := h.ti
  unfold Cn.onceMore
  split
  · exact { h1 with
      sa := by show 0 ≤ c.same + 1 ∧ c.same + 1 ≤ _; omega
      cw := h.cw.lost _
      bh := ⟨Int.le_refl 0, by show (0 : Int) ≤ _; decide⟩
      sn := ⟨Int.le_refl 0, h3.1⟩ }
  · exact { h1 with sa := by show 0 ≤ c.same + 1 ∧ c.same + 1 ≤ _; omega }
theorem near_bd (n p : Int) : -2147483648 ≤ Sq.near n p ∧ Sq.near n p ≤ 1152921506754330623 := by
  have h1 := Sq.dif_lo n (Sq.clampAt p)
  have h2 := Sq.dif_hi n (Sq.clampAt p)
  have h3 : 0 ≤ Sq.clampAt p ∧ Sq.clampAt p ≤ 1152921504606846976 := by
    unfold Sq.clampAt
    split
    · omega
    · split <;> omega
  unfold Sq.near
  omega
theorem COk.takeAck (h : COk k c) {g : Sg} (hg : gchk g = 0) (a p : Int) (hp : -2147483648 ≤ p ∧ p ≤ 1152921506754330623) : COk (k + 1) (c.takeAck g a p) := by
  obtain ⟨hw, _⟩ := chk_ok hg
  have h1 : COk (k + 1) (if c.o.u < a then c.acked a else if a = c.o.u ∧ Tc.lnw g = 0 ∧ 0 < c.flight ∧ g.win = c.wnd then c.onceMore else c) := by
    split
    · exact (h.acked a).mono (Nat.le_succ k)
    · split
      · exact h.onceMore
      · exact h.mono (Nat.le_succ k)
  unfold Cn.takeAck
  dsimp only
  split
  · exact { h1 with wn := hw, wp := by show _ ≤ p ∧ p ≤ _; omega }
  · exact h1
theorem COk.ripen (h : COk k c) (hi : c.i ≠ none) : COk k c.ripen := by
  unfold Cn.ripen
  split
  · split
    · exact h.setSt 5 (by decide) hi
    · split
      · exact h.wait hi
      · split
        · exact h.done 0
        · exact h
  · exact h
theorem COk.heard (h : COk k c) (hi : c.i ≠ none) : COk k c.heard := by
  unfold Cn.heard
  split
  · exact h.setSt 6 (by decide) hi
  · split
    · exact h.setSt 7 (by decide) hi
    · split
      · exact h.wait hi
      · exact h
theorem put_f (t : Iq.St) (q : Int) (x : ByteArray) (f : Bool) : (Iq.put t q x f).f = t.f := by unfold Iq.put; split <;> rfl
theorem COk.putI (h : COk k c) (g : Sg) (p : Int) : COk k (c.putI g p) :=
  { h with
    i := fun t ht => by
      rcases hi : c.i with _ | t0
      · have : (c.putI g p).i = none := by show c.i.map _ = none; rw [hi]; rfl
        rw [this] at ht; cases ht
      · have : (c.putI g p).i = some (Iq.put t0 p g.body g.fin) := by show c.i.map _ = _; rw [hi]; rfl
        rw [this] at ht; cases ht
        exact ⟨(h.i t0 hi).1.put p g.body g.fin, by rw [put_f]; exact (h.i t0 hi).2⟩
    si := fun e => h.si (by
      have e : c.i.map (fun t => Iq.put t p g.body g.fin) = none := e
      simpa using e) }
theorem putI_i {g : Sg} {p : Int} (hi : c.i ≠ none) : (c.putI g p).i ≠ none := fun e => hi (by
  have e : c.i.map (fun t => Iq.put t p g.body g.fin) = none := e
  simpa using e)
theorem COk.takeBody (h : COk k c) (g : Sg) (p : Int) (hi : c.i ≠ none) : COk k (c.takeBody g p) := by
  have h1 : COk k (if c.st = 3 ∨ c.st = 4 ∨ c.st = 5 then (if Cn.overI (c.putI g p) then (c.putI g p).heard else c.putI g p) else c.again9 g) := by
    split
    · split
      · exact (h.putI g p).heard (putI_i hi)
      · exact h.putI g p
    · exact h.again9 g
  unfold Cn.takeBody
  dsimp only
  split
  · exact h1.setAck true
  · exact h1
theorem mayAck_i (c : Cn) (n : Nat) (a : Int) : (c.mayAck n a).2.i = c.i := by
  unfold Cn.mayAck
  split
  · rfl
  · split
    · rfl
    · split <;> rfl
theorem takeAck_i (c : Cn) (g : Sg) (a p : Int) : (c.takeAck g a p).i = c.i := by
  unfold Cn.takeAck Cn.onceMore Cn.acked
  dsimp only
  split <;> split <;> (try split) <;> (try split) <;> rfl
theorem ripen_i (c : Cn) : c.ripen.i = c.i := by
  unfold Cn.ripen Cn.wait Cn.done
  split
  · split
    · rfl
    · split
      · rfl
      · split <;> rfl
  · rfl
theorem COk.mayAck (h : COk k c) {n : Nat} (hn : n < 4294967296) (a : Int) (hi : c.i ≠ none) : COk (k + 1) (c.mayAck n a).2 := by
  have h1 := h.mono (Nat.le_succ k)
  unfold Cn.mayAck
  split
  · exact h.ask hn
  · split
    · exact h1.setAck true
    · split
      · exact h1.setSt _ (by split <;> decide) hi
      · exact h1
theorem COk.follow (h : COk k c) {g : Sg} (hs : SOk g) (hg : gchk g = 0) (hi : c.i ≠ none) : COk (k + 2) (c.follow g) := by
  have h1 := h.mayAck (n := g.ak) hs.ak (c.ackAt g) hi
  have i1 : (c.mayAck g.ak (c.ackAt g)).2.i ≠ none := by rw [mayAck_i]; exact hi
  unfold Cn.follow
  dsimp only
  split
  · have h2 := h1.takeAck hg (c.ackAt g) (c.plcAt g) (near_bd _ _)
    have i2 : ((c.mayAck g.ak (c.ackAt g)).2.takeAck g (c.ackAt g) (c.plcAt g)).i ≠ none := by rw [takeAck_i]; exact i1
    have h3 := h2.ripen i2
    split
    · exact h3
    · exact h3.takeBody g _ (by rw [ripen_i]; exact i2)
  · exact h1.mono (Nat.le_succ _)
theorem COk.inLater (h : COk k c) {g : Sg} (hs : SOk g) (hg : gchk g = 0) (hi : c.i ≠ none) : COk (k + 2) (c.inLater g) := by
  have h1 := h.mono (show k ≤ k + 2 by omega)
  unfold Cn.inLater
  split
  · exact h1.away g
  · split
    · exact h1.broken
    · split
      · exact h1.setAck true
      · split
        · exact h.follow hs hg hi
        · exact h1
theorem inE_0 {g : Sg} (h : Cn.inE c g = 0) : gchk g = 0 ∧ Cn.ours c g = true ∧ c.st ≠ 0 := by
  unfold Cn.inE at h
  split at h
  · rename_i h1; exact absurd h h1
  · rename_i h1
    split at h
    · cases h
    · rename_i h2
      split at h
      · cases h
      · rename_i h3
        exact ⟨by omega, by simpa using h2, h3⟩
theorem COk.inC (h : COk k c) {g : Sg} (hs : SOk g) : COk (k + 2) (c.inC g) := by
  unfold Cn.inC
  split
  · exact h.mono (by omega)
  · rename_i he
    obtain ⟨hg, _, h0⟩ := inE_0 (show Cn.inE c g = 0 by simpa using he)
    split
    · exact ((h.inSyn hs hg).mono (by omega)).look
    · rename_i h1
      obtain ⟨t, ht⟩ := h.has h0 h1
      exact (h.inLater hs hg (by rw [ht]; simp)).look
theorem COk.goOff (h : COk k c) : COk k c.goOff := by
  have h1 := h.ti
  have h2 := h.go
  unfold Cn.goOff
  split
  · exact h.done 13
  · rename_i hg
    have hg' : 0 ≤ c.gone + 1 ∧ c.gone + 1 ≤ 8 := by omega
    split
    · exact { h with go := hg', tm := h.tm.late, bg := ⟨h1.1, Int.le_refl _⟩, cw := h.cw.sil _, o := h.o.bk, bh := ⟨Int.le_refl 0, by show (0 : Int) ≤ _; decide⟩, sn := ⟨Int.le_refl 0, h1.1⟩ }
    · exact { h with go := hg', tm := h.tm.late, bg := ⟨h1.1, Int.le_refl _⟩ }
theorem COk.tickC (h : COk k c) (n : Int) : COk k (c.tickC n) := by
  have h1 := h.ti
  have h2 := h.bg
  have h3 := h.sn
  unfold Cn.tickC
  split
  · exact h
  · rename_i he
    have hb : 0 ≤ n ∧ n ≤ 1099511627776 - c.time := by
      unfold Cn.tickE at he
      split at he
      · simp at he
      · omega
    have h4 : COk k { c with time := c.time + n } := { h with ti := by show 0 ≤ c.time + n ∧ c.time + n ≤ _; omega, bg := by show 0 ≤ c.beg ∧ c.beg ≤ c.time + n; omega, sn := by show 0 ≤ c.snc ∧ c.snc ≤ c.time + n; omega }
    refine COk.look ?_
    unfold Cn.tick1
    split
    · split
      · exact h4.done 0
      · exact h4
    · split
      · exact h4.goOff
      · exact h4
theorem COk.nx (h : COk k c) (lim : Int) : COk k { c with o := Oq.nx c.o lim c.mss } := { h with o := h.o.nx lim c.mss }
theorem COk.measure (h : COk k c) (hk : Few k) : COk k c.measure := by
  unfold Cn.measure
  split
  · obtain ⟨a, b, d, e, f⟩ := h.ob hk
    exact { h with bh := by show 0 ≤ c.o.c ∧ c.o.c ≤ _; omega, sn := ⟨h.ti.1, Int.le_refl _⟩ }
  · exact h
theorem COk.piece (h : COk k c) (hk : Few k) (lim : Int) : COk k (c.piece lim) := by
  unfold Cn.piece
  dsimp only
  split
  · exact (h.nx lim).measure hk
  · exact h.nx lim
theorem COk.pieces (hk : Few k) (lim : Int) : ∀ (f : Nat) (c : Cn) (l : List Sg), COk k c → COk k (Cn.pieces lim f c l).2
  | 0, c, l, h => h
  | f + 1, c, l, h => by
    unfold Cn.pieces
    split
    · exact COk.pieces hk lim f _ _ (h.piece hk lim)
    · exact h
theorem COk.outC (h : COk k c) (hk : Few k) : COk k c.outC := by
  unfold Cn.outC
  refine COk.look ?_
  have h0 : COk k { c with rst := [] } := { h with rs := Nat.zero_le _, rn := fun n hn => by cases hn }
  split
  · exact h0
  · unfold Cn.outP Cn.outs
    dsimp only
    have h1 : COk k { ({ c with rst := [] } : Cn) with again := false } := { h0 with }
    have h2 := COk.pieces hk (Cn.limit { c with rst := [] }) (Cn.left { c with rst := [] }) _ (Cn.firsts { c with rst := [] }) h1
    exact { h2 with }
theorem COk.writeC (h : COk k c) (x : ByteArray) : COk (k + 1) (c.writeC x) := by
  have h1 := h.mono (Nat.le_succ k)
  unfold Cn.writeC
  split
  · exact h1
  · refine COk.look { h1 with o := h.o.wr x, oA := ?_ }
    show (Oq.wr c.o x).A.size ≤ _
    have := Oq.wr_size c.o x
    have := (Oq.wN_le c.o x).2.1
    have := h.oA
    omega
theorem COk.readC (h : COk k c) (m : Int) : COk (k + 1) (c.readC m) :=
  { h.mono (Nat.le_succ k) with
    i := fun t ht => by
      rcases hi : c.i with _ | t0
      · have : (c.readC m).i = none := by show c.i.map _ = none; rw [hi]; rfl
        rw [this] at ht; cases ht
      · have : (c.readC m).i = some (Iq.rd t0 m) := by show c.i.map _ = _; rw [hi]; rfl
        rw [this] at ht; cases ht
        obtain ⟨o, hf⟩ := h.i t0 hi
        exact ⟨o.rd m, by have := Iq.rk_2048 o m; show t0.f + Iq.rk t0 m ≤ _; omega⟩
    si := fun e => h.si (by
      have e : c.i.map (fun t => Iq.rd t m) = none := e
      simpa using e) }
theorem COk.closeC (h : COk k c) : COk k c.closeC := by
  unfold Cn.closeC
  split
  · exact h
  · refine COk.look ?_
    split
    · exact h.done 0
    · exact h.endOut
theorem COk.abortC (h : COk k c) : COk (k + 1) c.abortC := by
  unfold Cn.abortC
  split
  · exact h.mono (Nat.le_succ k)
  · refine COk.look (COk.done ?_ _)
    split
    · exact h.mono (Nat.le_succ k)
    · exact h.ask (nm_lt _ _)
theorem COk.fresh {la ra iss : Nat} {lp rp mss : Int} (h1 : la < 4294967296) (h2 : ra < 4294967296) (h3 : iss < 4294967296) (h4 : 1 ≤ lp ∧ lp ≤ 65535) (h5 : 1 ≤ rp ∧ rp ≤ 65535) (h6 : 8 ≤ mss ∧ mss ≤ 1000) : COk 0 (Cn.fresh la lp ra rp iss mss) :=
  ⟨Oq.st0_ok, Nat.le_refl _, fun t ht => (by cases ht), Cw.wn0_ok h6.1 h6.2, Rt.tm0_ok, h6, h6, (by decide : 0 ≤ (0 : Int) ∧ (0 : Int) ≤ 65535), (by decide : 0 ≤ (0 : Int) ∧ (0 : Int) ≤ 1099511627776), (by decide : 0 ≤ (0 : Int) ∧ (0 : Int) ≤ 0), (by decide : 0 ≤ (0 : Int) ∧ (0 : Int) ≤ 0), (by decide : 0 ≤ (0 : Int) ∧ (0 : Int) ≤ 1099511627796), (by decide : 0 ≤ (0 : Int) ∧ (0 : Int) ≤ 8), (by decide : 0 ≤ (0 : Int) ∧ (0 : Int) ≤ ((0 : Nat) : Int)), (by decide : 0 ≤ (0 : Int) ∧ (0 : Int) ≤ 1125899906850000), (by decide : -2305843009213693952 ≤ (0 : Int) ∧ (0 : Int) ≤ 2305843009213693952), (by decide : 0 ≤ (1 : Int) ∧ (1 : Int) ≤ 9), fun _ => Or.inr rfl, h3, (by decide : 0 < 4294967296), Nat.le_refl _, fun n hn => (by cases hn), h4, h5, h1, h2⟩
end
end Go.Proofs.Ytnhcjefbiihfjaa
