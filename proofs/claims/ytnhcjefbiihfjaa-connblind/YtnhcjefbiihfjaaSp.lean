import Derived.Test.YtnhcjefbiihfjaaTr
namespace Go.Proofs.Ytnhcjefbiihfjaa
open Go.RowKit
open Tc (Sg gchk)
set_option linter.unusedVariables false
set_option linter.unusedSimpArgs false

/-! States that follow on one another. -/
def fol (a b : Int) : Bool :=
  if a = b ∨ b = 0 then true
  else if a = 1 then decide (b = 2 ∨ b = 3)
  else if a = 2 then decide (b = 3 ∨ b = 4 ∨ b = 6 ∨ b = 7 ∨ b = 5 ∨ b = 9)
  else if a = 3 then decide (b = 4 ∨ b = 6)
  else if a = 4 then decide (b = 5 ∨ b = 7 ∨ b = 9)
  else if a = 5 ∨ a = 7 then decide (b = 9)
  else if a = 6 then decide (b = 8)
  else false
theorem fol_same (a : Int) : fol a a = true := by unfold fol; rw [if_pos (Or.inl rfl)]
theorem fol_0 (a : Int) : fol a 0 = true := by unfold fol; rw [if_pos (Or.inr rfl)]
/-- What becomes of state and reason: a is the state that was. -/
structure Go2 (c d : Cn) : Prop where
  fo : fol c.st d.st = true
  wy : d.st ≠ 0 → c.st ≠ 0 ∧ d.why = c.why
  cl : c.st = 0 → d.st = 0 ∧ d.why = c.why
section
variable {c d : Cn} {g : Sg}
theorem Go2.refl (c : Cn) : Go2 c c := ⟨fol_same _, fun h => ⟨h, rfl⟩, fun h => ⟨h, rfl⟩⟩
theorem Go2.look (h : Go2 c d) : Go2 c d.look := ⟨h.fo, h.wy, h.cl⟩
theorem Go2.done (h : c.st ≠ 0) (x : Int) (hd : d.st = d.st) : Go2 c (d.done x) := ⟨fol_0 _, fun e => absurd rfl e, fun e => absurd e h⟩
/-- The state, and why it is so, of all that is done in between. -/
theorem acked_st (c : Cn) (a : Int) : (c.acked a).st = c.st ∧ (c.acked a).why = c.why := ⟨rfl, rfl⟩
theorem once_st (c : Cn) : c.onceMore.st = c.st ∧ c.onceMore.why = c.why := by unfold Cn.onceMore; split <;> exact ⟨rfl, rfl⟩
theorem takeAck_st (c : Cn) (g : Sg) (a p : Int) : (c.takeAck g a p).st = c.st ∧ (c.takeAck g a p).why = c.why := by
  have h : (if c.o.u < a then c.acked a else if a = c.o.u ∧ Tc.lnw g = 0 ∧ 0 < c.flight ∧ g.win = c.wnd then c.onceMore else c).st = c.st ∧ (if c.o.u < a then c.acked a else if a = c.o.u ∧ Tc.lnw g = 0 ∧ 0 < c.flight ∧ g.win = c.wnd then c.onceMore else c).why = c.why := by
    split
    · exact acked_st c a
    · split
      · exact once_st c
      · exact ⟨rfl, rfl⟩
  unfold Cn.takeAck
  dsimp only
  split
  · exact h
  · exact h
theorem ripen_st (c : Cn) : (c.ripen.st = c.st ∨ (c.st = 4 ∧ c.ripen.st = 5) ∨ (c.st = 7 ∧ c.ripen.st = 9) ∨ (c.st = 8 ∧ c.ripen.st = 0)) ∧ (c.ripen.st ≠ 0 → c.ripen.why = c.why) := by
  unfold Cn.ripen
  split
  · split
    · rename_i h; exact ⟨Or.inr (Or.inl ⟨h, rfl⟩), fun _ => rfl⟩
    · split
      · rename_i h; exact ⟨Or.inr (Or.inr (Or.inl ⟨h, rfl⟩)), fun _ => rfl⟩
      · split
        · rename_i h; exact ⟨Or.inr (Or.inr (Or.inr ⟨h, rfl⟩)), fun h => absurd rfl h⟩
        · exact ⟨Or.inl rfl, fun _ => rfl⟩
  · exact ⟨Or.inl rfl, fun _ => rfl⟩
theorem again9_st (c : Cn) (g : Sg) : (c.again9 g).st = c.st ∧ (c.again9 g).why = c.why := by
  unfold Cn.again9
  split
  · rename_i h; exact ⟨h.1.symm, rfl⟩
  · exact ⟨rfl, rfl⟩
theorem heard_st (c : Cn) : (c.heard.st = c.st ∨ (c.st = 3 ∧ c.heard.st = 6) ∨ (c.st = 4 ∧ c.heard.st = 7) ∨ (c.st = 5 ∧ c.heard.st = 9)) ∧ c.heard.why = c.why := by
  unfold Cn.heard
  split
  · rename_i h; exact ⟨Or.inr (Or.inl ⟨h, rfl⟩), rfl⟩
  · split
    · rename_i h; exact ⟨Or.inr (Or.inr (Or.inl ⟨h, rfl⟩)), rfl⟩
    · split
      · rename_i h; exact ⟨Or.inr (Or.inr (Or.inr ⟨h, rfl⟩)), rfl⟩
      · exact ⟨Or.inl rfl, rfl⟩
theorem takeBody_st (c : Cn) (g : Sg) (p : Int) : ((c.takeBody g p).st = c.st ∨ (c.st = 3 ∧ (c.takeBody g p).st = 6) ∨ (c.st = 4 ∧ (c.takeBody g p).st = 7) ∨ (c.st = 5 ∧ (c.takeBody g p).st = 9)) ∧ (c.takeBody g p).why = c.why := by
  have h : ((if c.st = 3 ∨ c.st = 4 ∨ c.st = 5 then (if Cn.overI (c.putI g p) then (c.putI g p).heard else c.putI g p) else c.again9 g).st = c.st ∨ (c.st = 3 ∧ (if c.st = 3 ∨ c.st = 4 ∨ c.st = 5 then (if Cn.overI (c.putI g p) then (c.putI g p).heard else c.putI g p) else c.again9 g).st = 6) ∨ (c.st = 4 ∧ (if c.st = 3 ∨ c.st = 4 ∨ c.st = 5 then (if Cn.overI (c.putI g p) then (c.putI g p).heard else c.putI g p) else c.again9 g).st = 7) ∨ (c.st = 5 ∧ (if c.st = 3 ∨ c.st = 4 ∨ c.st = 5 then (if Cn.overI (c.putI g p) then (c.putI g p).heard else c.putI g p) else c.again9 g).st = 9)) ∧ (if c.st = 3 ∨ c.st = 4 ∨ c.st = 5 then (if Cn.overI (c.putI g p) then (c.putI g p).heard else c.putI g p) else c.again9 g).why = c.why := by
    split
    · split
      · exact heard_st (c.putI g p)
      · exact ⟨Or.inl rfl, rfl⟩
    · exact ⟨Or.inl (again9_st c g).1, (again9_st c g).2⟩
  unfold Cn.takeBody
  dsimp only
  split
  · exact h
  · exact h
theorem follow_go (h0 : c.st ≠ 0) (h1 : c.st ≠ 1) : Go2 c (c.follow g) := by
  have hm : ((c.mayAck g.ak (c.ackAt g)).2.st = c.st ∨ (c.st = 2 ∧ ((c.mayAck g.ak (c.ackAt g)).2.st = 3 ∨ (c.mayAck g.ak (c.ackAt g)).2.st = 4))) ∧ (c.mayAck g.ak (c.ackAt g)).2.why = c.why := by
    unfold Cn.mayAck
    split
    · exact ⟨Or.inl rfl, rfl⟩
    · split
      · exact ⟨Or.inl rfl, rfl⟩
      · split
        · rename_i h
          refine ⟨Or.inr ⟨h, ?_⟩, rfl⟩
          show (if c.o.sh then (4 : Int) else 3) = 3 ∨ (if c.o.sh then (4 : Int) else 3) = 4
          split
          · exact Or.inr rfl
          · exact Or.inl rfl
        · exact ⟨Or.inl rfl, rfl⟩
  unfold Cn.follow
  dsimp only
  generalize (c.mayAck g.ak (c.ackAt g)).1 = b
  generalize (c.mayAck g.ak (c.ackAt g)).2 = m at hm
  obtain ⟨m1, m2⟩ := hm
  split
  · obtain ⟨a1, a2⟩ := takeAck_st m g (c.ackAt g) (c.plcAt g)
    generalize m.takeAck g (c.ackAt g) (c.plcAt g) = n at *
    obtain ⟨r1, r2⟩ := ripen_st n
    generalize n.ripen = r at *
    split
    · rename_i e
      exact ⟨by rw [e]; exact fol_0 _, fun e2 => absurd e e2, fun e2 => absurd e2 h0⟩
    · rename_i e
      obtain ⟨t1, t2⟩ := takeBody_st r g (c.plcAt g)
      generalize r.takeBody g (c.plcAt g) = t at *
      refine ⟨?_, fun _ => ⟨h0, ?_⟩, fun e2 => absurd e2 h0⟩
      · unfold fol
        split
        · rfl
        · repeat' split
          all_goals first | (simp only [decide_eq_true_eq]; omega) | (exfalso; omega)
      · rw [t2, r2 e, a2, m2]
  · refine ⟨?_, fun _ => ⟨h0, m2⟩, fun e2 => absurd e2 h0⟩
    unfold fol
    split
    · rfl
    · repeat' split
      all_goals first | (simp only [decide_eq_true_eq]; omega) | (exfalso; omega)
theorem inLater_go (h0 : c.st ≠ 0) (h1 : c.st ≠ 1) : Go2 c (c.inLater g) := by
  unfold Cn.inLater
  split
  · unfold Cn.away
    have := again9_st (if g.rst then c else { c with ack := true }) g
    have e : (if g.rst then c else { c with ack := true }).st = c.st ∧ (if g.rst then c else { c with ack := true }).why = c.why := by split <;> exact ⟨rfl, rfl⟩
    exact ⟨by rw [this.1, e.1]; exact fol_same _, fun _ => ⟨h0, by rw [this.2, e.2]⟩, fun e2 => absurd e2 h0⟩
  · split
    · unfold Cn.broken
      split <;> exact Go2.done h0 _ rfl
    · split
      · exact ⟨fol_same _, fun _ => ⟨h0, rfl⟩, fun e2 => absurd e2 h0⟩
      · split
        · exact follow_go h0 h1
        · exact Go2.refl c
theorem inSyn_go (h1 : c.st = 1) : Go2 c (c.inSyn g) := by
  have h0 : c.st ≠ 0 := by rw [h1]; decide
  unfold Cn.inSyn
  split
  · split
    · exact Go2.refl c
    · exact ⟨fol_same _, fun _ => ⟨h0, rfl⟩, fun e2 => absurd e2 h0⟩
  · split
    · split
      · exact Go2.done h0 _ rfl
      · exact Go2.refl c
    · split
      · unfold Cn.answerSyn
        split
        · exact ⟨by rw [h1]; rfl, fun _ => ⟨h0, rfl⟩, fun e2 => absurd e2 h0⟩
        · exact ⟨by rw [h1]; rfl, fun _ => ⟨h0, rfl⟩, fun e2 => absurd e2 h0⟩
      · exact Go2.refl c
theorem inC_go (c : Cn) (g : Sg) : Go2 c (c.inC g) := by
  unfold Cn.inC
  split
  · exact Go2.refl c
  · rename_i h
    obtain ⟨_, _, h0⟩ := inE_0 (c := c) (g := g) (by simpa using h)
    split
    · rename_i h1; exact (inSyn_go h1).look
    · rename_i h1; exact (inLater_go h0 h1).look
theorem inE_10 (h : c.inE g = 10) : c.st = 0 ∨ gchk g = 10 := by
  unfold Cn.inE at h
  split at h
  · exact Or.inr h
  · split at h
    · exact absurd h (by decide)
    · split at h
      · exact Or.inl (by assumption)
      · exact absurd h (by decide)
theorem gchk_10 (g : Sg) : gchk g ≠ 10 := by
  unfold gchk
  split
  · decide
  · split
    · decide
    · split <;> decide
theorem tickC_go (c : Cn) (n : Int) (hr : c.st = 0 → c.run = false) : Go2 c (c.tickC n) := by
  unfold Cn.tickC
  split
  · exact Go2.refl c
  · by_cases h0 : c.st = 0
    · have e : ({ c with time := c.time + n } : Cn).tick1 = { c with time := c.time + n } := by
        unfold Cn.tick1
        rw [if_neg (by show ¬ c.st = 9; rw [h0]; decide), if_neg (fun e => by have := e.1; rw [show ({ c with time := c.time + n } : Cn).run = c.run from rfl, hr h0] at this; cases this)]
      rw [e]
      exact ⟨fol_same _, fun e2 => absurd h0 e2, fun _ => ⟨h0, rfl⟩⟩
    · refine Go2.look ?_
      unfold Cn.tick1
      split
      · split
        · exact Go2.done h0 _ rfl
        · exact ⟨fol_same _, fun _ => ⟨h0, rfl⟩, fun e2 => absurd e2 h0⟩
      · split
        · unfold Cn.goOff
          split
          · exact Go2.done h0 _ rfl
          · split
            · exact ⟨fol_same _, fun _ => ⟨h0, rfl⟩, fun e2 => absurd e2 h0⟩
            · exact ⟨fol_same _, fun _ => ⟨h0, rfl⟩, fun e2 => absurd e2 h0⟩
        · exact ⟨fol_same _, fun _ => ⟨h0, rfl⟩, fun e2 => absurd e2 h0⟩
theorem writeC_go (c : Cn) (x : ByteArray) : Go2 c (c.writeC x) := by
  unfold Cn.writeC
  split
  · exact Go2.refl c
  · exact ⟨fol_same _, fun e => ⟨e, rfl⟩, fun e => ⟨e, rfl⟩⟩
theorem closeC_go (c : Cn) : Go2 c c.closeC := by
  unfold Cn.closeC
  split
  · exact Go2.refl c
  · rename_i h
    have h0 : c.st ≠ 0 := fun e => h (by unfold Cn.closeE; rw [if_pos e]; decide)
    refine Go2.look ?_
    split
    · exact Go2.done h0 _ rfl
    · unfold Cn.endOut
      refine ⟨?_, fun _ => ⟨h0, rfl⟩, fun e2 => absurd e2 h0⟩
      show fol c.st (if c.st = 3 then (4 : Int) else if c.st = 6 then 8 else c.st) = true
      split
      · rename_i e; rw [e]; decide
      · split
        · rename_i e; rw [e]; decide
        · exact fol_same _
theorem closeE_10 (h : c.closeE = 10) : c.st = 0 := by
  unfold Cn.closeE at h
  split at h
  · assumption
  · split at h <;> exact absurd h (by decide)
theorem piece_st (c : Cn) (lim : Int) : (c.piece lim).st = c.st ∧ (c.piece lim).why = c.why ∧ (c.piece lim).rst = c.rst := by
  unfold Cn.piece Cn.measure
  dsimp only
  split
  · split <;> exact ⟨rfl, rfl, rfl⟩
  · exact ⟨rfl, rfl, rfl⟩
theorem pieces_st (lim : Int) : ∀ (f : Nat) (c : Cn) (l : List Sg), (Cn.pieces lim f c l).2.st = c.st ∧ (Cn.pieces lim f c l).2.why = c.why ∧ (Cn.pieces lim f c l).2.rst = c.rst
  | 0, c, l => ⟨rfl, rfl, rfl⟩
  | f + 1, c, l => by
    unfold Cn.pieces
    split
    · have := pieces_st lim f (c.piece lim) (l ++ [(c.piece lim).carry (Oq.nxP c.o lim c.mss)])
      have h2 := piece_st c lim
      exact ⟨this.1.trans h2.1, this.2.1.trans h2.2.1, this.2.2.trans h2.2.2⟩
    · exact ⟨rfl, rfl, rfl⟩
theorem outC_st (c : Cn) : c.outC.st = c.st ∧ c.outC.why = c.why ∧ c.outC.rst = [] := by
  unfold Cn.outC
  show (if c.st = 0 then ({ c with rst := [] } : Cn) else (Cn.outP { c with rst := [] }).2).st = c.st ∧ (if c.st = 0 then ({ c with rst := [] } : Cn) else (Cn.outP { c with rst := [] }).2).why = c.why ∧ (if c.st = 0 then ({ c with rst := [] } : Cn) else (Cn.outP { c with rst := [] }).2).rst = []
  split
  · exact ⟨rfl, rfl, rfl⟩
  · unfold Cn.outP Cn.outs
    dsimp only
    have := pieces_st (Cn.limit { c with rst := [] }) (Cn.left { c with rst := [] }) { ({ c with rst := [] } : Cn) with again := false } (Cn.firsts { c with rst := [] })
    exact this
theorem outC_go (c : Cn) : Go2 c c.outC := by
  obtain ⟨h1, h2, _⟩ := outC_st c
  exact ⟨by rw [h1]; exact fol_same _, fun e => ⟨by rw [← h1]; exact e, h2⟩, fun e => ⟨by rw [h1]; exact e, h2⟩⟩
/-- Closed, and all that was asked for has gone. -/
theorem closed_out (h : c.st = 0) : c.outC.outL = [] := by
  obtain ⟨h1, _, h3⟩ := outC_st c
  unfold Cn.outL
  rw [h3, if_pos (by rw [h1]; exact h)]; rfl
theorem look_run (c : Cn) : c.look.st = 0 → c.look.run = false := fun h => by
  show c.waits = false
  have h : c.st = 0 := h
  unfold Cn.waits
  rw [if_pos (Or.inl h)]
/-- One that is Closed has no clock that runs. -/
def Rn (c : Cn) : Prop := c.st = 0 → c.run = false
theorem Rn.inC (h : Rn c) (g : Sg) : Rn (c.inC g) := by unfold Cn.inC; split; exact h; exact look_run _
theorem Rn.tickC (h : Rn c) (n : Int) : Rn (c.tickC n) := by unfold Cn.tickC; split; exact h; exact look_run _
theorem Rn.writeC (h : Rn c) (x : ByteArray) : Rn (c.writeC x) := by unfold Cn.writeC; split; exact h; exact look_run _
theorem Rn.closeC (h : Rn c) : Rn c.closeC := by unfold Cn.closeC; split; exact h; exact look_run _
theorem Rn.outC (h : Rn c) : Rn c.outC := by unfold Cn.outC; exact look_run _
theorem abortC_st (h : c.st ≠ 0) : c.abortE = 0 ∧ c.abortC.st = 0 ∧ c.abortC.why = 17 := by
  unfold Cn.abortE Cn.abortC
  rw [if_neg h, if_neg h]
  exact ⟨rfl, rfl, rfl⟩
end
end Go.Proofs.Ytnhcjefbiihfjaa
