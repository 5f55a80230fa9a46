import Derived.Test.YtnhcjefbiihfjabTr
namespace Go.Proofs.Ytnhcjefbiihfjab
open Go.RowKit
open Tc (Sg gchk)
set_option linter.unusedVariables false
set_option linter.unusedSimpArgs false

/-! A connection that nobody answers. -/
def tmk : Nat → Rt.Tm
  | 0 => Rt.tm0
  | k + 1 => Rt.late (tmk k)
def cwk (k : Nat) (mss : Int) : Cw.Wn := if k = 0 then Cw.wn0 mss else Cw.sil (Cw.wn0 mss) 1
/-- Its SYN has gone out for the time k. -/
def silX (iss : Nat) (mss : Int) (k : Nat) (time beg : Nat) : Cn := { Cn.fresh 1 2 3 4 iss mss with o := o1, cw := cwk k mss, tm := tmk k, time := time, run := true, beg := beg, gone := k, beh := if k = 0 then 1 else 0 }
/-- It will go out again. -/
def silY (iss : Nat) (mss : Int) (k : Nat) (time : Nat) : Cn := { Cn.fresh 1 2 3 4 iss mss with o := ⟨⟨#[]⟩, false, 0, 0, 1⟩, cw := cwk k mss, tm := tmk k, time := time, run := false, beg := time, gone := k, beh := 0 }
def silD (iss : Nat) (mss : Int) (k : Nat) (time beg : Nat) : Cn := { silX iss mss k time beg with st := 0, why := 13, run := false }
/-- How long it waits. -/
def sv (k : Nat) : Nat := [3, 6, 12, 24, 48, 64, 64, 64, 64].getD k 64
theorem val_tmk : ∀ k : Nat, k ≤ 8 → Rt.val (tmk k) = (sv k : Int) := by
  intro k hk
  have : k = 0 ∨ k = 1 ∨ k = 2 ∨ k = 3 ∨ k = 4 ∨ k = 5 ∨ k = 6 ∨ k = 7 ∨ k = 8 := by omega
  rcases this with rfl | rfl | rfl | rfl | rfl | rfl | rfl | rfl | rfl <;> decide
def sm : Nat → Nat × Nat × Nat
  | 0 => (0, 0, 0)
  | t + 1 =>
    let s := sm t
    let b := if s.1 = 0 then t else s.2.2
    if s.1 = 2 then s else if sv s.2.1 ≤ t + 1 - b then (if s.2.1 = 8 then (2, 8, b) else (0, s.2.1 + 1, t + 1)) else (1, s.2.1, b)
theorem sm_le : ∀ t, (sm t).1 ≤ 2
  | 0 => by decide
  | t + 1 => by
    have := sm_le t
    unfold sm
    dsimp only
    generalize (if (sm t).1 = 0 then t else (sm t).2.2) = b
    split
    · exact this
    · split
      · split
        · exact Nat.le_refl 2
        · exact Nat.zero_le 2
      · exact Nat.le_succ 1
def silB (iss : Nat) (mss : Int) (t : Nat) : Cn :=
  if t = 0 then Cn.fresh 1 2 3 4 iss mss else
  if (sm t).1 = 0 then silY iss mss (sm t).2.1 t else if (sm t).1 = 1 then silX iss mss (sm t).2.1 t (sm t).2.2 else silD iss mss (sm t).2.1 t (sm t).2.2
/-- How often it has gone out. -/
def scn : Nat → Nat
  | 0 => 0
  | t + 1 => scn t + if (sm t).1 = 0 then 1 else 0
theorem sm_all : (List.range 349).all (fun t => decide ((sm t).1 ≠ 2 ∧ (sm t).2.1 ≤ 8 ∧ ((sm t).1 = 0 → 0 < t → 0 < (sm t).2.1))) = true := by kernel_rfl
theorem sm_at {t : Nat} (h : t < 349) : (sm t).1 ≠ 2 ∧ (sm t).2.1 ≤ 8 ∧ ((sm t).1 = 0 → 0 < t → 0 < (sm t).2.1) := by
  exact of_decide_eq_true (List.all_eq_true.1 sm_all t (List.mem_range.2 h))
theorem sm_end : (sm 349).1 = 2 ∧ scn 349 = 9 := by
  have e : ((sm 349).1, scn 349) = (2, 9) := by kernel_rfl
  simpa using e
theorem sm_beg_all : (List.range 349).all (fun t => decide ((sm t).1 = 1 → (sm t).2.2 ≤ t)) = true := by kernel_rfl
theorem sm_beg {t : Nat} (h : t < 349) : (sm t).1 = 1 → (sm t).2.2 ≤ t := by
  exact of_decide_eq_true (List.all_eq_true.1 sm_beg_all t (List.mem_range.2 h))
section
variable {iss : Nat} {mss : Int} {k t b : Nat}
theorem silX_outL : (silX iss mss k t b).outL = [] := by
  simp [Cn.outL, Cn.outP, Cn.outs, Cn.pieces, Cn.fresh, Cn.left, Cn.limit, Cn.more, Cn.firsts, silX, o1, Oq.enI, Oq.en, Oq.lst, Oq.nxG, Oq.go?, nil_size]
theorem silX_outC : (silX iss mss k t b).outC = silX iss mss k t b := by
  simp [Cn.outC, Cn.outP, Cn.outs, Cn.pieces, Cn.fresh, Cn.left, Cn.limit, Cn.more, Cn.firsts, Cn.look, Cn.waits, silX, o1, Oq.enI, Oq.en, Oq.lst, Oq.nxG, Oq.go?, nil_size]
theorem silY_outL (h : 8 ≤ mss) (hi : iss < 4294967296) : (silY iss mss k t).outL = [synSg 1 2 3 4 iss mss] := by
  have h1 : (1 : Int) ≤ mss := by omega
  simp [Cn.outL, Cn.outP, Cn.outs, Cn.pieces, Cn.fresh, Cn.left, Cn.limit, Cn.more, Cn.piece, Cn.firsts, Cn.measure, Cn.carry, Cn.wndI, synSg, silY, Oq.enI, Oq.en, Oq.lst, Oq.st0, Oq.nxG, Oq.go?, Oq.nx, Oq.nxC, Oq.nxP, Oq.py, Oq.pz, Oq.plen, nil_size, h1, nm_0 hi]
theorem silY_outC (h : 8 ≤ mss) (hk : 0 < k) : (silY iss mss k t).outC = silX iss mss k t t := by
  have h1 : (1 : Int) ≤ mss := by omega
  have hk' : k ≠ 0 := by omega
  simp [Cn.outC, Cn.outP, Cn.outs, Cn.pieces, Cn.fresh, Cn.left, Cn.limit, Cn.more, Cn.piece, Cn.firsts, Cn.measure, Cn.look, Cn.waits, silY, silX, o1, Oq.enI, Oq.en, Oq.lst, Oq.st0, Oq.nxG, Oq.go?, Oq.nx, Oq.nxC, Oq.nxP, Oq.py, Oq.pz, Oq.plen, nil_size, h1, hk']
theorem fresh_silX (h : 8 ≤ mss) : (Cn.fresh 1 2 3 4 iss mss).outC = silX iss mss 0 0 0 := by rw [fresh_outC h]; rfl
theorem cwk_sil : Cw.sil (cwk k mss) 1 = cwk (k + 1) mss := by
  unfold cwk
  rw [if_neg (Nat.succ_ne_zero k)]
  split <;> rfl
theorem silX_tick (hk : k ≤ 8) (hb : b ≤ t) (ht : t < 1000) : (silX iss mss k t b).tickE 1 = 0 ∧ (silX iss mss k t b).tickC 1 = if sv k ≤ t + 1 - b then (if k = 8 then silD iss mss 8 (t + 1) b else silY iss mss (k + 1) (t + 1)) else silX iss mss k (t + 1) b := by
  have e : (silX iss mss k t b).tickE 1 = 0 := by
    unfold Cn.tickE; rw [if_neg]; show ¬ ((1 : Int) < 0 ∨ 1099511627776 - (t : Int) < 1); omega
  refine ⟨e, ?_⟩
  have hv := val_tmk k hk
  have ht' : ((t : Int) + 1) = ((t + 1 : Nat) : Int) := by omega
  unfold Cn.tickC
  rw [if_neg (by rw [e]; decide)]
  by_cases hs : sv k ≤ t + 1 - b
  · rw [if_pos hs]
    have h1 : Rt.val (tmk k) ≤ ((t : Int) + 1) - (b : Int) := by omega
    by_cases h8 : k = 8
    · subst h8
      rw [if_pos rfl]
      simp [Cn.tick1, Cn.goOff, Cn.done, Cn.look, Cn.waits, silX, silD, Cn.fresh, o1, h1]
    · rw [if_neg h8]
      have h8' : ¬ (k : Int) = 8 := by omega
      have hc := cwk_sil (k := k) (mss := mss)
      have hl : Rt.late (tmk k) = tmk (k + 1) := rfl
      simp [Cn.tick1, Cn.goOff, Cn.flight, Cn.look, Cn.waits, silX, silY, Cn.fresh, o1, Oq.bk, h1, h8', hc, hl]
  · rw [if_neg hs]
    have h1 : ¬ Rt.val (tmk k) ≤ ((t : Int) + 1) - (b : Int) := by omega
    simp [Cn.tick1, Cn.look, Cn.waits, silX, Cn.fresh, o1, h1]
/-- One round. -/
theorem sil_step (h : 8 ≤ mss) (hi : iss < 4294967296) (ht : t < 349) :
    (silB iss mss t).outL = (if (sm t).1 = 0 then [synSg 1 2 3 4 iss mss] else []) ∧ (silB iss mss t).outC.st ≠ 0 ∧ (silB iss mss t).outC.tickE 1 = 0 ∧ (silB iss mss t).outC.tickC 1 = silB iss mss (t + 1) := by
  obtain ⟨s1, s2, s3⟩ := sm_at ht
  have s4 := sm_beg ht
  have key : ∀ b, b ≤ t → b = (if (sm t).1 = 0 then t else (sm t).2.2) → (silX iss mss (sm t).2.1 t b).tickE 1 = 0 ∧ (silX iss mss (sm t).2.1 t b).tickC 1 = silB iss mss (t + 1) := by
    intro b hb he
    obtain ⟨a1, a2⟩ := silX_tick (iss := iss) (mss := mss) s2 hb (by omega)
    refine ⟨a1, a2.trans ?_⟩
    have e : sm (t + 1) = if sv (sm t).2.1 ≤ t + 1 - b then (if (sm t).2.1 = 8 then (2, 8, b) else (0, (sm t).2.1 + 1, t + 1)) else (1, (sm t).2.1, b) := by
      show (if (sm t).1 = 2 then sm t else _) = _
      rw [if_neg s1, he]
    unfold silB
    rw [if_neg (Nat.succ_ne_zero t), e]
    by_cases c1 : sv (sm t).2.1 ≤ t + 1 - b
    · rw [if_pos c1, if_pos c1]
      by_cases c2 : (sm t).2.1 = 8
      · rw [if_pos c2, if_pos c2]; rfl
      · rw [if_neg c2, if_neg c2]; rfl
    · rw [if_neg c1, if_neg c1]; rfl
  by_cases h0 : t = 0
  · subst h0
    have e : silB iss mss 0 = Cn.fresh 1 2 3 4 iss mss := rfl
    rw [e, fresh_outL h hi, fresh_silX h]
    have := key 0 (Nat.le_refl _) rfl
    exact ⟨rfl, by show ¬ ((1 : Int) = 0); decide, this.1, this.2⟩
  · by_cases c0 : (sm t).1 = 0
    · have e : silB iss mss t = silY iss mss (sm t).2.1 t := by unfold silB; rw [if_neg h0, if_pos c0]
      rw [e, silY_outL h hi, silY_outC h (s3 c0 (by omega)), if_pos c0]
      have := key t (Nat.le_refl _) (by rw [if_pos c0])
      exact ⟨rfl, by show ¬ ((1 : Int) = 0); decide, this.1, this.2⟩
    · have c1 : (sm t).1 = 1 := by
        have : (sm t).1 ≤ 2 := sm_le t
        omega
      have e : silB iss mss t = silX iss mss (sm t).2.1 t (sm t).2.2 := by unfold silB; rw [if_neg h0, if_neg c0, if_pos c1]
      rw [e, silX_outL, silX_outC, if_neg c0]
      have := key (sm t).2.2 (s4 c1) (by rw [if_neg c0])
      exact ⟨rfl, by show ¬ ((1 : Int) = 0); decide, this.1, this.2⟩
/-- At last. -/
theorem sil_end : (silB iss mss 349).outL = [] ∧ (silB iss mss 349).outC.st = 0 ∧ (silB iss mss 349).outC.why = 13 := by
  have e : silB iss mss 349 = silD iss mss (sm 349).2.1 349 (sm 349).2.2 := by
    unfold silB
    rw [if_neg (by decide), if_neg (by rw [sm_end.1]; decide), if_neg (by rw [sm_end.1]; decide)]
  rw [e]
  exact ⟨rfl, rfl, rfl⟩
end
end Go.Proofs.Ytnhcjefbiihfjab
