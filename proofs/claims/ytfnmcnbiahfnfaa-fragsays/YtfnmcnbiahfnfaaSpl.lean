/-
  Contract of Split (package frag).
-/
import Derived.Test.YtfnmcnbiahfnfaaRow
namespace Go.Proofs.Ytfnmcnbiahfnfaa
open Go.RowKit
set_option linter.unusedVariables false
set_option linter.unusedSimpArgs false

/-- A packet without its body. -/
def bare (p : Pk) : Pk := { p with body := ⟨#[]⟩ }
/-- What is wrong with p and mtu, whether or not p fits. -/
def sflt (p : Pk) (mtu : Int) : Int := if mtu < 28 ∨ 1420 < mtu ∨ p.more = true ∨ p.off ≠ 0 then 1 else if chk (bare p) ≠ 0 then chk (bare p) else if 4000 < p.body.size then 2 else 0

theorem sfault_one (p : Pk) (mtu : Int) (w : World) (h : mtu < 28 ∨ 1420 < mtu ∨ p.more = true ∨ p.off ≠ 0) :
    Calls Try.prog 22 #[pv p, .int .i64 mtu] w fun e w' => e = .returned (.int .i64 1) ∧ Below w.heap.size w w' := by
  have b0 : ∀ c, Below w.heap.size w (w.alloc (.cells c 24)) := fun c => (Below.refl _ _).alloc (Nat.le_refl _) _
  by_cases h0 : mtu < 28
  · clear h
    go_enter Try.func22, Try.ntmps22
    go_wp2_with fail
    go_ret
    exact ⟨rfl, b0 _⟩
  · by_cases h1 : 1420 < mtu
    · clear h
      go_enter Try.func22, Try.ntmps22
      go_wp2_with fail
      go_ret
      exact ⟨rfl, b0 _⟩
    · cases h2 : p.more with
      | true =>
        clear h
        go_enter Try.func22, Try.ntmps22
        go_wp2_with fail
        go_ret
        exact ⟨rfl, b0 _⟩
      | false =>
        have h3 : (p.off != 0) = true := by
          rcases h with h | h | h | h
          · exact absurd h h0
          · exact absurd h h1
          · rw [h2] at h; cases h
          · simpa using h
        clear h
        go_enter Try.func22, Try.ntmps22
        go_wp2_with fail
        go_ret
        exact ⟨rfl, b0 _⟩
theorem sfault_two (p : Pk) (mtu : Int) (w : World) (h : ¬ (mtu < 28 ∨ 1420 < mtu ∨ p.more = true ∨ p.off ≠ 0)) :
    Calls Try.prog 22 #[pv p, .int .i64 mtu] w fun e w' => e = .returned (.int .i64 (sflt p mtu)) ∧ Below w.heap.size w w' := by
  have HS : Hid (sflt p mtu = if chk (bare p) ≠ 0 then chk (bare p) else if 4000 < p.body.size then 2 else 0) := by show _ = _; unfold sflt; rw [if_neg h]
  have h0 : ¬ mtu < 28 := fun hc => h (Or.inl hc)
  have h1 : ¬ 1420 < mtu := fun hc => h (Or.inr (Or.inl hc))
  have h2 : p.more = false := by
    cases hm : p.more
    · rfl
    · exact absurd (Or.inr (Or.inr (Or.inl hm))) h
  have h3 : p.off = 0 := Decidable.byContradiction fun hc => h (Or.inr (Or.inr (Or.inr hc)))
  obtain ⟨src, dst, proto, ttl, id, dont, more, off, body⟩ := p
  simp only at h2 h3
  subst h2 h3
  clear h
  have HC : Hid (∀ w', Calls Try.prog 27 #[pv (bare ⟨src, dst, proto, ttl, id, dont, false, 0, body⟩)] w' fun e w'' => e = .returned (.int .i64 (chk (bare ⟨src, dst, proto, ttl, id, dont, false, 0, body⟩))) ∧ Below w'.heap.size w' w'') := fun w' => pchk_any _ w'
  have b0 : Below w.heap.size w (w.alloc (.cells (pc (bare ⟨src, dst, proto, ttl, id, dont, false, 0, body⟩)) 24)) := (Below.refl _ _).alloc (Nat.le_refl _) _
  have P0 := Lib.hid (PB.new w (bare ⟨src, dst, proto, ttl, id, dont, false, 0, body⟩))
  have HU := Lib.hid Try.underlying24
  have HI : Hid ((Try.prog.info? 24).map (·.size) = some 9) := info24
  generalize chk (bare ⟨src, dst, proto, ttl, id, dont, false, 0, body⟩) = c at *
  generalize sflt ⟨src, dst, proto, ttl, id, dont, false, 0, body⟩ mtu = s at *
  go_enter Try.func22, Try.ntmps22
  go_wp2_with (refine wpList_load_mid rfl _ _ rfl _ _ rfl (pcl (bare ⟨src, dst, proto, ttl, id, dont, false, 0, body⟩)) _ P0.out.range HU.out rfl HI.out ?_)
  refine (HC.out _).mono ?_; rintro e w1 ⟨rfl, hb1⟩
  have b1 := b0.trans (hb1.mono (by simp))
  by_cases hc : c = 0
  · subst hc
    by_cases hl : 4000 < body.size
    · have e : s = 2 := by rw [HS.out]; simp [hl]
      go_wp2_with fail
      go_ret
      exact ⟨ret_int e.symm, b1⟩
    · have e : s = 0 := by rw [HS.out]; simp [hl]
      go_wp2_with fail
      go_ret
      exact ⟨ret_int e.symm, b1⟩
  · have hne : (c != 0) = true := by simpa using hc
    have e : s = c := by rw [HS.out]; simp [hc]
    clear hc
    go_wp2_with fail
    go_ret
    exact ⟨ret_int e.symm, b1⟩
theorem sfault_any (p : Pk) (mtu : Int) (w : World) :
    Calls Try.prog 22 #[pv p, .int .i64 mtu] w fun e w' => e = .returned (.int .i64 (sflt p mtu)) ∧ Below w.heap.size w w' := by
  by_cases h : mtu < 28 ∨ 1420 < mtu ∨ p.more = true ∨ p.off ≠ 0
  · have := sfault_one p mtu w h
    rwa [show sflt p mtu = 1 from by unfold sflt; rw [if_pos h]]
  · exact sfault_two p mtu w h

/-- What Split says. -/
def sperr (p : Pk) (mtu : Int) : Int := if sflt p mtu ≠ 0 then sflt p mtu else if (p.body.size : Int) + 20 ≤ mtu then 0 else if p.dont = true then 2 else 0
/-- The bytes of a piece. -/
def room (mtu : Int) : Nat := ((mtu - 20) / 8 * 8).toNat
/-- Split's pieces. -/
def spl (p : Pk) (mtu : Int) : List Pk := if sperr p mtu ≠ 0 then [] else if (p.body.size : Int) + 20 ≤ mtu then [p] else pks p (room mtu) (cnt p.body.size (room mtu))

theorem pce_whole (p : Pk) (h1 : p.off = 0) (h2 : p.more = false) : pce p 0 p.body.size = p := by
  obtain ⟨src, dst, proto, ttl, id, dont, more, off, body⟩ := p
  simp only at h1 h2
  subst h1 h2
  simp [pce]
theorem sflt_ok {p : Pk} {mtu : Int} (h : sflt p mtu = 0) : 28 ≤ mtu ∧ mtu ≤ 1420 ∧ p.more = false ∧ p.off = 0 ∧ chk (bare p) = 0 ∧ p.body.size ≤ 4000 := by
  unfold sflt at h
  split at h
  · cases h
  · rename_i h0
    split at h
    · rename_i h1; exact absurd h h1
    · rename_i h1
      split at h
      · cases h
      · rename_i h2
        simp only [not_or, Bool.not_eq_true, Decidable.not_not] at h0 h1
        obtain ⟨q1, q2, q3, q4⟩ := h0
        exact ⟨by omega, by omega, q3, q4, h1, by omega⟩
theorem room_ok {mtu : Int} (h1 : 28 ≤ mtu) (h2 : mtu ≤ 1420) : 8 ≤ room mtu ∧ room mtu ≤ 1400 ∧ room mtu % 8 = 0 ∧ (room mtu : Int) = (mtu - 20) / 8 * 8 ∧ (room mtu : Int) + 20 ≤ mtu := by
  unfold room; omega

theorem split_bad (p : Pk) (mtu : Int) (w : World) (h : sflt p mtu ≠ 0) :
    Calls Try.prog 9 #[pv p, .int .i64 mtu] w fun e w' => ∃ v, e = .returned (.tuple #[v, .int .i64 (sperr p mtu)]) ∧ PRow w' w.heap.size v (spl p mtu) ∧ Below w.heap.size w w' := by
  have HF : Hid (∀ w', Calls Try.prog 22 #[pv p, .int .i64 mtu] w' fun e w'' => e = .returned (.int .i64 (sflt p mtu)) ∧ Below w'.heap.size w' w'') := fun w' => sfault_any p mtu w'
  have HE : Hid (sperr p mtu = sflt p mtu) := by show _ = _; unfold sperr; rw [if_pos h]
  have HL : Hid (spl p mtu = []) := by show _ = _; unfold spl; rw [if_pos (by rw [HE.out]; exact h)]
  have b0 : Below w.heap.size w (w.alloc (.cells (pc p) 24)) := (Below.refl _ _).alloc (Nat.le_refl _) _
  have P0 := Lib.hid (PB.new w p)
  have HU := Lib.hid Try.underlying24
  have HI : Hid ((Try.prog.info? 24).map (·.size) = some 9) := info24
  rw [HE.out, HL.out]
  clear HE HL
  generalize sflt p mtu = c at *
  have hne : (c != 0) = true := by simpa using h
  clear h
  go_enter Try.func9, Try.ntmps9
  go_wp2_with (refine wpList_load_mid rfl _ _ rfl _ _ rfl (pcl p) _ P0.out.range HU.out rfl HI.out ?_)
  refine (HF.out _).mono ?_; rintro e w1 ⟨rfl, hb1⟩
  go_wp2_with fail
  go_ret2
  exact ⟨_, rfl, PRow.nil _ _, b0.trans (hb1.mono (by simp))⟩

set_option maxHeartbeats 2000000 in
theorem split_ok (p : Pk) (mtu : Int) (w : World) (h : sflt p mtu = 0) :
    Calls Try.prog 9 #[pv p, .int .i64 mtu] w fun e w' => ∃ v, e = .returned (.tuple #[v, .int .i64 (sperr p mtu)]) ∧ PRow w' w.heap.size v (spl p mtu) ∧ Below w.heap.size w w' := by
  obtain ⟨q1, q2, q3, q4, q5, q6⟩ := sflt_ok h
  obtain ⟨r1, r2, r3, r4, r5⟩ := room_ok q1 q2
  have HF : Hid (∀ w', Calls Try.prog 22 #[pv p, .int .i64 mtu] w' fun e w'' => e = .returned (.int .i64 0) ∧ Below w'.heap.size w' w'') := fun w' => by
    have := sfault_any p mtu w'
    rwa [h] at this
  have HP : Hid (∀ w', Calls Try.prog 23 #[pv p, .int .i64 0, .int .i64 (p.body.size : Int)] w' fun e w'' => e = .returned (pv p) ∧ Below w'.heap.size w' w'') := fun w' => by
    have := piece_any p 0 p.body.size w' (by omega) (by omega) (by omega)
    rwa [pce_whole p q4 q3] at this
  have HQ : Hid (∀ (w' : World) (a : Int), a = (mtu - 20) / 8 * 8 → Calls Try.prog 24 #[pv p, .int .i64 a] w' fun e w'' => ∃ v, e = .returned v ∧ PRow w'' w'.heap.size v (pks p (room mtu) (cnt p.body.size (room mtu))) ∧ Below w'.heap.size w' w'') := fun w' a ha => by
    subst ha
    rw [← r4]
    exact pieces_any p (room mtu) w' (by omega) r2 q6
  have HE : Hid (sperr p mtu = if (p.body.size : Int) + 20 ≤ mtu then 0 else if p.dont = true then 2 else 0) := by show _ = _; unfold sperr; rw [if_neg (by simp [h])]
  have HL : Hid (spl p mtu = if sperr p mtu ≠ 0 then [] else if (p.body.size : Int) + 20 ≤ mtu then [p] else pks p (room mtu) (cnt p.body.size (room mtu))) := rfl
  have b0 : Below w.heap.size w (w.alloc (.cells (pc p) 24)) := (Below.refl _ _).alloc (Nat.le_refl _) _
  have P0 := Lib.hid (PB.new w p)
  have HU := Lib.hid Try.underlying24
  have HI : Hid ((Try.prog.info? 24).map (·.size) = some 9) := info24
  generalize pks p (room mtu) (cnt p.body.size (room mtu)) = M at *
  generalize sperr p mtu = E at *
  generalize spl p mtu = S at *
  clear h q3 q4 q5 r1 r2 r3 r4 r5
  go_enter Try.func9, Try.ntmps9
  go_wp2_with (refine wpList_load_mid rfl _ _ rfl _ _ rfl (pcl p) _ P0.out.range HU.out rfl HI.out ?_)
  refine (HF.out _).mono ?_; rintro e w1 ⟨rfl, hb1⟩
  have P1 := Lib.hid (P0.out.keep hb1)
  have b1 := b0.trans (hb1.mono (by simp))
  have x8 := P1.out.c8
  have x5 := P1.out.c5
  have g1 := b1.size
  clear P0 b0 hb1
  by_cases hf : (p.body.size : Int) + 20 ≤ mtu
  · have e1 : E = 0 := by rw [HE.out, if_pos hf]
    have e2 : S = [p] := by rw [HL.out, if_neg (by simp [e1]), if_pos hf]
    subst e1 e2
    have hf' : (p.body.size : Int) ≤ mtu - 20 := by omega
    clear HE HL hf
    go_wp2_with (refine wpList_load_mid rfl _ _ rfl _ _ rfl (pcl p) _ P1.out.range HU.out rfl HI.out ?_)
    refine (HP.out _).mono ?_; rintro e w2 ⟨rfl, hb2⟩
    have b2 := b1.trans (hb2.mono g1)
    go_wp2_with fail
    go_ret2
    refine ⟨_, rfl, ?_, b2.alloc b2.size _⟩
    have := World.ownsRow_lit (e := 24) (size := 9) (base := w.heap.size) w2 (pc p) 1 b2.size (by unfold maxLen; omega) rfl
    exact this
  · have hf' : ¬ ((p.body.size : Int) ≤ mtu - 20) := by omega
    cases hd : p.dont with
    | true =>
      have e1 : E = 2 := by rw [HE.out, if_neg hf, if_pos hd]
      have e2 : S = [] := by rw [HL.out, if_pos (by simp [e1])]
      subst e1 e2
      clear HE HL hf
      rw [hd] at x5
      go_wp2_with fail
      go_ret2
      exact ⟨_, rfl, PRow.nil _ _, b1⟩
    | false =>
      have e1 : E = 0 := by rw [HE.out, if_neg hf, if_neg (by simp [hd])]
      have e2 : S = M := by rw [HL.out, if_neg (by simp [e1]), if_neg hf]
      subst e1 e2
      clear HE HL hf
      rw [hd] at x5
      have Hd := Lib.hid hd
      clear hd
      go_wp2_with (refine wpList_load_mid rfl _ _ rfl _ _ rfl (pcl p) _ P1.out.range HU.out rfl HI.out ?_)
      refine (HQ.out _ _ (by first | rfl | omega)).mono ?_; rintro e w2 ⟨v, rfl, hR, hb2⟩
      have b2 := b1.trans (hb2.mono g1)
      go_wp2_with fail
      go_ret2
      exact ⟨_, rfl, own_base hR g1, b2⟩

theorem split_any (p : Pk) (mtu : Int) (w : World) :
    Calls Try.prog 9 #[pv p, .int .i64 mtu] w fun e w' => ∃ v, e = .returned (.tuple #[v, .int .i64 (sperr p mtu)]) ∧ PRow w' w.heap.size v (spl p mtu) ∧ Below w.heap.size w w' := by
  by_cases h : sflt p mtu = 0
  · exact split_ok p mtu w h
  · exact split_bad p mtu w h
end Go.Proofs.Ytfnmcnbiahfnfaa
