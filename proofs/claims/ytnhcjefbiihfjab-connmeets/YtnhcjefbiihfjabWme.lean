/-
  The walk of ConnMeets.
-/
import Derived.Test.YtnhcjefbiihfjabPd
import Derived.Deep.CutBlock
namespace Go.Proofs.Ytnhcjefbiihfjab
open Go.RowKit
open Tc (Sg gchk gv gc)
set_option linter.unusedVariables false
set_option linter.unusedSimpArgs false
theorem row_rng {W : World} {B g cap : Nat} {q : Sg} (h : SRow W B (.slice (some ⟨g, 0, none⟩) 1 cap) [q]) : W.rangeAt g 0 (gcl q) := by
  have := h.range (i := 0) (q := q) rfl
  simpa using this
theorem row_cell {W : World} {B g cap : Nat} {q : Sg} (h : SRow W B (.slice (some ⟨g, 0, none⟩) 1 cap) [q]) (j : Nat) (v : Value) (hv : (gcl q)[j]? = some v) : W.cell? ⟨g, j, none⟩ = some v := by
  have := row_rng h j v hv
  simpa using this
/-- A pair, and a row of segments. -/
structure PR (w : World) (L : Pl) (p : Pr) (c e : Cn) (v : Value) (l : List Sg) (W : World) : Prop where
  pm : PM w L p c e W
  row : SRow W w.heap.size v l
section
variable {w W W' : World} {L : Pl} {p : Pr} {c c' e e' : Cn} {P' Q' : Pt} {v : Value} {l : List Sg}
theorem PR.keep (h : PR w L p c e v l W) (u : Below W.heap.size W W') : PR w L p c e v l W' := ⟨h.pm.keep u, h.row.on u⟩
theorem PR.drew (h : PR w L p c e v l W) : PR w L p c e v l W.drew := h.keep (Below.refl _ _).drew
theorem PR.left (h : PR w L p c e v l W) (h' : CT L.b c' P' W') (u : Up L.b L.P P' W W') : PR w { L with P := P' } p c' e v l W' := ⟨h.pm.left h' u, h.row.up h.pm.two.ca u⟩
theorem PR.right (h : PR w L p c e v l W) (h' : CT L.d e' Q' W') (u : Up L.d L.Q Q' W W') : PR w { L with Q := Q' } p c e' v l W' := ⟨h.pm.right h' u, h.row.up h.pm.two.cb u⟩
end
set_option maxRecDepth 100000 in
set_option maxHeartbeats 8000000 in
theorem meets_walk (iss irs : Nat) (ma mb tk : Int) (w : World) (hi : iss < 4294967296) (hj : irs < 4294967296) (hma : -9223372036854775808 ≤ ma ∧ ma ≤ 9223372036854775807) (hmb : -9223372036854775808 ≤ mb ∧ mb ≤ 9223372036854775807) (htk : -9223372036854775808 ≤ tk ∧ tk ≤ 9223372036854775807) :
    Calls Try.prog 4 #[.int .u32 (iss : Int), .int .u32 (irs : Int), .int .i64 ma, .int .i64 mb, .int .i64 tk] w fun e w' => e = .returned (.bool true) ∧ Below w.heap.size w w' := by
  have HP := Lib.hid (paired_any iss irs ma mb w hi hj hma hmb)
  have HRt : Hid (∀ W, Calls Try.prog 8 #[.int .i64 tk, .int .i64 1000] W fun e w' => e = .returned (.int .i64 (tk % 1000)) ∧ w' = W) := fun W => rest_any tk 1000 W (by decide) (by decide) htk.1 htk.2
  have ht : 0 ≤ tk % 1000 ∧ tk % 1000 ≤ 1000 := by omega
  have hA : 8 ≤ 8 + ma % 993 ∧ 8 + ma % 993 ≤ 1000 := by omega
  have hB : 8 ≤ 8 + mb % 993 ∧ 8 + mb % 993 ≤ 1000 := by omega
  have hm : 8 ≤ min (8 + mb % 993) (8 + ma % 993) := by omega
  have ok0 : COk 0 (dialled 1 40000 2 80 iss (8 + ma % 993)) := by
    rw [← fresh_outC hA.1]
    exact (COk.fresh (by decide) (by decide) hi (by decide) (by decide) hA).outC (by unfold Few; omega)
  have okt : COk 0 (taken 2 80 1 40000 irs iss (8 + mb % 993) (min (8 + mb % 993) (8 + ma % 993))) := by
    have h1 := (COk.fresh (la := 2) (ra := 1) (lp := 80) (rp := 40000) (by decide) (by decide) hj (by decide) (by decide) hB).meet (g := synSg 1 40000 2 80 iss (8 + ma % 993)) hi (by show (0 : Int) ≤ 2048 ∧ (2048 : Int) ≤ 65535; decide) (by show 0 ≤ 8 + ma % 993; omega)
    have h2 := h1.setSt 2 (by decide) (fun e => by cases e)
    have m1 : Cn.mssOf (synSg 1 40000 2 80 iss (8 + ma % 993)) = 8 + ma % 993 := by
      show (if 8 + ma % 993 = 0 then (536 : Int) else max (8 + ma % 993) 8) = 8 + ma % 993
      rw [if_neg (by omega)]; omega
    unfold Cn.meet at h2
    rw [m1] at h2
    exact h2
  have okr : COk 0 (rcvd 2 80 1 40000 irs iss (8 + mb % 993) (min (8 + mb % 993) (8 + ma % 993))) := by rw [← taken_outC hm]; exact okt.outC (by unfold Few; omega)
  have sk1 : SOk (sackSg 2 80 1 40000 irs iss (8 + mb % 993)) := ⟨by show 2 < 4294967296; decide, by show 1 < 4294967296; decide, hj, nm_lt iss 1⟩
  have sk2 : SOk (ackSg 1 40000 2 80 iss irs) := ⟨by show 1 < 4294967296; decide, by show 2 < 4294967296; decide, nm_lt iss 1, nm_lt irs 1⟩
  have i1 := (dialled_in (la := 1) (ra := 2) (lp := 40000) (rp := 80) (iss := iss) (irs := irs) hA.1 hB.1 hB.2 hA.2 (by decide) (by decide)).1
  have i2 := (rcvd_in (la := 2) (ra := 1) (lp := 80) (rp := 40000) (iss := irs) (irs := iss) (told := 8 + mb % 993) (mss := min (8 + mb % 993) (8 + ma % 993)) (by decide) (by decide)).1
  have oke : COk 2 (estab 1 40000 2 80 iss irs (8 + ma % 993) (min (8 + ma % 993) (8 + mb % 993)) 0 true) := by rw [← i1]; exact ok0.inC sk1
  have okf : COk 2 (estab 1 40000 2 80 iss irs (8 + ma % 993) (min (8 + ma % 993) (8 + mb % 993)) 0 false) := by rw [← estab_outC true]; exact oke.outC (by unfold Few; omega)
  have okg : COk 2 (estab 2 80 1 40000 irs iss (8 + mb % 993) (min (8 + mb % 993) (8 + ma % 993)) 1 false) := by rw [← i2]; exact okr.inC sk2
  have HO4 : Hid (∀ {L W}, PM w L pr0 (dialled 1 40000 2 80 iss (8 + ma % 993)) (taken 2 80 1 40000 irs iss (8 + mb % 993) (min (8 + mb % 993) (8 + ma % 993))) W → Calls Try.prog 10 #[ptr L.d] W fun e w' => ∃ v Q', e = .returned v ∧ PR w { L with Q := Q' } pr0 (dialled 1 40000 2 80 iss (8 + ma % 993)) (rcvd 2 80 1 40000 irs iss (8 + mb % 993) (min (8 + mb % 993) (8 + ma % 993))) v [sackSg 2 80 1 40000 irs iss (8 + mb % 993)] w') := fun {L W} h =>
    (out_any h.two.cb okt (by unfold Few; omega)).mono fun e w' ⟨v, h1, h2, Q', h3, h4⟩ => by
      rw [taken_outC hm] at h3
      rw [taken_outL hm hj] at h2
      exact ⟨v, Q', h1, h.right h3 h4, h2.base h.be.size⟩
  have HIn7 : Hid (∀ {L v l} W, PR w L pr0 (dialled 1 40000 2 80 iss (8 + ma % 993)) (rcvd 2 80 1 40000 irs iss (8 + mb % 993) (min (8 + mb % 993) (8 + ma % 993))) v l W → Calls Try.prog 15 #[ptr L.b, gv (sackSg 2 80 1 40000 irs iss (8 + mb % 993))] W fun e w' => (∃ x, e = .returned (.int .i64 x)) ∧ ∃ P', PR w { L with P := P' } pr0 (estab 1 40000 2 80 iss irs (8 + ma % 993) (min (8 + ma % 993) (8 + mb % 993)) 0 true) (rcvd 2 80 1 40000 irs iss (8 + mb % 993) (min (8 + mb % 993) (8 + ma % 993))) v l w') := fun {L v l} W h =>
    (in_any h.pm.two.ca ok0 (by unfold Few; omega) sk1).mono fun e w' ⟨h1, P', h2, h3⟩ => by
      rw [i1] at h2
      exact ⟨⟨_, h1⟩, P', h.left h2 h3⟩
  have HO8 : Hid (∀ {L v l W}, PR w L pr0 (estab 1 40000 2 80 iss irs (8 + ma % 993) (min (8 + ma % 993) (8 + mb % 993)) 0 true) (rcvd 2 80 1 40000 irs iss (8 + mb % 993) (min (8 + mb % 993) (8 + ma % 993))) v l W → Calls Try.prog 10 #[ptr L.b] W fun e w' => ∃ v P', e = .returned v ∧ PR w { L with P := P' } pr0 (estab 1 40000 2 80 iss irs (8 + ma % 993) (min (8 + ma % 993) (8 + mb % 993)) 0 false) (rcvd 2 80 1 40000 irs iss (8 + mb % 993) (min (8 + mb % 993) (8 + ma % 993))) v [ackSg 1 40000 2 80 iss irs] w') := fun {L v l W} h =>
    (out_any h.pm.two.ca oke (by unfold Few; omega)).mono fun e w' ⟨v, h1, h2, P', h3, h4⟩ => by
      rw [estab_outC true] at h3
      rw [estab_outL true, if_pos rfl] at h2
      exact ⟨v, P', h1, h.pm.left h3 h4, h2.base h.pm.be.size⟩
  have HIn11 : Hid (∀ {L v l} W, PR w L pr0 (estab 1 40000 2 80 iss irs (8 + ma % 993) (min (8 + ma % 993) (8 + mb % 993)) 0 false) (rcvd 2 80 1 40000 irs iss (8 + mb % 993) (min (8 + mb % 993) (8 + ma % 993))) v l W → Calls Try.prog 15 #[ptr L.d, gv (ackSg 1 40000 2 80 iss irs)] W fun e w' => (∃ x, e = .returned (.int .i64 x)) ∧ ∃ Q', PR w { L with Q := Q' } pr0 (estab 1 40000 2 80 iss irs (8 + ma % 993) (min (8 + ma % 993) (8 + mb % 993)) 0 false) (estab 2 80 1 40000 irs iss (8 + mb % 993) (min (8 + mb % 993) (8 + ma % 993)) 1 false) v l w') := fun {L v l} W h =>
    (in_any h.pm.two.cb okr (by unfold Few; omega) sk2).mono fun e w' ⟨h1, Q', h2, h3⟩ => by
      rw [i2] at h2
      exact ⟨⟨_, h1⟩, Q', h.right h2 h3⟩
  have HUs := Lib.hid Try.underlying33
  have OKF := Lib.hid okf
  have OKG := Lib.hid okg
  have HT := Lib.hid ht
  clear ok0 okt okr sk1 sk2 i1 i2 oke okf okg hm hA hB hma hmb htk ht
  go_enter Try.func4, Try.ntmps4
  go_wp2_with fail
  refine HP.out.mono ?_; rintro e w1 ⟨x, b, P, d, Q, rfl, m1⟩
  have M1 := Lib.hid m1
  have x1 : w1.cell? ⟨x, 1, none⟩ = some (ptr d) := m1.cell 1
  clear m1 HP
  go_wp2_with fail
  refine (HO4.out M1.out).mono ?_; rintro e w2 ⟨v1, Q2, rfl, m4⟩
  have M4 := Lib.hid m4
  clear m4 HO4 M1 x1
  obtain ⟨o1, g1, cap1, hv1, hg1⟩ := M4.out.row.form
  obtain ⟨rfl, _, _⟩ := hg1 (by simp)
  subst hv1
  have y4 : w2.cell? ⟨g1, 4, none⟩ = some (.int .u32 (irs : Int)) := row_cell M4.out.row 4 _ rfl
  have y5 : w2.cell? ⟨g1, 5, none⟩ = some (.int .u32 (((iss : Int) + 1) % 4294967296)) := by rw [← nm_cast]; exact row_cell M4.out.row 5 _ rfl
  have y6 : w2.cell? ⟨g1, 6, none⟩ = some (.bool true) := row_cell M4.out.row 6 _ rfl
  have y7 : w2.cell? ⟨g1, 7, none⟩ = some (.bool true) := row_cell M4.out.row 7 _ rfl
  have HS7 : Hid (∀ {c e P' W}, PR w ⟨x, .slice none 0 0, b, P', d, Q2⟩ pr0 c e (.slice (some ⟨g1, 0, none⟩) 1 cap1) [sackSg 2 80 1 40000 irs iss (8 + mb % 993)] W → W.cell? ⟨x, 0, none⟩ = some (ptr b) ∧ SRow W w.heap.size (.slice (some ⟨g1, 0, none⟩) 1 cap1) [sackSg 2 80 1 40000 irs iss (8 + mb % 993)]) := fun h => ⟨h.pm.cell 0, h.row⟩
  go_wp2_with fail
  refine wp_region_held_drew (S := (fun W' => W'.cell? ⟨x, 0, none⟩ = some (ptr b) ∧ SRow W' w.heap.size (.slice (some ⟨g1, 0, none⟩) 1 cap1) [sackSg 2 80 1 40000 irs iss (8 + mb % 993)])) (by kernel_rfl) (HS7.out M4.out.drew) (fun hHeld => ?_)
  refine takeH (i := 0) (d := some 68) (v := ?_) rfl rfl (by kernel_rfl) (by kernel_rfl) (by kernel_rfl) (fun _ _ _ h => h) (Or.inl ⟨by rfl, ?_⟩) hHeld ?_
  rotate_left
  · intro w' hSw; (try dsimp only at hSw); go_simp; try with_reducible rfl
  simp only [Act.put, List.setIfInBounds_toArray, List.set_cons_zero, List.set_cons_succ]
  refine takeH (i := 1) (d := some 69) (v := ?_) rfl rfl (by kernel_rfl) (by kernel_rfl) (by kernel_rfl) (fun _ _ _ h => h) (Or.inl ⟨by rfl, ?_⟩) hHeld ?_
  rotate_left
  · intro w' hSw; (try dsimp only at hSw); go_simp; try with_reducible rfl
  simp only [Act.put, List.setIfInBounds_toArray, List.set_cons_zero, List.set_cons_succ]
  refine takeH (i := 2) (d := some 70) (v := ?_) rfl rfl (by kernel_rfl) (by kernel_rfl) (by kernel_rfl) (fun _ _ _ h => h) (Or.inl ⟨by rfl, ?_⟩) hHeld ?_
  rotate_left
  · intro w' hSw; (try dsimp only at hSw); go_simp; try with_reducible rfl
  simp only [Act.put, List.setIfInBounds_toArray, List.set_cons_zero, List.set_cons_succ]
  refine takeH (i := 3) (d := some 71) (v := ?_) rfl rfl (by kernel_rfl) (by kernel_rfl) (by kernel_rfl) (fun _ _ _ h => h) (Or.inl ⟨by rfl, ?_⟩) hHeld ?_
  rotate_left
  · intro w' hSw; (try dsimp only at hSw); go_simp; try with_reducible rfl
  simp only [Act.put, List.setIfInBounds_toArray, List.set_cons_zero, List.set_cons_succ]
  refine takeH (i := 4) (d := some 72) (v := ?_) rfl rfl (by kernel_rfl) (by kernel_rfl) (by kernel_rfl) (fun _ _ _ h => h) (Or.inl ⟨by rfl, ?_⟩) hHeld ?_
  rotate_left
  · intro w' hSw; (try dsimp only at hSw); have q1 := hSw.1; go_simp; try with_reducible rfl
  simp only [Act.put, List.setIfInBounds_toArray, List.set_cons_zero, List.set_cons_succ]
  refine takeH (i := 5) (d := some 73) (v := ?_) rfl rfl (by kernel_rfl) (by kernel_rfl) (by kernel_rfl) (fun _ _ _ h => h) (Or.inl ⟨by rfl, ?_⟩) hHeld ?_
  rotate_left
  · intro w' hSw; (try dsimp only at hSw); go_simp; try with_reducible rfl
  simp only [Act.put, List.setIfInBounds_toArray, List.set_cons_zero, List.set_cons_succ]
  refine takeH (i := 6) (d := some 74) (v := ?_) rfl rfl (by kernel_rfl) (by kernel_rfl) (by kernel_rfl) (fun _ _ _ h => h) (Or.inl ⟨by rfl, ?_⟩) hHeld ?_
  rotate_left
  · intro w' hSw; (try dsimp only at hSw); go_simp; try with_reducible rfl
  simp only [Act.put, List.setIfInBounds_toArray, List.set_cons_zero, List.set_cons_succ]
  refine takeH (i := 7) (d := some 75) rfl rfl (by kernel_rfl) (by kernel_rfl) (by kernel_rfl) (fun _ _ _ h => h) (yieldsIf_load_mid (by rfl) _ _ rfl _ _ rfl (gcl (sackSg 2 80 1 40000 irs iss (8 + mb % 993))) _ (fun w' hSw => row_rng hSw.2) HUs.out rfl infoSeg) hHeld ?_
  simp only [Act.put, List.setIfInBounds_toArray, List.set_cons_zero, List.set_cons_succ]
  refine wpAnyH_ready (rs := [8]) (by kernel_rfl) (by simp) ?_
  refine AllReadyH.cons rfl (fun K hK => ?_) (AllReadyH.nil)
  go_simp
  refine (HIn7.out _ M4.out.drew).mono ?_; rintro e w7 ⟨⟨v7, rfl⟩, P7, h7⟩
  have M7 := Lib.hid h7
  clear h7
  clear hHeld
  refine hK.out _ _ (HS7.out M7.out) (fun hHeld => ?_)
  clear hK K
  try simp only [Act.put, List.setIfInBounds_toArray, List.set_cons_zero, List.set_cons_succ]
  refine wpAnyH_done (by kernel_rfl) ?_ _
  go_wp2_with fail
  have x8 : w7.cell? ⟨x, 0, none⟩ = some (ptr b) := M7.out.pm.cell 0
  clear y4 y5 y6 y7 HS7 HIn7 M4
  have M8 := M7
  go_wp2_with fail
  refine (HO8.out M8.out).mono ?_; rintro e w8 ⟨v2, P8, rfl, m9⟩
  have M9 := Lib.hid m9
  clear m9 HO8 M7 M8 x8
  obtain ⟨o2, g2, cap2, hv2, hg2⟩ := M9.out.row.form
  obtain ⟨rfl, _, _⟩ := hg2 (by simp)
  subst hv2
  have y4 : w8.cell? ⟨g2, 4, none⟩ = some (.int .u32 (((iss : Int) + 1) % 4294967296)) := by rw [← nm_cast]; exact row_cell M9.out.row 4 _ rfl
  have y5 : w8.cell? ⟨g2, 5, none⟩ = some (.int .u32 (((irs : Int) + 1) % 4294967296)) := by rw [← nm_cast]; exact row_cell M9.out.row 5 _ rfl
  have y6 : w8.cell? ⟨g2, 6, none⟩ = some (.bool false) := row_cell M9.out.row 6 _ rfl
  have y12 : w8.cell? ⟨g2, 12, none⟩ = some (.string ⟨#[]⟩) := row_cell M9.out.row 12 _ rfl
  have HS11 : Hid (∀ {c e Q' W}, PR w ⟨x, .slice none 0 0, b, P8, d, Q'⟩ pr0 c e (.slice (some ⟨g2, 0, none⟩) 1 cap2) [ackSg 1 40000 2 80 iss irs] W → W.cell? ⟨x, 1, none⟩ = some (ptr d) ∧ SRow W w.heap.size (.slice (some ⟨g2, 0, none⟩) 1 cap2) [ackSg 1 40000 2 80 iss irs]) := fun h => ⟨h.pm.cell 1, h.row⟩
  go_wp2_with fail
  refine wp_region_held_drew (S := (fun W' => W'.cell? ⟨x, 1, none⟩ = some (ptr d) ∧ SRow W' w.heap.size (.slice (some ⟨g2, 0, none⟩) 1 cap2) [ackSg 1 40000 2 80 iss irs])) (by kernel_rfl) (HS11.out M9.out.drew) (fun hHeld => ?_)
  refine takeH (i := 0) (d := some 117) (v := ?_) rfl rfl (by kernel_rfl) (by kernel_rfl) (by kernel_rfl) (fun _ _ _ h => h) (Or.inl ⟨by rfl, ?_⟩) hHeld ?_
  rotate_left
  · intro w' hSw; (try dsimp only at hSw); go_simp; try with_reducible rfl
  simp only [Act.put, List.setIfInBounds_toArray, List.set_cons_zero, List.set_cons_succ]
  refine takeH (i := 1) (d := some 118) (v := ?_) rfl rfl (by kernel_rfl) (by kernel_rfl) (by kernel_rfl) (fun _ _ _ h => h) (Or.inl ⟨by rfl, ?_⟩) hHeld ?_
  rotate_left
  · intro w' hSw; (try dsimp only at hSw); go_simp; try with_reducible rfl
  simp only [Act.put, List.setIfInBounds_toArray, List.set_cons_zero, List.set_cons_succ]
  refine takeH (i := 2) (d := some 119) (v := ?_) rfl rfl (by kernel_rfl) (by kernel_rfl) (by kernel_rfl) (fun _ _ _ h => h) (Or.inl ⟨by rfl, ?_⟩) hHeld ?_
  rotate_left
  · intro w' hSw; (try dsimp only at hSw); go_simp; try with_reducible rfl
  simp only [Act.put, List.setIfInBounds_toArray, List.set_cons_zero, List.set_cons_succ]
  refine takeH (i := 3) (d := some 120) (v := ?_) rfl rfl (by kernel_rfl) (by kernel_rfl) (by kernel_rfl) (fun _ _ _ h => h) (Or.inl ⟨by rfl, ?_⟩) hHeld ?_
  rotate_left
  · intro w' hSw; (try dsimp only at hSw); go_simp; try with_reducible rfl
  simp only [Act.put, List.setIfInBounds_toArray, List.set_cons_zero, List.set_cons_succ]
  refine takeH (i := 4) (d := some 121) (v := ?_) rfl rfl (by kernel_rfl) (by kernel_rfl) (by kernel_rfl) (fun _ _ _ h => h) (Or.inl ⟨by rfl, ?_⟩) hHeld ?_
  rotate_left
  · intro w' hSw; (try dsimp only at hSw); have q1 := hSw.1; go_simp; try with_reducible rfl
  simp only [Act.put, List.setIfInBounds_toArray, List.set_cons_zero, List.set_cons_succ]
  refine takeH (i := 5) (d := some 122) (v := ?_) rfl rfl (by kernel_rfl) (by kernel_rfl) (by kernel_rfl) (fun _ _ _ h => h) (Or.inl ⟨by rfl, ?_⟩) hHeld ?_
  rotate_left
  · intro w' hSw; (try dsimp only at hSw); go_simp; try with_reducible rfl
  simp only [Act.put, List.setIfInBounds_toArray, List.set_cons_zero, List.set_cons_succ]
  refine takeH (i := 6) (d := some 123) (v := ?_) rfl rfl (by kernel_rfl) (by kernel_rfl) (by kernel_rfl) (fun _ _ _ h => h) (Or.inl ⟨by rfl, ?_⟩) hHeld ?_
  rotate_left
  · intro w' hSw; (try dsimp only at hSw); go_simp; try with_reducible rfl
  simp only [Act.put, List.setIfInBounds_toArray, List.set_cons_zero, List.set_cons_succ]
  refine takeH (i := 7) (d := some 124) rfl rfl (by kernel_rfl) (by kernel_rfl) (by kernel_rfl) (fun _ _ _ h => h) (yieldsIf_load_mid (by rfl) _ _ rfl _ _ rfl (gcl (ackSg 1 40000 2 80 iss irs)) _ (fun w' hSw => row_rng hSw.2) HUs.out rfl infoSeg) hHeld ?_
  simp only [Act.put, List.setIfInBounds_toArray, List.set_cons_zero, List.set_cons_succ]
  refine wpAnyH_ready (rs := [8]) (by kernel_rfl) (by simp) ?_
  refine AllReadyH.cons rfl (fun K hK => ?_) (AllReadyH.nil)
  go_simp
  refine (HIn11.out _ M9.out.drew).mono ?_; rintro e w11 ⟨⟨v11, rfl⟩, Q11, h11⟩
  have M11 := Lib.hid h11
  clear h11
  clear hHeld
  refine hK.out _ _ (HS11.out M11.out) (fun hHeld => ?_)
  clear hK K
  try simp only [Act.put, List.setIfInBounds_toArray, List.set_cons_zero, List.set_cons_succ]
  refine wpAnyH_done (by kernel_rfl) ?_ _
  go_wp2_with fail
  clear y4 y5 y6 y12 HS11 HIn11 M9
  have M12 : Hid (PM w ⟨x, .slice none 0 0, b, P8, d, Q11⟩ pr0 (estab 1 40000 2 80 iss irs (8 + ma % 993) (min (8 + ma % 993) (8 + mb % 993)) 0 false) (estab 2 80 1 40000 irs iss (8 + mb % 993) (min (8 + mb % 993) (8 + ma % 993)) 1 false) w11) := M11.out.pm
  clear M11
  have TE := Lib.hid (estab_tick (la := 1) (ra := 2) (lp := 40000) (rp := 80) (iss := iss) (irs := irs) (told := 8 + ma % 993) (mss := min (8 + ma % 993) (8 + mb % 993)) (wp := 0) (tk % 1000) HT.out.1 HT.out.2 false)
  have TF := Lib.hid (estab_tick (la := 2) (ra := 1) (lp := 80) (rp := 40000) (iss := irs) (irs := iss) (told := 8 + mb % 993) (mss := min (8 + mb % 993) (8 + ma % 993)) (wp := 1) (tk % 1000) HT.out.1 HT.out.2 false)
  have OE := Lib.hid (estab_outCt (la := 1) (ra := 2) (lp := 40000) (rp := 80) (iss := iss) (irs := irs) (told := 8 + ma % 993) (mss := min (8 + ma % 993) (8 + mb % 993)) (wp := 0) (tk % 1000))
  have OF := Lib.hid (estab_outCt (la := 2) (ra := 1) (lp := 80) (rp := 40000) (iss := irs) (irs := iss) (told := 8 + mb % 993) (mss := min (8 + mb % 993) (8 + ma % 993)) (wp := 1) (tk % 1000))
  have LE := Lib.hid (estab_outLt (la := 1) (ra := 2) (lp := 40000) (rp := 80) (iss := iss) (irs := irs) (told := 8 + ma % 993) (mss := min (8 + ma % 993) (8 + mb % 993)) (wp := 0) (tk % 1000))
  have LF := Lib.hid (estab_outLt (la := 2) (ra := 1) (lp := 80) (rp := 40000) (iss := irs) (irs := iss) (told := 8 + mb % 993) (mss := min (8 + mb % 993) (8 + ma % 993)) (wp := 1) (tk % 1000))
  have RE := Lib.hid (estab_ready (la := 1) (ra := 2) (lp := 40000) (rp := 80) (iss := iss) (irs := irs) (told := 8 + ma % 993) (mss := min (8 + ma % 993) (8 + mb % 993)) (wp := 0) (tk % 1000))
  have RF := Lib.hid (estab_ready (la := 2) (ra := 1) (lp := 80) (rp := 40000) (iss := irs) (irs := iss) (told := 8 + mb % 993) (mss := min (8 + mb % 993) (8 + ma % 993)) (wp := 1) (tk % 1000))
  have SE : Hid (({ estab 1 40000 2 80 iss irs (8 + ma % 993) (min (8 + ma % 993) (8 + mb % 993)) 0 false with time := tk % 1000 } : Cn).st = 3) := rfl
  have SF : Hid (({ estab 2 80 1 40000 irs iss (8 + mb % 993) (min (8 + mb % 993) (8 + ma % 993)) 1 false with time := tk % 1000 } : Cn).st = 3) := rfl
  have OKE2 : Hid (COk 2 { estab 1 40000 2 80 iss irs (8 + ma % 993) (min (8 + ma % 993) (8 + mb % 993)) 0 false with time := tk % 1000 }) := by show COk _ _; rw [← TE.out]; exact OKF.out.tickC _
  have OKF2 : Hid (COk 2 { estab 2 80 1 40000 irs iss (8 + mb % 993) (min (8 + mb % 993) (8 + ma % 993)) 1 false with time := tk % 1000 }) := by show COk _ _; rw [← TF.out]; exact OKG.out.tickC _
  have OKE := OKF
  have OKF := OKG
  generalize ({ estab 1 40000 2 80 iss irs (8 + ma % 993) (min (8 + ma % 993) (8 + mb % 993)) 0 false with time := tk % 1000 } : Cn) = E2 at *
  generalize ({ estab 2 80 1 40000 irs iss (8 + mb % 993) (min (8 + mb % 993) (8 + ma % 993)) 1 false with time := tk % 1000 } : Cn) = F2 at *
  generalize estab 1 40000 2 80 iss irs (8 + ma % 993) (min (8 + ma % 993) (8 + mb % 993)) 0 false = E at *
  generalize estab 2 80 1 40000 irs iss (8 + mb % 993) (min (8 + mb % 993) (8 + ma % 993)) 1 false = F at *
  go_loopw [126] (fun i W => ∃ P' Q', (i = .int .i64 0 ∧ PM w ⟨x, .slice none 0 0, b, P', d, Q'⟩ pr0 E F W) ∨ (i = .int .i64 1 ∧ PM w ⟨x, .slice none 0 0, b, P', d, Q'⟩ pr0 E2 F W) ∨ (i = .int .i64 2 ∧ PM w ⟨x, .slice none 0 0, b, P', d, Q'⟩ pr0 E2 F2 W)) (fun i _ => 2 - (intOf i).toNat)
  case atStart => exact ⟨P8, Q11, Or.inl ⟨rfl, M12.out⟩⟩
  case round =>
    obtain ⟨PX, QX, hc⟩ := hrel
    clear M12
    rcases hc with ⟨rfl, hm⟩ | ⟨rfl, hm⟩ | ⟨rfl, hm⟩
    · have x0 : wr.cell? ⟨x, 0, none⟩ = some (ptr b) := hm.cell 0
      have M0 := Lib.hid hm
      clear hm
      have HTi : Hid (∀ {P' Q' W}, PM w ⟨x, .slice none 0 0, b, P', d, Q'⟩ pr0 E F W → Calls Try.prog 13 #[ptr b, .int .i64 (tk % 1000)] W fun e w' => e = .returned (.int .i64 (E.tickE (tk % 1000))) ∧ ∃ P' Q', PM w ⟨x, .slice none 0 0, b, P', d, Q'⟩ pr0 E2 F w') := fun {P' Q' W} h =>
        (tick_any h.two.ca OKE.out (by unfold Few; omega) (tk % 1000)).mono fun e w' ⟨h1, h2, h3⟩ => ⟨h1, P', Q', h.left (TE.out ▸ h2) h3⟩
      have HSt : Hid (∀ {P' Q' W}, PM w ⟨x, .slice none 0 0, b, P', d, Q'⟩ pr0 E2 F W → Calls Try.prog 11 #[ptr b] W fun e w' => e = .returned (.int .i64 3) ∧ w' = W) := fun h => by have := state_any h.two.ca; rwa [SE.out] at this
      have HOu : Hid (∀ {P' Q' W}, PM w ⟨x, .slice none 0 0, b, P', d, Q'⟩ pr0 E2 F W → Calls Try.prog 10 #[ptr b] W fun e w' => ∃ v P' Q', e = .returned v ∧ SRow w' w.heap.size v [] ∧ PM w ⟨x, .slice none 0 0, b, P', d, Q'⟩ pr0 E2 F w') := fun {P' Q' W} h =>
        (out_any h.two.ca OKE2.out (by unfold Few; omega)).mono fun e w' ⟨v, h1, h2, R, h3, h4⟩ => by
          rw [OE.out] at h3
          rw [LE.out] at h2
          exact ⟨v, R, Q', h1, h2.base h.be.size, h.left h3 h4⟩
      have HRy : Hid (∀ {P' Q' W}, PM w ⟨x, .slice none 0 0, b, P', d, Q'⟩ pr0 E2 F W → Calls Try.prog 16 #[ptr b] W fun e w' => e = .returned (.int .i64 2) ∧ ∃ P' Q', PM w ⟨x, .slice none 0 0, b, P', d, Q'⟩ pr0 E2 F w') := fun {P' Q' W} h => by
        have := ready_any h.two.ca OKE2.out (by unfold Few; omega)
        rw [RE.out] at this
        exact this.mono fun e w' ⟨h1, n, h2⟩ => ⟨h1, P', Q', h2 ▸ h.keep (below_drewN W n)⟩
      go_wp2_with fail
      refine (HRt.out _).mono ?_; rintro e wA ⟨rfl, rfl⟩
      go_wp2_with fail
      refine (HTi.out M0.out).mono ?_; rintro e wB ⟨rfl, PB, QB, m1⟩
      have N1 := Lib.hid m1
      clear m1 x0 M0 HTi
      go_wp2_with fail
      refine (HSt.out N1.out).mono ?_; rintro e wC ⟨rfl, rfl⟩
      go_wp2_with fail
      refine (HOu.out N1.out).mono ?_; rintro e wD ⟨v, PD, QD, rfl, rD, m2⟩
      have N2' := Lib.hid m2
      obtain ⟨oD, gD, capD, hvD, _⟩ := rD.form
      subst hvD
      clear m2 rD N1 HOu
      go_wp2_with fail
      refine (HRy.out N2'.out).mono ?_; rintro e wE ⟨rfl, PE, QE, m3⟩
      have N3 := Lib.hid m3
      clear m3 N2'
      go_wp2_with fail
      go_roundw
      case rel => exact ⟨PE, QE, Or.inr (Or.inl ⟨rfl, N3.out⟩)⟩
      case measure => simp [intOf]
    · have x0 : wr.cell? ⟨x, 1, none⟩ = some (ptr d) := hm.cell 1
      have M0 := Lib.hid hm
      clear hm
      have HTi : Hid (∀ {P' Q' W}, PM w ⟨x, .slice none 0 0, b, P', d, Q'⟩ pr0 E2 F W → Calls Try.prog 13 #[ptr d, .int .i64 (tk % 1000)] W fun e w' => e = .returned (.int .i64 (F.tickE (tk % 1000))) ∧ ∃ P' Q', PM w ⟨x, .slice none 0 0, b, P', d, Q'⟩ pr0 E2 F2 w') := fun {P' Q' W} h =>
        (tick_any h.two.cb OKF.out (by unfold Few; omega) (tk % 1000)).mono fun e w' ⟨h1, h2, h3⟩ => ⟨h1, P', Q', h.right (TF.out ▸ h2) h3⟩
      have HSt : Hid (∀ {P' Q' W}, PM w ⟨x, .slice none 0 0, b, P', d, Q'⟩ pr0 E2 F2 W → Calls Try.prog 11 #[ptr d] W fun e w' => e = .returned (.int .i64 3) ∧ w' = W) := fun h => by have := state_any h.two.cb; rwa [SF.out] at this
      have HOu : Hid (∀ {P' Q' W}, PM w ⟨x, .slice none 0 0, b, P', d, Q'⟩ pr0 E2 F2 W → Calls Try.prog 10 #[ptr d] W fun e w' => ∃ v P' Q', e = .returned v ∧ SRow w' w.heap.size v [] ∧ PM w ⟨x, .slice none 0 0, b, P', d, Q'⟩ pr0 E2 F2 w') := fun {P' Q' W} h =>
        (out_any h.two.cb OKF2.out (by unfold Few; omega)).mono fun e w' ⟨v, h1, h2, R, h3, h4⟩ => by
          rw [OF.out] at h3
          rw [LF.out] at h2
          exact ⟨v, P', R, h1, h2.base h.be.size, h.right h3 h4⟩
      have HRy : Hid (∀ {P' Q' W}, PM w ⟨x, .slice none 0 0, b, P', d, Q'⟩ pr0 E2 F2 W → Calls Try.prog 16 #[ptr d] W fun e w' => e = .returned (.int .i64 2) ∧ ∃ P' Q', PM w ⟨x, .slice none 0 0, b, P', d, Q'⟩ pr0 E2 F2 w') := fun {P' Q' W} h => by
        have := ready_any h.two.cb OKF2.out (by unfold Few; omega)
        rw [RF.out] at this
        exact this.mono fun e w' ⟨h1, n, h2⟩ => ⟨h1, P', Q', h2 ▸ h.keep (below_drewN W n)⟩
      go_wp2_with fail
      refine (HRt.out _).mono ?_; rintro e wA ⟨rfl, rfl⟩
      go_wp2_with fail
      refine (HTi.out M0.out).mono ?_; rintro e wB ⟨rfl, PB, QB, m1⟩
      have N1 := Lib.hid m1
      clear m1 x0 M0 HTi
      go_wp2_with fail
      refine (HSt.out N1.out).mono ?_; rintro e wC ⟨rfl, rfl⟩
      go_wp2_with fail
      refine (HOu.out N1.out).mono ?_; rintro e wD ⟨v, PD, QD, rfl, rD, m2⟩
      have N2' := Lib.hid m2
      obtain ⟨oD, gD, capD, hvD, _⟩ := rD.form
      subst hvD
      clear m2 rD N1 HOu
      go_wp2_with fail
      refine (HRy.out N2'.out).mono ?_; rintro e wE ⟨rfl, PE, QE, m3⟩
      have N3 := Lib.hid m3
      clear m3 N2'
      go_wp2_with fail
      go_roundw
      case rel => exact ⟨PE, QE, Or.inr (Or.inr ⟨rfl, N3.out⟩)⟩
      case measure => simp [intOf]
    · have HB := Lib.hid hm.be
      clear hm
      go_wp2_with fail
      go_ret
      exact ⟨rfl, HB.out⟩
end Go.Proofs.Ytnhcjefbiihfjab
