/-
  Contract of takeRsts (package conn).
-/
import Derived.Test.YtnhcjefbiihfjaaSr
import Derived.Deep.CutBlock
namespace Go.Proofs.Ytnhcjefbiihfjaa
open Go.RowKit
open Tc (Sg gchk gv gc)
set_option linter.unusedVariables false
set_option linter.unusedSimpArgs false
section
variable {b k bx : Nat} {c : Cn} {P : Pt} {g : Sg} {w : World}
theorem src_one {b : Nat} {W : World} {q : Sg} (h : W.heap[b]? = some (.cells (gc q) 35 (0, 0))) : Src 13 W (some ⟨b, 0, none⟩) 1 (gcl q) :=
  ⟨rfl, gcl_one q, fun e => absurd e (by simp), fun ad ho j u hu => by
    cases ho
    rw [add_mid0, Nat.zero_add]
    have := Joins.cell_of_block h j
    rw [this]
    simpa using hu⟩
theorem src_new (W : World) (q : Sg) : Src 13 (W.alloc (.cells (gc q) 35)).drew (some ⟨W.heap.size, 0, none⟩) 1 (gcl q) := src_one (heap_alloc_new W _)
theorem row_add {W : World} {B : Nat} {v : Value} {L : List Sg} {q : Sg} (h : W.ownsRow B 35 13 v (L.length + 1) (scells L ++ gcl q)) : SRow W B v (L ++ [q]) := by
  unfold SRow
  rw [scells_append, List.length_append]
  simpa [scells] using h
theorem fp_nil {b x : Nat} {P : Pt} (h : x ∈ fp b { P with rv := .slice none 0 0 }) : x ∈ fp b P := by
  have e : rw' (Value.slice none 0 0) = [] := rfl
  simp only [fp, e, List.append_nil, List.mem_cons, List.mem_append] at h ⊢
  rcases h with h | h | h | h | h | h
  · exact Or.inl h
  · exact Or.inr (Or.inl h)
  · exact Or.inr (Or.inr (Or.inl h))
  · exact Or.inr (Or.inr (Or.inr (Or.inl h)))
  · exact Or.inr (Or.inr (Or.inr (Or.inr (Or.inl h))))
  · exact Or.inr (Or.inr (Or.inr (Or.inr (Or.inr (Or.inl h)))))
def s4 (b : Nat) (c : Cn) (W : World) : Prop :=
  W.cell? ⟨b, 0, none⟩ = some (.int .u32 (c.la : Int)) ∧ W.cell? ⟨b, 1, none⟩ = some (.int .i64 c.lp) ∧ W.cell? ⟨b, 2, none⟩ = some (.int .u32 (c.ra : Int)) ∧ W.cell? ⟨b, 3, none⟩ = some (.int .i64 c.rp)
set_option maxRecDepth 100000 in
set_option maxHeartbeats 2000000 in
theorem takeRsts_any (h : CT b c P w) (ok : COk k c) (hk : Few k) :
    Calls Try.prog 27 #[ptr b] w fun e w' => ∃ v, e = .returned v ∧ SRow w' w.heap.size v (c.rst.map c.rstSg) ∧ CT b { c with rst := [] } { P with rv := .slice none 0 0 } w' ∧ Up b P { P with rv := .slice none 0 0 } w w' := by
  obtain ⟨i0, hi0, hz0, hz1, hz2⟩ := info_parts info_seg
  obtain ⟨o, cap, hv, hnc, _, hgo⟩ := own_form h.rst
  have hn := ok.rs
  unfold Few at hk
  have c25 := h.c25
  rw [hv] at c25
  have HL : Hid (∀ W g, o = some ⟨g, 0, none⟩ → Below w.heap.size w W → ∀ (i : Nat) (q : Nat), c.rst[i]? = some q → W.cell? ⟨g, i, none⟩ = some (.int .u32 (q : Int))) := fun W g ho hb i q hq => by
    have h1 := own_kp (bs := []) h.rst (Kp.ofBelow hb) (fun g _ => by simp)
    rw [hv, ho] at h1
    have := h1.cells rfl i (.int .u32 (q : Int)) (by unfold rcl; rw [List.getElem?_map, hq]; rfl)
    rwa [add_mid0, Nat.zero_add] at this
  have HS : Hid (∀ W, Below w.heap.size w W → s4 b c W) := fun W hb => ⟨(h.keep hb).c0, (h.keep hb).c1, (h.keep hb).c2, (h.keep hb).c3⟩
  have HSr : Hid (∀ (q : Sg) (W : World), W.heap[W.heap.size - 1]? = some (.cells (gc q) 35 (0, 0)) → Src 13 W (some ⟨W.heap.size - 1, 0, none⟩) 1 (gcl q)) := fun q W hh => src_one hh
  have HE : Hid (∀ W, Below w.heap.size w W → W.cell? ⟨b, 25, none⟩ = some (.slice o c.rst.length cap) ∧ W.frozen? ⟨b, 25, none⟩ = false ∧ CT b { c with rst := [] } { P with rv := .slice none 0 0 } (W.setCell ⟨b, 25, none⟩ (.slice none 0 0)) ∧ Up b P { P with rv := .slice none 0 0 } w (W.setCell ⟨b, 25, none⟩ (.slice none 0 0))) := fun W hb => by
    have h' := h.keep hb
    have e := h'.c25
    rw [hv] at e
    refine ⟨e, h'.free 25, h'.putR (l := []) (World.ownsRow_nil _ _ _ _) (Kp.refl _ _), ?_⟩
    exact ⟨((Up.below hb).set _ _).kp, fun x hx => Or.inl (fp_nil hx)⟩
  have HM : Hid (∀ (i : Nat) (q : Nat), c.rst[i]? = some q → (c.rst.take (i + 1)).map c.rstSg = (c.rst.take i).map c.rstSg ++ [c.rstSg q]) := fun i q hq => by
    rw [List.take_add_one, hq]; simp
  have HT : Hid ((c.rst.take c.rst.length).map c.rstSg = c.rst.map c.rstSg) := by show _ = _; rw [List.take_length]
  have HQ : ∀ i : Nat, i < c.rst.length → ∃ q, c.rst[i]? = some q := fun i hi => ⟨_, List.getElem?_eq_getElem hi⟩
  have HK : ∀ i : Nat, i ≤ c.rst.length → ((c.rst.take i).map c.rstSg).length = i := fun i hi => by simp; omega
  have HG : Hid (∀ W0 W W2 v acc, Below w.heap.size w W0 → SRow W0 w.heap.size v acc → Below w.heap.size w W → W.grownBy W2 v.ownBlock → Below w.heap.size w W2) := fun W0 W W2 v acc h0 hr hb hg => hb.grown hg hb.size (fun j hj => (hr.lt j hj).1)
  have HN : Hid (∀ W0 v acc, Below w.heap.size w W0 → SRow W0 w.heap.size v acc → ∀ {g}, v.ownBlock = some g → g ∉ [b]) := fun W0 v acc h0 hr g hg => by
    have := (hr.lt g hg).1
    have := h.lt
    simp; omega
  clear h ok hv
  generalize c.rst.length = n at *
  go_enter Try.func27, Try.ntmps27
  go_wp2_with fail
  go_loopw [3, 12] (fun v i W => ∃ j : Nat, j ≤ n ∧ i = .int .i64 (j : Int) ∧ SRow W w.heap.size v ((c.rst.take j).map c.rstSg) ∧ Below w.heap.size w W) (fun _ i _ => n - (intOf i).toNat)
  case atStart => exact ⟨0, Nat.zero_le _, rfl, SRow.nil _ _, Below.refl _ _⟩
  case round =>
    obtain ⟨j, hj, rfl, hR, hb⟩ := hrel
    by_cases hlt : j < n
    · obtain ⟨q, hq⟩ := HQ j hlt
      obtain ⟨g, rfl⟩ := hgo (by omega)
      have HL' := HL.out _ g rfl hb j q hq
      have hM := Lib.hid (HM.out j q hq)
      have hln := HK j hj
      have R := Lib.hid hR
      have HB3 : Hid (∀ o, Below w.heap.size w (wr.alloc o).drew) := fun o => (hb.alloc hb.size o).drew
      have HB4 : Hid (Below w.heap.size w wr.drew) := hb.drew
      have hbs := hb.size
      clear hR HL HQ HK
      have HM2 := hM
      generalize hacc : (c.rst.take j).map c.rstSg = acc at *
      clear hacc hM
      go_wp2_with fail
      refine wp_region_held_drew (S := (s4 b c)) (by kernel_rfl) (HS.out _ (HB4.out)) (fun hHeld => ?_)
      refine takeH (i := 0) (d := some 16) (v := ?_) rfl rfl (by kernel_rfl) (by kernel_rfl) (by kernel_rfl) (fun _ _ _ h => h) (Or.inl ⟨by rfl, ?_⟩) hHeld ?_
      rotate_left
      · intro w' hSw; (try dsimp only at hSw); go_simp; try with_reducible rfl
      simp only [Act.put, List.setIfInBounds_toArray, List.set_cons_zero, List.set_cons_succ]
      refine takeH (i := 1) (d := some 17) (v := ?_) rfl rfl (by kernel_rfl) (by kernel_rfl) (by kernel_rfl) (fun _ _ _ h => h) (Or.inl ⟨by rfl, ?_⟩) hHeld ?_
      rotate_left
      · intro w' hSw; (try dsimp only at hSw); go_simp; try with_reducible rfl
      simp only [Act.put, List.setIfInBounds_toArray, List.set_cons_zero, List.set_cons_succ]
      refine takeH (i := 2) (d := some 18) (v := ?_) rfl rfl (by kernel_rfl) (by kernel_rfl) (by kernel_rfl) (fun _ _ _ h => h) (Or.inl ⟨by rfl, ?_⟩) hHeld ?_
      rotate_left
      · intro w' hSw; (try dsimp only at hSw); go_simp; try with_reducible rfl
      simp only [Act.put, List.setIfInBounds_toArray, List.set_cons_zero, List.set_cons_succ]
      refine takeH (i := 3) (d := some 19) (v := ?_) rfl rfl (by kernel_rfl) (by kernel_rfl) (by kernel_rfl) (fun _ _ _ h => h) (Or.inl ⟨by rfl, ?_⟩) hHeld ?_
      rotate_left
      · intro w' hSw; (try dsimp only at hSw); go_simp; try with_reducible rfl
      simp only [Act.put, List.setIfInBounds_toArray, List.set_cons_zero, List.set_cons_succ]
      refine takeH (i := 4) (d := some 20) (v := ?_) rfl rfl (by kernel_rfl) (by kernel_rfl) (by kernel_rfl) (fun _ _ _ h => h) (Or.inl ⟨by rfl, ?_⟩) hHeld ?_
      rotate_left
      · intro w' hSw; (try dsimp only at hSw); obtain ⟨q1, q2, q3, q4⟩ := hSw; go_simp; try with_reducible rfl
      simp only [Act.put, List.setIfInBounds_toArray, List.set_cons_zero, List.set_cons_succ]
      refine takeH (i := 5) (d := some 21) (v := ?_) rfl rfl (by kernel_rfl) (by kernel_rfl) (by kernel_rfl) (fun _ _ _ h => h) (Or.inl ⟨by rfl, ?_⟩) hHeld ?_
      rotate_left
      · intro w' hSw; (try dsimp only at hSw); go_simp; try with_reducible rfl
      simp only [Act.put, List.setIfInBounds_toArray, List.set_cons_zero, List.set_cons_succ]
      refine takeH (i := 6) (d := some 22) (v := ?_) rfl rfl (by kernel_rfl) (by kernel_rfl) (by kernel_rfl) (fun _ _ _ h => h) (Or.inl ⟨by rfl, ?_⟩) hHeld ?_
      rotate_left
      · intro w' hSw; (try dsimp only at hSw); go_simp; try with_reducible rfl
      simp only [Act.put, List.setIfInBounds_toArray, List.set_cons_zero, List.set_cons_succ]
      refine takeH (i := 7) (d := some 23) (v := ?_) rfl rfl (by kernel_rfl) (by kernel_rfl) (by kernel_rfl) (fun _ _ _ h => h) (Or.inl ⟨by rfl, ?_⟩) hHeld ?_
      rotate_left
      · intro w' hSw; (try dsimp only at hSw); go_simp; try with_reducible rfl
      simp only [Act.put, List.setIfInBounds_toArray, List.set_cons_zero, List.set_cons_succ]
      refine takeH (i := 8) (d := some 24) (v := ?_) rfl rfl (by kernel_rfl) (by kernel_rfl) (by kernel_rfl) (fun _ _ _ h => h) (Or.inl ⟨by rfl, ?_⟩) hHeld ?_
      rotate_left
      · intro w' hSw; (try dsimp only at hSw); obtain ⟨q1, q2, q3, q4⟩ := hSw; go_simp; try with_reducible rfl
      simp only [Act.put, List.setIfInBounds_toArray, List.set_cons_zero, List.set_cons_succ]
      refine takeH (i := 9) (d := some 25) (v := ?_) rfl rfl (by kernel_rfl) (by kernel_rfl) (by kernel_rfl) (fun _ _ _ h => h) (Or.inl ⟨by rfl, ?_⟩) hHeld ?_
      rotate_left
      · intro w' hSw; (try dsimp only at hSw); go_simp; try with_reducible rfl
      simp only [Act.put, List.setIfInBounds_toArray, List.set_cons_zero, List.set_cons_succ]
      refine takeH (i := 10) (d := some 26) (v := ?_) rfl rfl (by kernel_rfl) (by kernel_rfl) (by kernel_rfl) (fun _ _ _ h => h) (Or.inl ⟨by rfl, ?_⟩) hHeld ?_
      rotate_left
      · intro w' hSw; (try dsimp only at hSw); go_simp; try with_reducible rfl
      simp only [Act.put, List.setIfInBounds_toArray, List.set_cons_zero, List.set_cons_succ]
      refine wpAnyH_ready (rs := [11]) (by kernel_rfl) (by simp) ?_
      refine AllReadyH.cons rfl (fun K hK => ?_) (AllReadyH.nil)
      go_simp
      clear hHeld
      refine hK.out _ _ (HS.out _ (HB3.out _)) (fun hHeld => ?_)
      clear hK K
      try simp only [Act.put, List.setIfInBounds_toArray, List.set_cons_zero, List.set_cons_succ]
      refine wpAnyH_ready (rs := [12]) (by kernel_rfl) (by simp) ?_
      refine AllReadyH.cons rfl (fun K hK => ?_) (AllReadyH.nil)
      refine step_src _ rfl _ _ 48 rfl w.heap.size 35 i0 _ 13 80 Try.underlying48 hi0 hz0 hz1 hz2 rfl (by decide) u3 (some ⟨wr.heap.size, 0, none⟩) acc.length 1 1 (scells acc) (gcl (c.rstSg q)) rfl rfl (World.ownsRow.drew (World.ownsRow.alloc R.out _)) (src_new wr (c.rstSg q)) (fun e => absurd e (by simp)) (by unfold maxLen; omega) (by omega) (by simp; omega) ?_
      intro v2 w2 own2 hgrow hob
      have hb2 : Below w.heap.size w w2 := HG.out _ _ _ _ _ hb R.out (HB3.out _) hgrow
      have hR2 : SRow w2 w.heap.size v2 (acc ++ [c.rstSg q]) := row_add own2
      clear hHeld
      refine hK.out _ _ (HS.out _ hb2) (fun hHeld => ?_)
      clear hK K
      try simp only [Act.put, List.setIfInBounds_toArray, List.set_cons_zero, List.set_cons_succ]
      refine takeH (i := 13) (d := some 3) (v := ?_) rfl rfl (by kernel_rfl) (by kernel_rfl) (by kernel_rfl) (fun _ _ _ h => h) (Or.inl ⟨by rfl, ?_⟩) hHeld ?_
      rotate_left
      · intro w' hSw; (try dsimp only at hSw); go_simp; try with_reducible rfl
      simp only [Act.put, List.setIfInBounds_toArray, List.set_cons_zero, List.set_cons_succ]
      refine wpAnyH_done (by kernel_rfl) ?_ _
      rw [← HM2.out] at hR2
      go_wp2_with fail
      go_roundw
      · exact ⟨j + 1, hlt, by simp, hR2, hb2⟩
      · simp [intOf]; omega
    · obtain rfl : j = n := by omega
      rw [HT.out] at hR
      have R := Lib.hid hR
      obtain ⟨e1, e2, e3, e4⟩ := HE.out _ hb
      have E3 := Lib.hid e3
      have E4 := Lib.hid e4
      clear e3 e4 hR
      go_wp2_with fail
      go_ret
      exact ⟨_, rfl, R.out.kp (bs := [b]) ((Kp.refl _ _).setCell (Or.inl (by simp)) _) (fun g hg => HN.out _ _ _ hb R.out hg), E3.out, E4.out⟩
end
end Go.Proofs.Ytnhcjefbiihfjaa
