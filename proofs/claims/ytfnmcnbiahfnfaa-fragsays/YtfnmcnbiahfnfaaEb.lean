/-
  Contract of the document's drop (32), which takes out one that is open.
-/
import Derived.Test.YtfnmcnbiahfnfaaEa
namespace Go.Proofs.Ytfnmcnbiahfnfaa
open Go.RowKit
set_option linter.unusedVariables false
set_option linter.unusedSimpArgs false

/-- A new list is stored. -/
theorem UT.fresh {w w3 : World} {ub B : Nat} {s s' : Value} {U U' : List DE} (h : UT w ub B s U) (hB : B ≤ w.heap.size) (j3 : Below w.heap.size w w3) (ho : w3.ownsRow w.heap.size 81 2 s' U'.length (ocells U')) (hs : ∀ e ∈ U', ∃ x ∈ U, e.v = x.v ∧ e.l = x.l) :
    UT (w3.setCell ⟨ub, 0, none⟩ s') ub B s' U' ∧ Kp [ub] w (w3.setCell ⟨ub, 0, none⟩ s') ∧ ∀ g, s'.ownBlock = some g → w.heap.size ≤ g := by
  have ult := h.lt
  have hge : ∀ g, s'.ownBlock = some g → w.heap.size ≤ g := fun g hg => (ho.lt g hg).1
  have hk : Kp [ub] w (w3.setCell ⟨ub, 0, none⟩ s') := ((Kp.ofBelow (bs := [ub]) j3)).setCell (Or.inl (by simp)) _
  refine ⟨⟨?_, ?_, fun e he => ?_, fun hc => ?_, fun e he => ?_⟩, hk, hge⟩
  · exact Joins.block_setCell (i := 0) ((j3.block ub ult).trans h.box) s'
  · refine own_base (own_keep ho fun k hk => heap_setCell_other w3 ⟨ub, 0, none⟩ k s' ?_) hB
    show k ≠ ub
    have := hge k hk
    omega
  · obtain ⟨x, hx, e1, e2⟩ := hs e he
    rw [e1, e2]
    refine own_keep (W := w) (h.ls x hx) fun k hk' => hk.block k (World.ownsRow.lt (h.ls x hx) k hk').2 (fun hm => (h.nv x hx).1 ?_)
    simp at hm
    rw [hk', hm]
  · have := hge ub hc
    omega
  · obtain ⟨x, hx, e1, e2⟩ := hs e he
    rw [e1]
    refine ⟨(h.nv x hx).1, fun g hg hc => ?_⟩
    have h1 := hge g hg
    have h2 := (World.ownsRow.lt (h.ls x hx) g hc).2
    omega

set_option maxHeartbeats 4000000 in
set_option maxRecDepth 100000 in
theorem drop_any (xb kb ub B k : Nat) (s : Value) (U : List DE) (w : World) (hx0 : w.cell? ⟨xb, 0, none⟩ = some (.pointer (some ⟨ub, 0, none⟩))) (hk0 : w.cell? ⟨kb, 0, none⟩ = some (.int .i64 (k : Int))) (hxu0 : ub ≠ xb) (hku0 : ub ≠ kb)
    (h : UT w ub B s U) (hB : B ≤ w.heap.size) (hlt : k < U.length) (h8 : U.length ≤ 9) :
    Calls Try.prog 32 #[.pointer (some ⟨xb, 0, none⟩), .pointer (some ⟨kb, 0, none⟩)] w fun e w' => e = .returned (.tuple #[]) ∧ ∃ s', UT w' ub B s' (U.take k ++ U.drop (k + 1)) ∧ Kp [ub] w w' ∧ ∀ g, s'.ownBlock = some g → w.heap.size ≤ g := by
  obtain ⟨o, cap, rfl, hle, hoc, hg0⟩ := own_form h.row
  obtain ⟨g, rfl⟩ := hg0 (by omega)
  have cu : w.cell? ⟨ub, 0, none⟩ = some (.slice (some ⟨g, 0, none⟩) U.length cap) := h.cell
  have fu := h.free
  have ult := h.lt
  have xlt := World.block_lt_of_cell? _ _ hx0
  have klt := World.block_lt_of_cell? _ _ hk0
  have hx := Lib.hid hx0
  have hkb := Lib.hid hk0
  have hxu := Lib.hid hxu0
  have hku := Lib.hid hku0
  have cud : w.drew.cell? ⟨ub, 0, none⟩ = some (.slice (some ⟨g, 0, none⟩) U.length cap) := cu
  have hs1 : ∀ w', (Instr.slice 35 (.slice (some ⟨g, 0, none⟩) U.length cap) none (some (.int .i64 (k : Int))) none).run Try.prog w' = .ok (.slice (some ⟨g, 0, none⟩) k cap) w' := fun w' => slice_to _ _ _ _ w' (by omega)
  have hs2 : ∀ w', (Instr.slice 35 (.slice (some ⟨g, 0, none⟩) U.length cap) (some (.int .i64 (IntKind.i64.wrap ((k : Int) + 1)))) none none).run Try.prog w' = .ok (.slice (some (if cap = k + 1 then ⟨g, 0, none⟩ else ⟨g, (k + 1) * 2, none⟩)) (U.length - (k + 1)) (cap - (k + 1))) w' := fun w' => slice_from g U.length cap (k + 1) _ w' (by rw [IntKind.wrap_i64]; omega) (by omega) hle
  have S1 : Hid (∀ W, Below w.heap.size w W → Src 2 W (some ⟨g, 0, none⟩) k (ocells (U.take k))) := fun W hb => by
    have := own_take h.row h.one k (by omega)
    rw [ocells_take] at this
    exact this.on hb
  have S2 : Hid (∀ W, Below w.heap.size w W → Src 2 W (some (if cap = k + 1 then ⟨g, 0, none⟩ else ⟨g, (k + 1) * 2, none⟩)) (U.length - (k + 1)) (ocells (U.drop (k + 1)))) := fun W hb => by
    have := own_drop h.row h.one (k + 1) (by omega) hle
    rw [ocells_drop] at this
    exact this.on hb
  have HP : Hid (∀ W, Below w.heap.size w W → Calls Try.prog 33 #[.slice (some ⟨g, 0, none⟩) k cap] W fun e wc => ∃ v, e = .returned v ∧ wc.ownsRow w.heap.size 81 2 v k (ocells (U.take k)) ∧ Below w.heap.size w wc) := fun W hb => by
    refine Calls.mono (ocopy_any _ k cap _ W (S1.out W hb) (fun h => by cases h) (by omega)) ?_
    rintro e wc ⟨v, rfl, h1, h2⟩
    exact ⟨v, rfl, own_base h1 hb.size, hb.trans (h2.mono hb.size)⟩
  have HN : Hid (k + (U.length - (k + 1)) = (U.take k ++ U.drop (k + 1)).length) := by show _ = _; rw [List.length_append, List.length_take, List.length_drop, Nat.min_eq_left (by omega)]
  have HEnd : Hid (∀ v2 w3, World.ownsRow w3 w.heap.size 81 2 v2 (k + (U.length - (k + 1))) (ocells (U.take k) ++ ocells (U.drop (k + 1))) → Below w.heap.size w w3 → ∃ s', UT (w3.setCell ⟨ub, 0, none⟩ v2) ub B s' (U.take k ++ U.drop (k + 1)) ∧ Kp [ub] w (w3.setCell ⟨ub, 0, none⟩ v2) ∧ ∀ g, s'.ownBlock = some g → w.heap.size ≤ g) := fun v2 w3 ho j3 => by
    rw [HN.out, ← ocells_append] at ho
    refine ⟨v2, h.fresh hB j3 ho fun e he => ?_⟩
    rcases List.mem_append.1 he with he | he
    · exact ⟨e, List.mem_of_mem_take he, rfl, rfl⟩
    · exact ⟨e, List.mem_of_mem_drop he, rfl, rfl⟩
  obtain ⟨i0, hi0, hz0, hz1, hz2⟩ := info_parts info81
  generalize (if cap = k + 1 then (⟨g, 0, none⟩ : Addr) else ⟨g, (k + 1) * 2, none⟩) = ad2 at *
  generalize hm2 : U.length - (k + 1) = m2 at *
  have hm64 : k + m2 ≤ 64 := by omega
  clear hm2 h hx0 hk0 hxu0 hku0 hoc hg0 HN S1
  generalize U.length = nl at *
  go_enter Try.func32, Try.ntmps32
  go_wp2_with fail
  refine wp_region_held_drew (S := fun w' => Hid (w'.cell? ⟨xb, 0, none⟩ = some (.pointer (some ⟨ub, 0, none⟩))) ∧ Hid (w'.cell? ⟨kb, 0, none⟩ = some (.int .i64 (k : Int)))) (by kernel_rfl) ⟨hx, hkb⟩ (fun hHeld => ?_)
  refine takeH (i := 0) (d := some 2) (v := ?_) rfl rfl (by kernel_rfl) (by kernel_rfl) (by kernel_rfl) (fun _ _ _ h => h) (Or.inl ⟨by rfl, ?_⟩) hHeld ?_
  rotate_left
  · intro w' hSw; (try dsimp only at hSw); have q1 := hSw.1.out; have q2 := hSw.2.out; go_simp; try with_reducible rfl
  simp only [Act.put, List.setIfInBounds_toArray, List.set_cons_zero, List.set_cons_succ]
  refine takeH (i := 1) (d := some 3) (v := ?_) rfl rfl (by kernel_rfl) (by kernel_rfl) (by kernel_rfl) (fun _ _ _ h => h) (Or.inl ⟨by rfl, ?_⟩) hHeld ?_
  rotate_left
  · intro w' hSw; (try dsimp only at hSw); have q1 := hSw.1.out; have q2 := hSw.2.out; go_simp; try with_reducible rfl
  simp only [Act.put, List.setIfInBounds_toArray, List.set_cons_zero, List.set_cons_succ]
  refine takeH (i := 5) (d := some 7) (v := ?_) rfl rfl (by kernel_rfl) (by kernel_rfl) (by kernel_rfl) (fun _ _ _ h => h) (Or.inl ⟨by rfl, ?_⟩) hHeld ?_
  rotate_left
  · intro w' hSw; (try dsimp only at hSw); have q1 := hSw.1.out; have q2 := hSw.2.out; go_simp; try with_reducible rfl
  simp only [Act.put, List.setIfInBounds_toArray, List.set_cons_zero, List.set_cons_succ]
  refine takeH (i := 8) (d := some 10) (v := ?_) rfl rfl (by kernel_rfl) (by kernel_rfl) (by kernel_rfl) (fun _ _ _ h => h) (Or.inl ⟨by rfl, ?_⟩) hHeld ?_
  rotate_left
  · intro w' hSw; (try dsimp only at hSw); have q1 := hSw.1.out; have q2 := hSw.2.out; go_simp; try with_reducible rfl
  simp only [Act.put, List.setIfInBounds_toArray, List.set_cons_zero, List.set_cons_succ]
  refine takeH (i := 12) (d := some 14) (v := ?_) rfl rfl (by kernel_rfl) (by kernel_rfl) (by kernel_rfl) (fun _ _ _ h => h) (Or.inl ⟨by rfl, ?_⟩) hHeld ?_
  rotate_left
  · intro w' hSw; (try dsimp only at hSw); have q1 := hSw.1.out; have q2 := hSw.2.out; go_simp; try with_reducible rfl
  simp only [Act.put, List.setIfInBounds_toArray, List.set_cons_zero, List.set_cons_succ]
  refine takeH (i := 2) (d := some 4) (v := ?_) rfl rfl (by kernel_rfl) (by kernel_rfl) (by kernel_rfl) (fun _ _ _ h => h) (Or.inl ⟨by rfl, ?_⟩) hHeld ?_
  rotate_left
  · intro w' hSw; (try dsimp only at hSw); go_simp; try with_reducible rfl
  simp only [Act.put, List.setIfInBounds_toArray, List.set_cons_zero, List.set_cons_succ]
  refine takeH (i := 3) (d := some 5) (v := ?_) rfl rfl (by kernel_rfl) (by kernel_rfl) (by kernel_rfl) (fun _ _ _ h => h) (Or.inl ⟨by rfl, ?_⟩) hHeld ?_
  rotate_left
  · intro w' hSw; (try dsimp only at hSw); go_simp; try with_reducible rfl
  simp only [Act.put, List.setIfInBounds_toArray, List.set_cons_zero, List.set_cons_succ]
  refine takeH (i := 9) (d := some 11) (v := ?_) rfl rfl (by kernel_rfl) (by kernel_rfl) (by kernel_rfl) (fun _ _ _ h => h) (Or.inl ⟨by rfl, ?_⟩) hHeld ?_
  rotate_left
  · intro w' hSw; (try dsimp only at hSw); go_simp; try with_reducible rfl
  simp only [Act.put, List.setIfInBounds_toArray, List.set_cons_zero, List.set_cons_succ]
  refine takeH (i := 10) (d := some 12) (v := ?_) rfl rfl (by kernel_rfl) (by kernel_rfl) (by kernel_rfl) (fun _ _ _ h => h) (Or.inl ⟨by rfl, ?_⟩) hHeld ?_
  rotate_left
  · intro w' hSw; (try dsimp only at hSw); go_simp; try with_reducible rfl
  simp only [Act.put, List.setIfInBounds_toArray, List.set_cons_zero, List.set_cons_succ]
  refine takeH (i := 13) (d := some 15) (v := ?_) rfl rfl (by kernel_rfl) (by kernel_rfl) (by kernel_rfl) (fun _ _ _ h => h) (Or.inl ⟨by rfl, ?_⟩) hHeld ?_
  rotate_left
  · intro w' hSw; (try dsimp only at hSw); go_simp; try with_reducible rfl
  simp only [Act.put, List.setIfInBounds_toArray, List.set_cons_zero, List.set_cons_succ]
  refine wpAnyH_ready (rs := [4, 11]) (by kernel_rfl) (by simp) ?_
  refine AllReadyH.cons rfl (fun K hK => ?_) (AllReadyH.cons rfl (fun K hK => ?_) AllReadyH.nil)
  · go_simp
    clear hHeld
    refine hK.out _ _ ⟨hx, hkb⟩ (fun hHeld => ?_)
    clear hK K
    try simp only [Act.put, List.setIfInBounds_toArray, List.set_cons_zero, List.set_cons_succ]
    refine takeH (i := 6) (d := some 8) (v := ?_) rfl rfl (by kernel_rfl) (by kernel_rfl) (by kernel_rfl) (fun _ _ _ h => h) (Or.inl ⟨by rfl, ?_⟩) hHeld ?_
    rotate_left
    · intro w' hSw; (try dsimp only at hSw); go_simp; try with_reducible rfl
    simp only [Act.put, List.setIfInBounds_toArray, List.set_cons_zero, List.set_cons_succ]
    refine wpAnyH_ready (rs := [7, 11]) (by kernel_rfl) (by simp) ?_
    refine AllReadyH.cons rfl (fun K hK => ?_) (AllReadyH.cons rfl (fun K hK => ?_) AllReadyH.nil)
    · go_simp
      refine (HP.out _ (Below.refl _ _).drew).mono ?_; rintro e wc ⟨v1, rfl, ho1, jc⟩
      have cu2 := (jc.cell (p := ⟨ub, 0, none⟩) ult).trans cu
      clear hHeld
      refine hK.out _ _ ⟨(jc.cell (p := ⟨xb, 0, none⟩) xlt).trans hx.out, (jc.cell (p := ⟨kb, 0, none⟩) klt).trans hkb.out⟩ (fun hHeld => ?_)
      clear hK K
      try simp only [Act.put, List.setIfInBounds_toArray, List.set_cons_zero, List.set_cons_succ]
      refine wpAnyH_ready (rs := [11]) (by kernel_rfl) (by simp) ?_
      refine AllReadyH.cons rfl (fun K hK => ?_) AllReadyH.nil
      go_simp
      clear hHeld
      refine hK.out _ _ ⟨(jc.cell (p := ⟨xb, 0, none⟩) xlt).trans hx.out, (jc.cell (p := ⟨kb, 0, none⟩) klt).trans hkb.out⟩ (fun hHeld => ?_)
      clear hK K
      try simp only [Act.put, List.setIfInBounds_toArray, List.set_cons_zero, List.set_cons_succ]
      refine takeH (i := 14) (d := some 16) (v := ?_) rfl rfl (by kernel_rfl) (by kernel_rfl) (by kernel_rfl) (fun _ _ _ h => h) (Or.inl ⟨by rfl, ?_⟩) hHeld ?_
      rotate_left
      · intro w' hSw; (try dsimp only at hSw); go_simp; try with_reducible rfl
      simp only [Act.put, List.setIfInBounds_toArray, List.set_cons_zero, List.set_cons_succ]
      refine wpAnyH_ready (rs := [15]) (by kernel_rfl) (by simp) ?_
      refine AllReadyH.cons rfl (fun K hK => ?_) AllReadyH.nil
      refine step_src _ rfl _ _ _ rfl w.heap.size 81 i0 _ 2 32 Try.underlying35 hi0 hz0 hz1 hz2 rfl (by omega) v1 (some ad2) k m2 _ (ocells (U.take k)) (ocells (U.drop (k + 1))) rfl rfl ho1 (S2.out _ jc) (fun h => by cases h) (by unfold maxLen; omega) (by omega) jc.size ?_
      intro v2 w3 ho2 hg2 hat2
      obtain ⟨o2, c2, rfl, _⟩ := own_form ho2
      have j3 : Below w.heap.size w w3 := jc.grown hg2 jc.size (fun k hk => (ho1.lt k hk).1)
      have e0 := (j3.cell (p := ⟨ub, 0, none⟩) ult).trans cu
      have e1 := (j3.frozen (p := ⟨ub, 0, none⟩) ult).trans fu
      clear hHeld
      refine hK.out _ _ ⟨(j3.cell (p := ⟨xb, 0, none⟩) xlt).trans hx.out, (j3.cell (p := ⟨kb, 0, none⟩) klt).trans hkb.out⟩ (fun hHeld => ?_)
      clear hK K
      try simp only [Act.put, List.setIfInBounds_toArray, List.set_cons_zero, List.set_cons_succ]
      refine takeH (i := 16) (d := some 18) (v := ?_) rfl rfl (by kernel_rfl) (by kernel_rfl) (by kernel_rfl) (fun _ _ _ h => h) (Or.inl ⟨by rfl, ?_⟩) hHeld ?_
      rotate_left
      · intro w' hSw; (try dsimp only at hSw); go_simp; try with_reducible rfl
      simp only [Act.put, List.setIfInBounds_toArray, List.set_cons_zero, List.set_cons_succ]
      refine takeH (i := 17) (d := some 19) (v := ?_) rfl rfl (by kernel_rfl) (by kernel_rfl) (by kernel_rfl) (fun _ _ _ h => h) (Or.inl ⟨by rfl, ?_⟩) hHeld ?_
      rotate_left
      · intro w' hSw; (try dsimp only at hSw); go_simp; try with_reducible rfl
      simp only [Act.put, List.setIfInBounds_toArray, List.set_cons_zero, List.set_cons_succ]
      refine wpAnyH_ready (rs := [18]) (by kernel_rfl) (by simp) ?_
      refine AllReadyH.cons rfl (fun K hK => ?_) AllReadyH.nil
      go_simp
      clear hHeld
      refine hK.out _ _ ⟨(World.cell?_setCell_far w3 ⟨ub, 0, none⟩ ⟨xb, 0, none⟩ _ hxu.out).trans ((j3.cell (p := ⟨xb, 0, none⟩) xlt).trans hx.out), (World.cell?_setCell_far w3 ⟨ub, 0, none⟩ ⟨kb, 0, none⟩ _ hku.out).trans ((j3.cell (p := ⟨kb, 0, none⟩) klt).trans hkb.out)⟩ (fun hHeld => ?_)
      clear hK K
      try simp only [Act.put, List.setIfInBounds_toArray, List.set_cons_zero, List.set_cons_succ]
      refine wpAnyH_done (by kernel_rfl) ?_ _
      go_wp2_with fail
      exact bodyPost_end (results_none rfl _ _ _) rfl ⟨rfl, HEnd.out _ w3 ho2 j3⟩
    · go_simp
      clear hHeld
      refine hK.out _ _ ⟨hx, hkb⟩ (fun hHeld => ?_)
      clear hK K
      try simp only [Act.put, List.setIfInBounds_toArray, List.set_cons_zero, List.set_cons_succ]
      refine takeH (i := 14) (d := some 16) (v := ?_) rfl rfl (by kernel_rfl) (by kernel_rfl) (by kernel_rfl) (fun _ _ _ h => h) (Or.inl ⟨by rfl, ?_⟩) hHeld ?_
      rotate_left
      · intro w' hSw; (try dsimp only at hSw); go_simp; try with_reducible rfl
      simp only [Act.put, List.setIfInBounds_toArray, List.set_cons_zero, List.set_cons_succ]
      refine wpAnyH_ready (rs := [7]) (by kernel_rfl) (by simp) ?_
      refine AllReadyH.cons rfl (fun K hK => ?_) AllReadyH.nil
      go_simp
      refine (HP.out _ (Below.refl _ _).drew).mono ?_; rintro e wc ⟨v1, rfl, ho1, jc⟩
      have cu2 := (jc.cell (p := ⟨ub, 0, none⟩) ult).trans cu
      clear hHeld
      refine hK.out _ _ ⟨(jc.cell (p := ⟨xb, 0, none⟩) xlt).trans hx.out, (jc.cell (p := ⟨kb, 0, none⟩) klt).trans hkb.out⟩ (fun hHeld => ?_)
      clear hK K
      try simp only [Act.put, List.setIfInBounds_toArray, List.set_cons_zero, List.set_cons_succ]
      refine wpAnyH_ready (rs := [15]) (by kernel_rfl) (by simp) ?_
      refine AllReadyH.cons rfl (fun K hK => ?_) AllReadyH.nil
      refine step_src _ rfl _ _ _ rfl w.heap.size 81 i0 _ 2 32 Try.underlying35 hi0 hz0 hz1 hz2 rfl (by omega) v1 (some ad2) k m2 _ (ocells (U.take k)) (ocells (U.drop (k + 1))) rfl rfl ho1 (S2.out _ jc) (fun h => by cases h) (by unfold maxLen; omega) (by omega) jc.size ?_
      intro v2 w3 ho2 hg2 hat2
      obtain ⟨o2, c2, rfl, _⟩ := own_form ho2
      have j3 : Below w.heap.size w w3 := jc.grown hg2 jc.size (fun k hk => (ho1.lt k hk).1)
      have e0 := (j3.cell (p := ⟨ub, 0, none⟩) ult).trans cu
      have e1 := (j3.frozen (p := ⟨ub, 0, none⟩) ult).trans fu
      clear hHeld
      refine hK.out _ _ ⟨(j3.cell (p := ⟨xb, 0, none⟩) xlt).trans hx.out, (j3.cell (p := ⟨kb, 0, none⟩) klt).trans hkb.out⟩ (fun hHeld => ?_)
      clear hK K
      try simp only [Act.put, List.setIfInBounds_toArray, List.set_cons_zero, List.set_cons_succ]
      refine takeH (i := 16) (d := some 18) (v := ?_) rfl rfl (by kernel_rfl) (by kernel_rfl) (by kernel_rfl) (fun _ _ _ h => h) (Or.inl ⟨by rfl, ?_⟩) hHeld ?_
      rotate_left
      · intro w' hSw; (try dsimp only at hSw); go_simp; try with_reducible rfl
      simp only [Act.put, List.setIfInBounds_toArray, List.set_cons_zero, List.set_cons_succ]
      refine takeH (i := 17) (d := some 19) (v := ?_) rfl rfl (by kernel_rfl) (by kernel_rfl) (by kernel_rfl) (fun _ _ _ h => h) (Or.inl ⟨by rfl, ?_⟩) hHeld ?_
      rotate_left
      · intro w' hSw; (try dsimp only at hSw); go_simp; try with_reducible rfl
      simp only [Act.put, List.setIfInBounds_toArray, List.set_cons_zero, List.set_cons_succ]
      refine wpAnyH_ready (rs := [18]) (by kernel_rfl) (by simp) ?_
      refine AllReadyH.cons rfl (fun K hK => ?_) AllReadyH.nil
      go_simp
      clear hHeld
      refine hK.out _ _ ⟨(World.cell?_setCell_far w3 ⟨ub, 0, none⟩ ⟨xb, 0, none⟩ _ hxu.out).trans ((j3.cell (p := ⟨xb, 0, none⟩) xlt).trans hx.out), (World.cell?_setCell_far w3 ⟨ub, 0, none⟩ ⟨kb, 0, none⟩ _ hku.out).trans ((j3.cell (p := ⟨kb, 0, none⟩) klt).trans hkb.out)⟩ (fun hHeld => ?_)
      clear hK K
      try simp only [Act.put, List.setIfInBounds_toArray, List.set_cons_zero, List.set_cons_succ]
      refine wpAnyH_done (by kernel_rfl) ?_ _
      go_wp2_with fail
      exact bodyPost_end (results_none rfl _ _ _) rfl ⟨rfl, HEnd.out _ w3 ho2 j3⟩
  · go_simp
    clear hHeld
    refine hK.out _ _ ⟨hx, hkb⟩ (fun hHeld => ?_)
    clear hK K
    try simp only [Act.put, List.setIfInBounds_toArray, List.set_cons_zero, List.set_cons_succ]
    refine takeH (i := 14) (d := some 16) (v := ?_) rfl rfl (by kernel_rfl) (by kernel_rfl) (by kernel_rfl) (fun _ _ _ h => h) (Or.inl ⟨by rfl, ?_⟩) hHeld ?_
    rotate_left
    · intro w' hSw; (try dsimp only at hSw); go_simp; try with_reducible rfl
    simp only [Act.put, List.setIfInBounds_toArray, List.set_cons_zero, List.set_cons_succ]
    refine wpAnyH_ready (rs := [4]) (by kernel_rfl) (by simp) ?_
    refine AllReadyH.cons rfl (fun K hK => ?_) AllReadyH.nil
    go_simp
    clear hHeld
    refine hK.out _ _ ⟨hx, hkb⟩ (fun hHeld => ?_)
    clear hK K
    try simp only [Act.put, List.setIfInBounds_toArray, List.set_cons_zero, List.set_cons_succ]
    refine takeH (i := 6) (d := some 8) (v := ?_) rfl rfl (by kernel_rfl) (by kernel_rfl) (by kernel_rfl) (fun _ _ _ h => h) (Or.inl ⟨by rfl, ?_⟩) hHeld ?_
    rotate_left
    · intro w' hSw; (try dsimp only at hSw); go_simp; try with_reducible rfl
    simp only [Act.put, List.setIfInBounds_toArray, List.set_cons_zero, List.set_cons_succ]
    refine wpAnyH_ready (rs := [7]) (by kernel_rfl) (by simp) ?_
    refine AllReadyH.cons rfl (fun K hK => ?_) AllReadyH.nil
    go_simp
    refine (HP.out _ (Below.refl _ _).drew).mono ?_; rintro e wc ⟨v1, rfl, ho1, jc⟩
    have cu2 := (jc.cell (p := ⟨ub, 0, none⟩) ult).trans cu
    clear hHeld
    refine hK.out _ _ ⟨(jc.cell (p := ⟨xb, 0, none⟩) xlt).trans hx.out, (jc.cell (p := ⟨kb, 0, none⟩) klt).trans hkb.out⟩ (fun hHeld => ?_)
    clear hK K
    try simp only [Act.put, List.setIfInBounds_toArray, List.set_cons_zero, List.set_cons_succ]
    refine wpAnyH_ready (rs := [15]) (by kernel_rfl) (by simp) ?_
    refine AllReadyH.cons rfl (fun K hK => ?_) AllReadyH.nil
    refine step_src _ rfl _ _ _ rfl w.heap.size 81 i0 _ 2 32 Try.underlying35 hi0 hz0 hz1 hz2 rfl (by omega) v1 (some ad2) k m2 _ (ocells (U.take k)) (ocells (U.drop (k + 1))) rfl rfl ho1 (S2.out _ jc) (fun h => by cases h) (by unfold maxLen; omega) (by omega) jc.size ?_
    intro v2 w3 ho2 hg2 hat2
    obtain ⟨o2, c2, rfl, _⟩ := own_form ho2
    have j3 : Below w.heap.size w w3 := jc.grown hg2 jc.size (fun k hk => (ho1.lt k hk).1)
    have e0 := (j3.cell (p := ⟨ub, 0, none⟩) ult).trans cu
    have e1 := (j3.frozen (p := ⟨ub, 0, none⟩) ult).trans fu
    clear hHeld
    refine hK.out _ _ ⟨(j3.cell (p := ⟨xb, 0, none⟩) xlt).trans hx.out, (j3.cell (p := ⟨kb, 0, none⟩) klt).trans hkb.out⟩ (fun hHeld => ?_)
    clear hK K
    try simp only [Act.put, List.setIfInBounds_toArray, List.set_cons_zero, List.set_cons_succ]
    refine takeH (i := 16) (d := some 18) (v := ?_) rfl rfl (by kernel_rfl) (by kernel_rfl) (by kernel_rfl) (fun _ _ _ h => h) (Or.inl ⟨by rfl, ?_⟩) hHeld ?_
    rotate_left
    · intro w' hSw; (try dsimp only at hSw); go_simp; try with_reducible rfl
    simp only [Act.put, List.setIfInBounds_toArray, List.set_cons_zero, List.set_cons_succ]
    refine takeH (i := 17) (d := some 19) (v := ?_) rfl rfl (by kernel_rfl) (by kernel_rfl) (by kernel_rfl) (fun _ _ _ h => h) (Or.inl ⟨by rfl, ?_⟩) hHeld ?_
    rotate_left
    · intro w' hSw; (try dsimp only at hSw); go_simp; try with_reducible rfl
    simp only [Act.put, List.setIfInBounds_toArray, List.set_cons_zero, List.set_cons_succ]
    refine wpAnyH_ready (rs := [18]) (by kernel_rfl) (by simp) ?_
    refine AllReadyH.cons rfl (fun K hK => ?_) AllReadyH.nil
    go_simp
    clear hHeld
    refine hK.out _ _ ⟨(World.cell?_setCell_far w3 ⟨ub, 0, none⟩ ⟨xb, 0, none⟩ _ hxu.out).trans ((j3.cell (p := ⟨xb, 0, none⟩) xlt).trans hx.out), (World.cell?_setCell_far w3 ⟨ub, 0, none⟩ ⟨kb, 0, none⟩ _ hku.out).trans ((j3.cell (p := ⟨kb, 0, none⟩) klt).trans hkb.out)⟩ (fun hHeld => ?_)
    clear hK K
    try simp only [Act.put, List.setIfInBounds_toArray, List.set_cons_zero, List.set_cons_succ]
    refine wpAnyH_done (by kernel_rfl) ?_ _
    go_wp2_with fail
    exact bodyPost_end (results_none rfl _ _ _) rfl ⟨rfl, HEnd.out _ w3 ho2 j3⟩
end Go.Proofs.Ytfnmcnbiahfnfaa
