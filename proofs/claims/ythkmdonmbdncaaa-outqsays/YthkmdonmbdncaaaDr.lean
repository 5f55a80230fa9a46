/-
  Contract of drop (package outq).
-/
import Derived.Test.YthkmdonmbdncaaaDq
namespace Go.Proofs.Ythkmdonmbdncaaa
open Go.RowKit
set_option linter.unusedVariables false
set_option linter.unusedSimpArgs false

/-- To take an operation first, the slot that it writes named. -/
theorem takeH {P : Program} {md : Region.Mode} {ops : Array Oper} {Q : Exit → Act → World → Prop} {S : World → Prop} {i : Nat} {oi : Oper} {d : Option Tmp} {v : Value} {fuel : Nat} {listed : Array Bool} {a : Act} {w : World} (hi : ops[i]? = some oi) (hd : oi.dst = d)
    (hs : Region.noSelect ops = true) (hf : Region.free md ops listed i = true) (hr : (Region.ready md ops listed).contains i = true)
    (hQ : ∀ c a w, Q (.panic c) (a.put d v) w → Q (.panic c) a w) (hy : YieldsIf P ops S oi v a) (hS : S w)
    (h : wpAnyH P md ops Q S fuel (listed.setIfInBounds i true) (a.put d v) w) : wpAnyH P md ops Q S (fuel + 1) listed a w := by
  subst hd
  exact wpAnyH_take hi hs hf hr hQ hy hS h

section
variable {B b : Nat} {v : Value} {K : ByteArray} {l : Int} {sh : Bool} {u c s : Int} {w : World}
set_option maxHeartbeats 1000000 in
/-- The bytes ahead of place q are let go. -/
theorem drop_any (q : Int) (h : QR B b v K l sh u c s w) (hK : K.size ≤ 2048) (l0 : 0 ≤ l) (l1 : l ≤ 9007199254740992) (q0 : -9223372036854775808 ≤ q) (q1 : q ≤ 9223372036854775807) (j : Nat) (hj : (j : Int) = min q l - (l - (K.size : Int))) (hjK : j ≤ K.size) :
    Calls Try.prog 29 #[.pointer (some ⟨b, 0, none⟩), .int .i64 q] w fun e w' => e = .returned (.tuple #[]) ∧ (∃ v', QR B b v' (K.extract j K.size) l sh u c s w') ∧ Kp (b :: rw' v) w w' := by
  obtain ⟨o, cap, rfl⟩ := h.shape
  have HS : Hid (Calls Try.prog 34 #[.pointer (some ⟨b, 0, none⟩)] w.drew fun e w'' => e = .returned (.int .i64 (l - (K.size : Int))) ∧ ∃ m, w'' = w.drew.drewN m) := start_any h.drew hK l0 l1 _ rfl
  have HG : Hid (∀ w' m, w' = w.drew.drewN m → QR B b (.slice o K.size cap) K l sh u c s w' ∧ w'.cell? ⟨b, 0, none⟩ = some (.slice o K.size cap) ∧ w'.cell? ⟨b, 1, none⟩ = some (.int .i64 l) ∧ Kp (b :: rw' (.slice o K.size cap)) w w') := fun w' m e => by
    subst e
    exact ⟨h.drew.drewN m, (h.drew.drewN m).c0, (h.drew.drewN m).c1, ((Kp.refl _ w).drew).drewN m⟩
  have HD : Hid (∀ x w', x = (j : Int) → QR B b (.slice o K.size cap) K l sh u c s w' → Calls Try.prog 33 #[.slice o K.size cap, .int .i64 0, .int .i64 x] w' fun e w'' => ∃ v', e = .returned v' ∧ w''.ownsRow B 5 1 v' (K.extract j K.size).size (Lib.strCells (K.extract j K.size)) ∧ w'.grownBy w'' (Value.slice o K.size cap).ownBlock) := fun x w' hx h' => by
    subst hx
    exact del_any h'.own hK j hjK
  have HE : Hid (∀ w' v' w'', QR B b (.slice o K.size cap) K l sh u c s w' → Kp (b :: rw' (.slice o K.size cap)) w w' → w''.ownsRow B 5 1 v' (K.extract j K.size).size (Lib.strCells (K.extract j K.size)) → w'.grownBy w'' (Value.slice o K.size cap).ownBlock →
      (∃ o' n' cap', v' = .slice o' n' cap') ∧ w''.cell? ⟨b, 0, none⟩ = some (.slice o K.size cap) ∧ w''.frozen? ⟨b, 0, none⟩ = false ∧ w''.cell? ⟨b, 1, none⟩ = some (.int .i64 l) ∧ QR B b v' (K.extract j K.size) l sh u c s (w''.setCell ⟨b, 0, none⟩ v') ∧ Kp (b :: rw' (.slice o K.size cap)) w (w''.setCell ⟨b, 0, none⟩ v')) := fun w' v' w'' hq hk h1 h2 => by
    have hne := hq.row_ne hq.blk (by decide)
    have hb : w''.heap[b]? = w'.heap[b]? := h2.block b hq.lt (fun e => hne e.symm)
    refine ⟨?_, ?_, ?_, ?_, hq.put h2 hne h1, (hk.grown h2 (fun k hk => by rw [List.mem_cons]; right; unfold rw'; rw [hk]; simp)).setCell (Or.inl (by simp)) _⟩
    · rcases h1.2 with ⟨rfl, h0⟩ | ⟨g, cap', cur, rfl, _⟩
      · exact ⟨none, 0, 0, rfl⟩
      · exact ⟨_, _, _, rfl⟩
    · rw [World.cell?_of_block (w := w') hb]; exact hq.c0
    · rw [World.frozen?_of_block (w := w') hb]; exact hq.free 0
    · rw [World.cell?_of_block (w := w') hb]; exact hq.c1
  have c0 : w.drew.cell? ⟨b, 0, none⟩ = some (.slice o K.size cap) := h.c0
  have c1 : w.drew.cell? ⟨b, 1, none⟩ = some (.int .i64 l) := h.c1
  have HJ : Hid (IntKind.i64.wrap (min q l - (l - (K.size : Int))) = (j : Int)) := by show _ = _; rw [← hj, IntKind.wrap_i64]; omega
  have hj2 : (j : Int) ≤ 2048 := by omega
  have hm0 : l - 2048 ≤ min q l := by omega
  have hm1 : min q l ≤ l := by omega
  have hv : (K.extract j K.size).size = K.size - j := by simp
  clear h hj hv
  go_enter Try.func29, Try.ntmps29
  go_wp2_with fail
  refine wp_region_held_drew (S := (fun w' => w'.cell? ⟨b, 1, none⟩ = some (.int .i64 l))) (by kernel_rfl) c1 (fun hHeld => ?_)
  refine takeH (i := 0) (d := some 4) (v := ?_) rfl rfl (by kernel_rfl) (by kernel_rfl) (by kernel_rfl) (fun _ _ _ h => h) (Or.inl ⟨by rfl, ?_⟩) hHeld ?_
  rotate_left
  · intro w' hSw; (try dsimp only at hSw); go_simp; try with_reducible rfl
  simp only [Act.put, List.setIfInBounds_toArray, List.set_cons_zero, List.set_cons_succ]
  refine takeH (i := 1) (d := some 5) (v := ?_) rfl rfl (by kernel_rfl) (by kernel_rfl) (by kernel_rfl) (fun _ _ _ h => h) (Or.inl ⟨by rfl, ?_⟩) hHeld ?_
  rotate_left
  · intro w' hSw; (try dsimp only at hSw); go_simp; try with_reducible rfl
  simp only [Act.put, List.setIfInBounds_toArray, List.set_cons_zero, List.set_cons_succ]
  refine takeH (i := 2) (d := some 6) (v := ?_) rfl rfl (by kernel_rfl) (by kernel_rfl) (by kernel_rfl) (fun _ _ _ h => h) (Or.inl ⟨by rfl, ?_⟩) hHeld ?_
  rotate_left
  · intro w' hSw; (try dsimp only at hSw); go_simp; try with_reducible rfl
  simp only [Act.put, List.setIfInBounds_toArray, List.set_cons_zero, List.set_cons_succ]
  refine takeH (i := 3) (d := some 7) (v := ?_) rfl rfl (by kernel_rfl) (by kernel_rfl) (by kernel_rfl) (fun _ _ _ h => h) (Or.inl ⟨by rfl, ?_⟩) hHeld ?_
  rotate_left
  · intro w' hSw; (try dsimp only at hSw); go_simp; try with_reducible rfl
  simp only [Act.put, List.setIfInBounds_toArray, List.set_cons_zero, List.set_cons_succ]
  refine takeH (i := 5) (d := some 9) (v := ?_) rfl rfl (by kernel_rfl) (by kernel_rfl) (by kernel_rfl) (fun _ _ _ h => h) (Or.inl ⟨by rfl, ?_⟩) hHeld ?_
  rotate_left
  · intro w' hSw; (try dsimp only at hSw); go_simp; try with_reducible rfl
  simp only [Act.put, List.setIfInBounds_toArray, List.set_cons_zero, List.set_cons_succ]
  refine takeH (i := 6) (d := some 10) (v := ?_) rfl rfl (by kernel_rfl) (by kernel_rfl) (by kernel_rfl) (fun _ _ _ h => h) (Or.inl ⟨by rfl, ?_⟩) hHeld ?_
  rotate_left
  · intro w' hSw; (try dsimp only at hSw); go_simp; try with_reducible rfl
  simp only [Act.put, List.setIfInBounds_toArray, List.set_cons_zero, List.set_cons_succ]
  refine takeH (i := 7) (d := some 11) (v := ?_) rfl rfl (by kernel_rfl) (by kernel_rfl) (by kernel_rfl) (fun _ _ _ h => h) (Or.inl ⟨by rfl, ?_⟩) hHeld ?_
  rotate_left
  · intro w' hSw; (try dsimp only at hSw); go_simp; try with_reducible rfl
  simp only [Act.put, List.setIfInBounds_toArray, List.set_cons_zero, List.set_cons_succ]
  refine takeH (i := 8) (d := some 12) (v := ?_) rfl rfl (by kernel_rfl) (by kernel_rfl) (by kernel_rfl) (fun _ _ _ h => h) (Or.inl ⟨by rfl, ?_⟩) hHeld ?_
  rotate_left
  · intro w' hSw; (try dsimp only at hSw); go_simp; try with_reducible rfl
  simp only [Act.put, List.setIfInBounds_toArray, List.set_cons_zero, List.set_cons_succ]
  refine takeH (i := 9) (d := some 13) (v := ?_) rfl rfl (by kernel_rfl) (by kernel_rfl) (by kernel_rfl) (fun _ _ _ h => h) (Or.inl ⟨by rfl, ?_⟩) hHeld ?_
  rotate_left
  · intro w' hSw; (try dsimp only at hSw); go_simp; try with_reducible rfl
  simp only [Act.put, List.setIfInBounds_toArray, List.set_cons_zero, List.set_cons_succ]
  refine takeH (i := 10) (d := some 14) (v := ?_) rfl rfl (by kernel_rfl) (by kernel_rfl) (by kernel_rfl) (fun _ _ _ h => h) (Or.inl ⟨by rfl, ?_⟩) hHeld ?_
  rotate_left
  · intro w' hSw; (try dsimp only at hSw); go_simp; try with_reducible rfl
  simp only [Act.put, List.setIfInBounds_toArray, List.set_cons_zero, List.set_cons_succ]
  refine takeH (i := 11) (d := some 15) (v := ?_) rfl rfl (by kernel_rfl) (by kernel_rfl) (by kernel_rfl) (fun _ _ _ h => h) (Or.inl ⟨by rfl, ?_⟩) hHeld ?_
  rotate_left
  · intro w' hSw; (try dsimp only at hSw); go_simp; try with_reducible rfl
  simp only [Act.put, List.setIfInBounds_toArray, List.set_cons_zero, List.set_cons_succ]
  refine wpAnyH_ready (rs := [4, 12]) (by kernel_rfl) (by simp) ?_
  refine AllReadyH.cons rfl (fun K hK => ?_) (AllReadyH.cons rfl (fun K hK => ?_) AllReadyH.nil)
  · go_simp
    clear hHeld
    refine hK.out _ _ c1 (fun hHeld => ?_)
    clear hK K
    try simp only [Act.put, List.setIfInBounds_toArray, List.set_cons_zero, List.set_cons_succ]
    refine wpAnyH_ready (rs := [12]) (by kernel_rfl) (by simp) ?_
    refine AllReadyH.cons rfl (fun K hK => ?_) AllReadyH.nil
    go_simp
    refine (HS.out).mono ?_; rintro e w2 ⟨rfl, m2, hw2⟩
    obtain ⟨Q2, d0, d1, K2⟩ := HG.out _ _ hw2
    have HQ2 := Lib.hid Q2
    have HK2 := Lib.hid K2
    clear Q2 K2 hw2
    clear hHeld
    refine hK.out _ _ d1 (fun hHeld => ?_)
    clear hK K
    try simp only [Act.put, List.setIfInBounds_toArray, List.set_cons_zero, List.set_cons_succ]
    refine takeH (i := 13) (d := some 17) (v := ?_) rfl rfl (by kernel_rfl) (by kernel_rfl) (by kernel_rfl) (fun _ _ _ h => h) (Or.inl ⟨by rfl, ?_⟩) hHeld ?_
    rotate_left
    · intro w' hSw; (try dsimp only at hSw); go_simp; try with_reducible rfl
    simp only [Act.put, List.setIfInBounds_toArray, List.set_cons_zero, List.set_cons_succ]
    refine wpAnyH_ready (rs := [14]) (by kernel_rfl) (by simp) ?_
    refine AllReadyH.cons rfl (fun K hK => ?_) AllReadyH.nil
    go_simp
    refine (HD.out _ _ HJ.out HQ2.out).mono ?_; rintro e w3 ⟨v3, rfl, hown, hgrow⟩
    obtain ⟨⟨o3, n3, cap3, rfl⟩, e0, f0, e1, HQ0⟩ := HE.out _ _ _ HQ2.out HK2.out hown hgrow
    have HQ3 := Lib.hid HQ0
    clear HQ0 hown hgrow
    clear hHeld
    refine hK.out _ _ e1 (fun hHeld => ?_)
    clear hK K
    try simp only [Act.put, List.setIfInBounds_toArray, List.set_cons_zero, List.set_cons_succ]
    refine takeH (i := 15) (d := some 19) (v := ?_) rfl rfl (by kernel_rfl) (by kernel_rfl) (by kernel_rfl) (fun _ _ _ h => h) (Or.inl ⟨by rfl, ?_⟩) hHeld ?_
    rotate_left
    · intro w' hSw; (try dsimp only at hSw); go_simp; try with_reducible rfl
    simp only [Act.put, List.setIfInBounds_toArray, List.set_cons_zero, List.set_cons_succ]
    refine takeH (i := 16) (d := some 20) (v := ?_) rfl rfl (by kernel_rfl) (by kernel_rfl) (by kernel_rfl) (fun _ _ _ h => h) (Or.inl ⟨by rfl, ?_⟩) hHeld ?_
    rotate_left
    · intro w' hSw; (try dsimp only at hSw); go_simp; try with_reducible rfl
    simp only [Act.put, List.setIfInBounds_toArray, List.set_cons_zero, List.set_cons_succ]
    refine wpAnyH_ready (rs := [17]) (by kernel_rfl) (by simp) ?_
    refine AllReadyH.cons rfl (fun K hK => ?_) AllReadyH.nil
    go_simp
    clear hHeld
    refine hK.out _ _ (HQ3.out.1.c1) (fun hHeld => ?_)
    clear hK K
    try simp only [Act.put, List.setIfInBounds_toArray, List.set_cons_zero, List.set_cons_succ]
    refine wpAnyH_done (by kernel_rfl) ?_ _
    go_wp2_with fail
    refine bodyPost_end (results_none rfl _ _ _) rfl ?_
    exact ⟨rfl, ⟨_, HQ3.out.1⟩, HQ3.out.2⟩
  · go_simp
    refine HS.out.mono ?_; rintro e w2 ⟨rfl, m2, hw2⟩
    obtain ⟨Q2, d0, d1, K2⟩ := HG.out _ _ hw2
    have HQ2 := Lib.hid Q2
    have HK2 := Lib.hid K2
    clear Q2 K2 hw2
    clear hHeld
    refine hK.out _ _ d1 (fun hHeld => ?_)
    clear hK K
    try simp only [Act.put, List.setIfInBounds_toArray, List.set_cons_zero, List.set_cons_succ]
    refine takeH (i := 13) (d := some 17) (v := ?_) rfl rfl (by kernel_rfl) (by kernel_rfl) (by kernel_rfl) (fun _ _ _ h => h) (Or.inl ⟨by rfl, ?_⟩) hHeld ?_
    rotate_left
    · intro w' hSw; (try dsimp only at hSw); go_simp; try with_reducible rfl
    simp only [Act.put, List.setIfInBounds_toArray, List.set_cons_zero, List.set_cons_succ]
    refine wpAnyH_ready (rs := [4]) (by kernel_rfl) (by simp) ?_
    refine AllReadyH.cons rfl (fun K hK => ?_) AllReadyH.nil
    go_simp
    clear hHeld
    refine hK.out _ _ d1 (fun hHeld => ?_)
    clear hK K
    try simp only [Act.put, List.setIfInBounds_toArray, List.set_cons_zero, List.set_cons_succ]
    refine wpAnyH_ready (rs := [14]) (by kernel_rfl) (by simp) ?_
    refine AllReadyH.cons rfl (fun K hK => ?_) AllReadyH.nil
    go_simp
    refine (HD.out _ _ HJ.out HQ2.out).mono ?_; rintro e w3 ⟨v3, rfl, hown, hgrow⟩
    obtain ⟨⟨o3, n3, cap3, rfl⟩, e0, f0, e1, HQ0⟩ := HE.out _ _ _ HQ2.out HK2.out hown hgrow
    have HQ3 := Lib.hid HQ0
    clear HQ0 hown hgrow
    clear hHeld
    refine hK.out _ _ e1 (fun hHeld => ?_)
    clear hK K
    try simp only [Act.put, List.setIfInBounds_toArray, List.set_cons_zero, List.set_cons_succ]
    refine takeH (i := 15) (d := some 19) (v := ?_) rfl rfl (by kernel_rfl) (by kernel_rfl) (by kernel_rfl) (fun _ _ _ h => h) (Or.inl ⟨by rfl, ?_⟩) hHeld ?_
    rotate_left
    · intro w' hSw; (try dsimp only at hSw); go_simp; try with_reducible rfl
    simp only [Act.put, List.setIfInBounds_toArray, List.set_cons_zero, List.set_cons_succ]
    refine takeH (i := 16) (d := some 20) (v := ?_) rfl rfl (by kernel_rfl) (by kernel_rfl) (by kernel_rfl) (fun _ _ _ h => h) (Or.inl ⟨by rfl, ?_⟩) hHeld ?_
    rotate_left
    · intro w' hSw; (try dsimp only at hSw); go_simp; try with_reducible rfl
    simp only [Act.put, List.setIfInBounds_toArray, List.set_cons_zero, List.set_cons_succ]
    refine wpAnyH_ready (rs := [17]) (by kernel_rfl) (by simp) ?_
    refine AllReadyH.cons rfl (fun K hK => ?_) AllReadyH.nil
    go_simp
    clear hHeld
    refine hK.out _ _ (HQ3.out.1.c1) (fun hHeld => ?_)
    clear hK K
    try simp only [Act.put, List.setIfInBounds_toArray, List.set_cons_zero, List.set_cons_succ]
    refine wpAnyH_done (by kernel_rfl) ?_ _
    go_wp2_with fail
    refine bodyPost_end (results_none rfl _ _ _) rfl ?_
    exact ⟨rfl, ⟨_, HQ3.out.1⟩, HQ3.out.2⟩
end
end Go.Proofs.Ythkmdonmbdncaaa
