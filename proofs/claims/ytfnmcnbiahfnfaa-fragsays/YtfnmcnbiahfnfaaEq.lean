/-
  Two laws on regions that draw their order; contract of the document's Eq, of two lists that are the same; the walk of FragSplits.
-/
import Derived.Test.YtfnmcnbiahfnfaaRSp
import Derived.Test.YtfnmcnbiahfnfaaOpen
namespace Go.Proofs.Ytfnmcnbiahfnfaa
open Go.RowKit
set_option linter.unusedVariables false
set_option linter.unusedSimpArgs false

/-- To take an operation first, the slot that it writes named. -/
theorem takeH {P : Program} {md : Region.Mode} {ops : Array Oper} {Q : Exit → Act → World → Prop} {S : World → Prop} {i : Nat} {oi : Oper} {d : Option Tmp} {v : Value} {fuel : Nat} {listed : Array Bool} {a : Act} {w : World} (hi : ops[i]? = some oi) (hd : oi.dst = d)
    (hs : Region.noSelect ops = true) (hf : Region.free md ops listed i = true) (hr : (Region.ready md ops listed).contains i = true)
    (hQ : ∀ c a w, Q (.panic c) (a.put d v) w → Q (.panic c) a w) (hy : YieldsIf P ops S oi v a) (hS : S w)
    (h : wpAnyH P md ops Q S fuel (listed.setIfInBounds i true) (a.put d v) w) : wpAnyH P md ops Q S (fuel + 1) listed a w := by
  subst hd
  exact wpAnyH_take hi hs hf hr hQ hy hS h
theorem takeA {P : Program} {md : Region.Mode} {ops : Array Oper} {Q : Exit → Act → World → Prop} {i : Nat} {oi : Oper} {d : Option Tmp} {v : Value} {fuel : Nat} {listed : Array Bool} {a : Act} {w : World} (hi : ops[i]? = some oi) (hd : oi.dst = d)
    (hs : Region.noSelect ops = true) (hf : Region.free md ops listed i = true) (hr : (Region.ready md ops listed).contains i = true)
    (hQ : ∀ c a w, Q (.panic c) (a.put d v) w → Q (.panic c) a w) (hy : Yields P ops oi v a)
    (h : wpAny P md ops Q fuel (listed.setIfInBounds i true) (a.put d v) w) : wpAny P md ops Q (fuel + 1) listed a w := by
  subst hd
  exact wpAny_take hi hs hf hr hQ hy h

theorem range_on {W W' : World} {b o : Nat} {cs : List Value} (h : W.rangeAt b o cs) (hb : Below W.heap.size W W') (hlt : b < W.heap.size) : W'.rangeAt b o cs := fun j v hv => by
  rw [hb.cell (p := ⟨b, o + j, none⟩) hlt]; exact h j v hv

set_option maxHeartbeats 4000000 in
theorem eq_any (v1 v2 : Value) (B1 B2 : Nat) (L : List Pk) (w : World) (h1 : PRow w B1 v1 L) (h2 : PRow w B2 v2 L) (hn : L.length ≤ 1000000) :
    Calls Try.prog 11 #[v1, v2] w fun e w' => e = .returned (.bool true) ∧ Below w.heap.size w w' := by
  obtain ⟨o1, g1, c1, rfl, f1⟩ := h1.form
  obtain ⟨o2, g2, c2, rfl, f2⟩ := h2.form
  have H1 := Lib.hid h1
  have H2 := Lib.hid h2
  have F1 := Lib.hid f1
  have F2 := Lib.hid f2
  have HU := Lib.hid Try.underlying24
  have HI : Hid ((Try.prog.info? 24).map (·.size) = some 9) := info24
  generalize hnl : L.length = n at *
  have HN := Lib.hid hnl
  clear h1 h2 f1 f2 hnl
  go_enter Try.func11, Try.ntmps11
  go_wp2_with fail
  go_loopw [14] (fun i W => ∃ k : Nat, k ≤ n ∧ i = .int .i64 k ∧ Below w.heap.size w W) (fun i _ => n - (intOf i).toNat)
  case atStart => exact ⟨0, Nat.zero_le _, rfl, Below.refl _ _⟩
  case round =>
    obtain ⟨k, hk, rfl, hb⟩ := hrel
    by_cases hlt : k < n
    · obtain ⟨e1, _, l1⟩ := F1.out (by omega)
      obtain ⟨e2, _, l2⟩ := F2.out (by omega)
      subst e1 e2
      obtain ⟨q, hq⟩ : ∃ q, L[k]? = some q := ⟨L[k]'(by rw [HN.out]; exact hlt), List.getElem?_eq_getElem _⟩
      have R1 := Lib.hid (range_on (H1.out.range hq) hb l1)
      have R2 := Lib.hid (World.rangeAt_alloc (range_on (H2.out.range hq) hb l2) (.cells (pc q) 24))
      have Q1 := Lib.hid ((PB.new wr q).range)
      have hbs := hb.size
      have hba := (hb.alloc hbs (.cells (pc q) 24)).drew
      clear hq
      go_wp2_with (first | (refine wpList_load_mid rfl 24 _ rfl g1 (k * 9) rfl (pcl q) _ R1.out HU.out rfl HI.out ?_) | (refine wpList_store_last rfl 24 _ _ rfl wr _ (pc q) rfl rfl rfl HI.out rfl (pc_one q) ?_))
      refine wp_region_held_drew (S := fun w' => Hid (w'.rangeAt wr.heap.size 0 (pcl q)) ∧ Hid (w'.rangeAt g2 (k * 9) (pcl q))) (by kernel_rfl) ⟨Q1, R2⟩ (fun hHeld => ?_)
      refine takeH (i := 0) (d := some 19) rfl rfl (by kernel_rfl) (by kernel_rfl) (by kernel_rfl) (fun _ _ _ h => h) (yieldsIf_load_mid (by rfl) _ _ rfl _ _ rfl (pcl q) _ (fun w' hSw => hSw.1.out) HU.out rfl HI.out) hHeld ?_
      simp only [Act.put, List.setIfInBounds_toArray, List.set_cons_zero, List.set_cons_succ]
      refine takeH (i := 1) (d := some 20) (v := ?_) rfl rfl (by kernel_rfl) (by kernel_rfl) (by kernel_rfl) (fun _ _ _ h => h) (Or.inl ⟨by rfl, ?_⟩) hHeld ?_
      rotate_left
      · intro w' hSw; (try dsimp only at hSw); go_simp; try with_reducible rfl
      simp only [Act.put, List.setIfInBounds_toArray, List.set_cons_zero, List.set_cons_succ]
      refine takeH (i := 2) (d := some 21) (v := ?_) rfl rfl (by kernel_rfl) (by kernel_rfl) (by kernel_rfl) (fun _ _ _ h => h) (Or.inl ⟨by rfl, ?_⟩) hHeld ?_
      rotate_left
      · intro w' hSw; (try dsimp only at hSw); go_simp; try with_reducible rfl
      simp only [Act.put, List.setIfInBounds_toArray, List.set_cons_zero, List.set_cons_succ]
      refine takeH (i := 3) (d := some 22) (v := ?_) rfl rfl (by kernel_rfl) (by kernel_rfl) (by kernel_rfl) (fun _ _ _ h => h) (Or.inl ⟨by rfl, ?_⟩) hHeld ?_
      rotate_left
      · intro w' hSw; (try dsimp only at hSw); go_simp; try with_reducible rfl
      simp only [Act.put, List.setIfInBounds_toArray, List.set_cons_zero, List.set_cons_succ]
      refine takeH (i := 4) (d := some 23) rfl rfl (by kernel_rfl) (by kernel_rfl) (by kernel_rfl) (fun _ _ _ h => h) (yieldsIf_load_mid (by rfl) _ _ rfl _ _ rfl (pcl q) _ (fun w' hSw => hSw.2.out) HU.out rfl HI.out) hHeld ?_
      simp only [Act.put, List.setIfInBounds_toArray, List.set_cons_zero, List.set_cons_succ]
      refine takeH (i := 5) (d := some 24) (v := ?_) rfl rfl (by kernel_rfl) (by kernel_rfl) (by kernel_rfl) (fun _ _ _ h => h) (Or.inl ⟨by rfl, ?_⟩) hHeld ?_
      rotate_left
      · intro w' hSw; (try dsimp only at hSw); go_simp; try with_reducible rfl
      simp only [Act.put, List.setIfInBounds_toArray, List.set_cons_zero, List.set_cons_succ]
      refine wpAnyH_done (by kernel_rfl) ?_ _
      go_wp2_with fail
      go_roundw
      case rel => exact ⟨k + 1, by omega, by go_num, hba⟩
      case measure => simp [intOf]; omega
    · have hlt' : ¬ ((k : Int) < (n : Int)) := by omega
      go_wp2_with fail
      go_ret
      exact ⟨rfl, hb⟩

theorem spl_len (p : Pk) (mtu : Int) : (spl p mtu).length ≤ 4000 := by
  by_cases h : sperr p mtu = 0
  · obtain ⟨R, n, F⟩ := frm_of h
    rw [F.len]; exact F.le
  · rw [spl_bad h]; simp

set_option maxHeartbeats 4000000 in
theorem splits_law (p : Pk) (mtu : Int) (_f : Fits p) (_m : -9223372036854775808 ≤ mtu ∧ mtu ≤ 9223372036854775807) (w : World) :
    Calls Try.prog 3 #[pv p, .int .i64 mtu] w fun e w' => e = .returned (.bool true) ∧ Below w.heap.size w w' := by
  have HS : Hid (∀ w', Calls Try.prog 9 #[pv p, .int .i64 mtu] w' fun e w'' => ∃ v, e = .returned (.tuple #[v, .int .i64 (sperr p mtu)]) ∧ PRow w'' w'.heap.size v (spl p mtu) ∧ Below w'.heap.size w' w'') := fun w' => split_any p mtu w'
  have HR : Hid (∀ w', Calls Try.prog 10 #[pv p, .int .i64 mtu] w' fun e w'' => ∃ v, e = .returned (.tuple #[v, .int .i64 (sperr p mtu)]) ∧ PRow w'' w'.heap.size v (spl p mtu) ∧ Below w'.heap.size w' w'') := fun w' => rsplit_any p mtu w'
  have hl := spl_len p mtu
  have b0 : Below w.heap.size w (w.alloc (.cells (pc p) 24)) := (Below.refl _ _).alloc (Nat.le_refl _) _
  have P0 := Lib.hid (PB.new w p)
  have HU := Lib.hid Try.underlying24
  have HI : Hid ((Try.prog.info? 24).map (·.size) = some 9) := info24
  generalize sperr p mtu = E at *
  generalize spl p mtu = L at *
  go_enter Try.func3, Try.ntmps3
  go_wp2_with (refine wpList_load_mid rfl _ _ rfl _ _ rfl (pcl p) _ P0.out.range HU.out rfl HI.out ?_)
  refine (HS.out _).mono ?_; rintro e w1 ⟨v1, rfl, hR1, hb1⟩
  have R1 := Lib.hid hR1
  have P1 := Lib.hid (P0.out.keep hb1)
  have b1 := b0.trans (hb1.mono (by simp))
  clear hR1
  go_wp2_with (refine wpList_load_mid rfl _ _ rfl _ _ rfl (pcl p) _ P1.out.range HU.out rfl HI.out ?_)
  refine (HR.out _).mono ?_; rintro e w2 ⟨v2, rfl, hR2, hb2⟩
  have R2 := Lib.hid hR2
  have R3 := Lib.hid (R1.out.on hb2)
  have b2 := b1.trans (hb2.mono b1.size)
  clear hR2
  go_wp2_with fail
  refine (eq_any v1 v2 _ _ L _ R3.out R2.out (by omega)).mono ?_; rintro e w3 ⟨rfl, hb3⟩
  have b3 := b2.trans (hb3.mono b2.size)
  go_wp2_with fail
  go_ret
  exact ⟨rfl, b3⟩
end Go.Proofs.Ytfnmcnbiahfnfaa
