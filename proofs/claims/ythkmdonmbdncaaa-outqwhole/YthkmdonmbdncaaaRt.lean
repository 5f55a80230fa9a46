/-
  The document's own queue: At goes through the bytes one by one.
-/
import Derived.Test.YthkmdonmbdncaaaRp
namespace Go.Proofs.Ythkmdonmbdncaaa
open Go.RowKit
set_option linter.unusedVariables false
set_option linter.unusedSimpArgs false

/-- Half way through. -/
structure LX (w W : World) (b : Nat) (A : ByteArray) (sh : Bool) (u c s : Int) (n1 : Nat) (p : Pc) : Prop where
  q : UR b A sh u c s W
  p0 : PB w.heap.size pc0 W
  p1 : PB n1 p W
  be : Below w.heap.size w W
  l0 : w.heap.size ≠ n1
  l1 : b ≠ n1
  l2 : w.heap.size ≤ n1
section
variable {w W W' : World} {b : Nat} {A : ByteArray} {sh : Bool} {u c s : Int} {n1 : Nat} {p : Pc}
theorem LX.on (h : LX w W b A sh u c s n1 p) (hb : Below W.heap.size W W') : LX w W' b A sh u c s n1 p := ⟨h.q.keep hb, h.p0.keep hb, h.p1.keep hb, h.be.trans (hb.mono h.be.size), h.l0, h.l1, h.l2⟩
theorem LX.drew (h : LX w W b A sh u c s n1 p) : LX w W.drew b A sh u c s n1 p := ⟨h.q.drew, h.p0.drew, h.p1.drew, h.be.drew, h.l0, h.l1, h.l2⟩
theorem LX.set3 (h : LX w W b A sh u c s n1 p) (x : ByteArray) : LX w (W.setCell ⟨n1, 3, none⟩ (.string x)) b A sh u c s n1 ⟨p.at', p.syn, p.fin, x⟩ :=
  ⟨h.q.set_other (fun e => h.l1 e.symm) _ _, h.p0.set_other (fun e => h.l0 e.symm) _ _, h.p1.set3 x, h.be.setCell h.l2 _, h.l0, h.l1, h.l2⟩
theorem LX.set2 (h : LX w W b A sh u c s n1 p) (x : Bool) : LX w (W.setCell ⟨n1, 2, none⟩ (.bool x)) b A sh u c s n1 ⟨p.at', p.syn, x, p.body⟩ :=
  ⟨h.q.set_other (fun e => h.l1 e.symm) _ _, h.p0.set_other (fun e => h.l0 e.symm) _ _, h.p1.set2 x, h.be.setCell h.l2 _, h.l0, h.l1, h.l2⟩
end
theorem ext_none (A : ByteArray) (x : Nat) : A.extract x x = ⟨#[]⟩ := by
  apply ext_list; rw [extract_list]; simp [List.drop_eq_nil_of_le, List.length_take_le]
theorem ext_more (A : ByteArray) (x y : Nat) (hx : x ≤ y) (hy : y < A.size) : A.extract x y ++ A.extract y (y + 1) = A.extract x (y + 1) := by
  apply ext_list
  rw [ByteArray.data_append, Array.toList_append, extract_list, extract_list, extract_list]
  have hl : y < A.data.toList.length := by simpa using hy
  have hT : (List.take y A.data.toList).length = y := by rw [List.length_take]; omega
  rw [List.take_succ_eq_append_getElem hl, List.drop_append, List.drop_append, hT, List.drop_eq_nil_of_le (show (List.take y A.data.toList).length ≤ y by omega), Nat.sub_self, Nat.sub_eq_zero_of_le hx]
  rfl

section
variable {b : Nat} {A : ByteArray} {sh : Bool} {u c s : Int} {w : World}
set_option maxHeartbeats 4000000 in
theorem at_some (a lim mss : Int) (h : UR b A sh u c s w) (hA : A.size ≤ 4503599627370496) (hg : go? ((A.size : Int) + 1) sh a lim mss) (ha0 : 0 < a) (m1 : mss ≤ 9223372036854775807) (p : Pc) (hp : p = ⟨a, false, sh && decide (bh ((A.size : Int) + 1) a lim mss = (A.size : Int) + 1) && decide (bh ((A.size : Int) + 1) a lim mss < lim), A.extract (a - 1).toNat (bh ((A.size : Int) + 1) a lim mss - 1).toNat⟩) :
    Calls Try.prog 15 #[.pointer (some ⟨b, 0, none⟩), .int .i64 a, .int .i64 lim, .int .i64 mss] w fun e w' => e = .returned (.tuple #[pvv p, .bool true]) ∧ Below w.heap.size w w' := by
  have HE : Hid (∀ w', UR b A sh u c s w' → Calls Try.prog 22 #[.pointer (some ⟨b, 0, none⟩)] w' fun e w'' => e = .returned (.int .i64 (en ((A.size : Int) + 1) sh)) ∧ ∃ m, w'' = w'.drewN m) := fun w' h' => rend_any h' hA _ rfl
  have b0 : Below w.heap.size w (w.alloc (.cells (pcs pc0) 46)) := (Below.refl _ _).alloc (Nat.le_refl _) _
  have P0 : Hid (PB w.heap.size pc0 (w.alloc (.cells (pcs pc0) 46))) := PB.new w pc0
  have U0 : Hid (UR b A sh u c s (w.alloc (.cells (pcs pc0) 46))) := h.alloc _
  obtain ⟨h1, h2⟩ := hg
  have hE : en ((A.size : Int) + 1) sh ≤ (A.size : Int) + 1 + 1 := by unfold en; split <;> omega
  obtain ⟨z, hz⟩ : ∃ z, z = bh ((A.size : Int) + 1) a lim mss := ⟨_, rfl⟩
  have hz' : z = a + min mss (min lim ((A.size : Int) + 1) - a) := hz
  rw [← hz] at hp
  have hza : a ≤ z := by omega
  have hzl : z ≤ (A.size : Int) + 1 := by omega
  have hzm : z ≤ lim := by omega
  have hzs : z - a ≤ mss := by omega
  have hend : z = lim ∨ z = (A.size : Int) + 1 ∨ z - a = mss := by omega
  have HP : Hid (∀ F T, F = (sh && decide (z = (A.size : Int) + 1) && decide (z < lim)) → T = A.extract (a - 1).toNat (z - 1).toNat → p = ⟨a, false, F, T⟩) := fun F T hF hT => by rw [hp, hF, hT]
  have h3 : ¬ lim ≤ a := by omega
  have h4 : ¬ en ((A.size : Int) + 1) sh ≤ a := by omega
  have h5 : ¬ mss < 1 := by omega
  have h6 : (a == 0) = false := by simp; omega
  have hb := h.lt
  clear h hz hz' hp h1
  generalize en ((A.size : Int) + 1) sh = E at *
  go_enter Try.func15, Try.ntmps15
  go_wp2_with fail
  refine (HE.out _ U0.out).mono ?_; rintro e w1 ⟨rfl, m, hw1⟩
  have P1 : Hid (PB w.heap.size pc0 w1) := by show PB w.heap.size pc0 w1; rw [hw1]; exact P0.out.drewN m
  have b1 : Below w.heap.size w w1 := by rw [hw1]; exact b0.trans ((below_drewN _ m).mono (by simp))
  have U1 : Hid (UR b A sh u c s w1) := by show UR b A sh u c s w1; rw [hw1]; exact U0.out.drewN m
  have hl1 : w.heap.size < w1.heap.size := P1.out.lt
  have L1 : Hid (LX w (w1.alloc (.cells (pcs ⟨a, false, false, ⟨#[]⟩⟩) 46)) b A sh u c s w1.heap.size ⟨a, false, false, ⟨#[]⟩⟩) := ⟨U1.out.alloc _, P1.out.alloc _, PB.new _ _, b1.alloc b1.size _, by omega, by omega, b1.size⟩
  clear hw1 P0 b0 U0 HE P1 b1 U1 hl1
  go_wp2_with (refine wpList_store_last rfl 46 _ _ rfl w1 _ (pcs ⟨a, false, false, ⟨#[]⟩⟩) rfl rfl rfl info46 rfl (pcs_one _) ?_)
  generalize w1.heap.size = n1 at *
  generalize w1.alloc (.cells (pcs ⟨a, false, false, ⟨#[]⟩⟩) 46) = w2 at *
  go_loopw [11] (fun i W => ∃ q : Int, a ≤ q ∧ q ≤ z ∧ i = .int .i64 q ∧ LX w W b A sh u c s n1 ⟨a, false, false, A.extract (a - 1).toNat (q - 1).toNat⟩) (fun i _ => (z - intOf i).toNat)
  case atStart => exact ⟨a, by omega, by omega, rfl, by rw [ext_none]; exact L1.out⟩
  case round =>
    obtain ⟨q, hq0, hq1, rfl, hL⟩ := hrel
    have L := Lib.hid hL
    clear hL L1
    have hsz0 : q - a ≤ ((A.extract (a - 1).toNat (q - 1).toNat).size : Int) := by simp; omega
    have hsz1 : ((A.extract (a - 1).toNat (q - 1).toNat).size : Int) ≤ q - a := by simp; omega
    have k0 := L.out.q.c0
    have k3 := L.out.p1.c3
    by_cases hlt : q < z
    · have c1 : q < lim := by omega
      have c2 : q ≤ (A.size : Int) := by omega
      have c3 : ((A.extract (a - 1).toNat (q - 1).toNat).size : Int) < mss := by omega
      have s1 : ∀ w', (Instr.slice 9 (.string A) (some (.int .i64 (q - 1))) (some (.int .i64 q)) none).run Try.prog w' = .ok (.string (A.extract (q - 1).toNat q.toNat)) w' := fun w' => by
        have := run_slice_string (P := Try.prog) w' 9 A .i64 .i64 (q - 1) q Try.underlying9 (by omega) (by omega) (by omega)
        simpa using this
      have HX : Hid (A.extract (a - 1).toNat (q - 1).toNat ++ A.extract (q - 1).toNat q.toNat = A.extract (a - 1).toNat (q + 1 - 1).toNat) := by
        show _ = _
        have := ext_more A (a - 1).toNat (q - 1).toNat (by omega) (by omega)
        rw [show (q + 1 - 1).toNat = q.toNat from by omega]
        rwa [show (q - 1).toNat + 1 = q.toNat from by omega] at this
      have t1 : ∀ w', (Op.stringOp .add (A.extract (a - 1).toNat (q - 1).toNat) (A.extract (q - 1).toNat q.toNat)).run Try.prog w' = .ok (.string (A.extract (a - 1).toNat (q + 1 - 1).toNat)) w' := fun w' => by
        rw [← HX.out]
        exact run_string_add_sum w' _ _ (by simp; omega)
      have d0 : wr.drew.cell? ⟨b, 0, none⟩ = some (.string A) := L.out.q.c0
      have d3 : wr.drew.cell? ⟨n1, 3, none⟩ = some (.string (A.extract (a - 1).toNat (q - 1).toNat)) := L.out.p1.c3
      have f3 : wr.drew.frozen? ⟨n1, 3, none⟩ = false := L.out.p1.free 3
      obtain ⟨R, hR⟩ : ∃ R, R = A.extract (a - 1).toNat (q + 1 - 1).toNat := ⟨_, rfl⟩
      rw [← hR] at t1
      have HR := Lib.hid hR
      have L2 := Lib.hid ((L.out.set3 R).drew)
      clear L HX hR
      generalize A.extract (q - 1).toNat q.toNat = X at *
      generalize A.extract (a - 1).toNat (q - 1).toNat = Y at *
      go_wp2_with fail
      go_region
      all_goals go_wp2_with fail
      all_goals go_roundw
      case rel => exact ⟨q + 1, by omega, by omega, by go_num, by rw [← HR.out]; exact L2.out⟩
      case measure => simp [intOf]; omega
    · obtain rfl : q = z := by omega
      have HU := Lib.hid Try.underlying46
      have q1 := L.out.q.c1
      have g2 := L.out.p1.free 2
      have g2c := L.out.p1.c2
      obtain ⟨Y, hY⟩ : ∃ Y, Y = A.extract (a - 1).toNat (q - 1).toNat := ⟨_, rfl⟩
      have HY := Lib.hid hY
      rw [← hY] at L hsz0 hsz1 k3
      clear hY
      cases sh with
      | false =>
        by_cases c1 : q < lim
        · by_cases c2 : q ≤ (A.size : Int)
          · have c3 : ¬ (Y.size : Int) < mss := by omega
            have LF := Lib.hid (L.out.set2 false)
            have HF := Lib.hid (HP.out false Y (by simp) HY.out)
            clear L HP
            go_wp2_with (first | (refine wpList_load_mid rfl 46 _ rfl _ _ rfl (pcl ⟨a, false, false, Y⟩) _ LF.out.p1.range HU.out rfl info46 ?_) | (refine wpList_store_mid rfl 46 _ _ rfl _ _ (pcs ⟨a, false, false, Y⟩) rfl rfl LF.out.p0.there info46 (pcs_one _) ?_))
            exact bodyPost_ret (v := .tuple #[pvv ⟨a, false, false, Y⟩, .bool true]) (by simp [results, Try.results15, Act.put, asAddr, told _ w.heap.size pc0 ⟨a, false, false, Y⟩ LF.out.p0]) rfl ⟨by rw [HF.out], below_setCells LF.out.be (Nat.le_refl _) _ _⟩
          · clear hend
            have LF := Lib.hid (L.out.set2 false)
            have HF := Lib.hid (HP.out false Y (by simp) HY.out)
            clear L HP
            go_wp2_with (first | (refine wpList_load_mid rfl 46 _ rfl _ _ rfl (pcl ⟨a, false, false, Y⟩) _ LF.out.p1.range HU.out rfl info46 ?_) | (refine wpList_store_mid rfl 46 _ _ rfl _ _ (pcs ⟨a, false, false, Y⟩) rfl rfl LF.out.p0.there info46 (pcs_one _) ?_))
            exact bodyPost_ret (v := .tuple #[pvv ⟨a, false, false, Y⟩, .bool true]) (by simp [results, Try.results15, Act.put, asAddr, told _ w.heap.size pc0 ⟨a, false, false, Y⟩ LF.out.p0]) rfl ⟨by rw [HF.out], below_setCells LF.out.be (Nat.le_refl _) _ _⟩
        · clear hend
          have LF := Lib.hid (L.out.set2 false)
          have HF := Lib.hid (HP.out false Y (by simp) HY.out)
          clear L HP
          go_wp2_with (first | (refine wpList_load_mid rfl 46 _ rfl _ _ rfl (pcl ⟨a, false, false, Y⟩) _ LF.out.p1.range HU.out rfl info46 ?_) | (refine wpList_store_mid rfl 46 _ _ rfl _ _ (pcs ⟨a, false, false, Y⟩) rfl rfl LF.out.p0.there info46 (pcs_one _) ?_))
          exact bodyPost_ret (v := .tuple #[pvv ⟨a, false, false, Y⟩, .bool true]) (by simp [results, Try.results15, Act.put, asAddr, told _ w.heap.size pc0 ⟨a, false, false, Y⟩ LF.out.p0]) rfl ⟨by rw [HF.out], below_setCells LF.out.be (Nat.le_refl _) _ _⟩
      | true =>
        by_cases c2 : q ≤ (A.size : Int)
        · have he : (q == (A.size : Int) + 1) = false := by simp; omega
          have hq : decide (q = (A.size : Int) + 1) = false := by simp; omega
          by_cases c1 : q < lim
          · have c3 : ¬ (Y.size : Int) < mss := by omega
            have LF := Lib.hid (L.out.set2 false)
            have HF := Lib.hid (HP.out false Y (by rw [hq]; rfl) HY.out)
            clear L HP
            go_wp2_with (first | (refine wpList_load_mid rfl 46 _ rfl _ _ rfl (pcl ⟨a, false, false, Y⟩) _ LF.out.p1.range HU.out rfl info46 ?_) | (refine wpList_store_mid rfl 46 _ _ rfl _ _ (pcs ⟨a, false, false, Y⟩) rfl rfl LF.out.p0.there info46 (pcs_one _) ?_))
            exact bodyPost_ret (v := .tuple #[pvv ⟨a, false, false, Y⟩, .bool true]) (by simp [results, Try.results15, Act.put, asAddr, told _ w.heap.size pc0 ⟨a, false, false, Y⟩ LF.out.p0]) rfl ⟨by rw [HF.out], below_setCells LF.out.be (Nat.le_refl _) _ _⟩
          · clear hend
            have LF := Lib.hid (L.out.set2 false)
            have HF := Lib.hid (HP.out false Y (by rw [hq]; rfl) HY.out)
            clear L HP
            go_wp2_with (first | (refine wpList_load_mid rfl 46 _ rfl _ _ rfl (pcl ⟨a, false, false, Y⟩) _ LF.out.p1.range HU.out rfl info46 ?_) | (refine wpList_store_mid rfl 46 _ _ rfl _ _ (pcs ⟨a, false, false, Y⟩) rfl rfl LF.out.p0.there info46 (pcs_one _) ?_))
            exact bodyPost_ret (v := .tuple #[pvv ⟨a, false, false, Y⟩, .bool true]) (by simp [results, Try.results15, Act.put, asAddr, told _ w.heap.size pc0 ⟨a, false, false, Y⟩ LF.out.p0]) rfl ⟨by rw [HF.out], below_setCells LF.out.be (Nat.le_refl _) _ _⟩
        · obtain rfl : q = (A.size : Int) + 1 := by omega
          by_cases c1 : (A.size : Int) + 1 < lim
          · clear hend
            have LF := Lib.hid (L.out.set2 true)
            have HF := Lib.hid (HP.out true Y (by simp [c1]) HY.out)
            clear L HP
            go_wp2_with (first | (refine wpList_load_mid rfl 46 _ rfl _ _ rfl (pcl ⟨a, false, true, Y⟩) _ LF.out.p1.range HU.out rfl info46 ?_) | (refine wpList_store_mid rfl 46 _ _ rfl _ _ (pcs ⟨a, false, true, Y⟩) rfl rfl LF.out.p0.there info46 (pcs_one _) ?_))
            exact bodyPost_ret (v := .tuple #[pvv ⟨a, false, true, Y⟩, .bool true]) (by simp [results, Try.results15, Act.put, asAddr, told _ w.heap.size pc0 ⟨a, false, true, Y⟩ LF.out.p0]) rfl ⟨by rw [HF.out], below_setCells LF.out.be (Nat.le_refl _) _ _⟩
          · clear hend
            have LF := Lib.hid (L.out.set2 false)
            have HF := Lib.hid (HP.out false Y (by simp [c1]) HY.out)
            clear L HP
            go_wp2_with (first | (refine wpList_load_mid rfl 46 _ rfl _ _ rfl (pcl ⟨a, false, false, Y⟩) _ LF.out.p1.range HU.out rfl info46 ?_) | (refine wpList_store_mid rfl 46 _ _ rfl _ _ (pcs ⟨a, false, false, Y⟩) rfl rfl LF.out.p0.there info46 (pcs_one _) ?_))
            exact bodyPost_ret (v := .tuple #[pvv ⟨a, false, false, Y⟩, .bool true]) (by simp [results, Try.results15, Act.put, asAddr, told _ w.heap.size pc0 ⟨a, false, false, Y⟩ LF.out.p0]) rfl ⟨by rw [HF.out], below_setCells LF.out.be (Nat.le_refl _) _ _⟩
end
end Go.Proofs.Ythkmdonmbdncaaa
