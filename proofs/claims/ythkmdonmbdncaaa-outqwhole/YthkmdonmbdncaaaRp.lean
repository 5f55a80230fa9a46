/-
  The document's own queue: contract of At.
-/
import Derived.Test.YthkmdonmbdncaaaRq
import Derived.Test.YthkmdonmbdncaaaNq
namespace Go.Proofs.Ythkmdonmbdncaaa
open Go.RowKit
set_option linter.unusedVariables false
set_option linter.unusedSimpArgs false

theorem PB.set2 {b : Nat} {p : Pc} {W : World} (h : PB b p W) (x : Bool) : PB b ⟨p.at', p.syn, x, p.body⟩ (W.setCell ⟨b, 2, none⟩ (.bool x)) := PB.set1 h 2 (.bool x)
theorem PB.set3 {b : Nat} {p : Pc} {W : World} (h : PB b p W) (x : ByteArray) : PB b ⟨p.at', p.syn, p.fin, x⟩ (W.setCell ⟨b, 3, none⟩ (.string x)) := PB.set1 h 3 (.string x)
theorem UR.set_other {b k : Nat} {A : ByteArray} {sh : Bool} {u c s : Int} {W : World} (h : UR b A sh u c s W) (hk : k ≠ b) (i : Nat) (x : Value) : UR b A sh u c s (W.setCell ⟨k, i, none⟩ x) := (Below.heap_setCell _ _ _ _ (fun e => hk e.symm)).trans h

section
variable {b : Nat} {A : ByteArray} {sh : Bool} {u c s : Int} {w : World}
set_option maxHeartbeats 1000000 in
theorem at_no (a lim mss : Int) (h : UR b A sh u c s w) (hA : A.size ≤ 4503599627370496) (hg : ¬ go? ((A.size : Int) + 1) sh a lim mss) :
    Calls Try.prog 15 #[.pointer (some ⟨b, 0, none⟩), .int .i64 a, .int .i64 lim, .int .i64 mss] w fun e w' => e = .returned (.tuple #[pvv pc0, .bool false]) ∧ Below w.heap.size w w' := by
  have HE : Hid (∀ w', UR b A sh u c s w' → Calls Try.prog 22 #[.pointer (some ⟨b, 0, none⟩)] w' fun e w'' => e = .returned (.int .i64 (en ((A.size : Int) + 1) sh)) ∧ ∃ m, w'' = w'.drewN m) := fun w' h' => rend_any h' hA _ rfl
  have b0 : Below w.heap.size w (w.alloc (.cells (pcs pc0) 46)) := (Below.refl _ _).alloc (Nat.le_refl _) _
  have P0 : Hid (PB w.heap.size pc0 (w.alloc (.cells (pcs pc0) 46))) := PB.new w pc0
  have U0 : Hid (UR b A sh u c s (w.alloc (.cells (pcs pc0) 46))) := h.alloc _
  replace hg : lim ≤ a ∨ en ((A.size : Int) + 1) sh ≤ a ∨ mss < 1 := by omega
  clear h
  generalize en ((A.size : Int) + 1) sh = E at *
  by_cases h1 : lim ≤ a
  · clear hg
    go_enter Try.func15, Try.ntmps15
    go_wp2
    exact bodyPost_ret (v := .tuple #[pvv pc0, .bool false]) (by simp [results, Try.results15, go_sem, pc0]) rfl ⟨rfl, by first | exact b0 | exact (Below.refl _ _).alloc (Nat.le_refl _) _ | exact ((((((Below.refl _ _).alloc (Nat.le_refl _) _).setCell (by simp) _).setCell (by simp) _).setCell (by simp) _).setCell (by simp) _)⟩
  · by_cases h2 : E ≤ a
    · clear hg
      go_enter Try.func15, Try.ntmps15
      go_wp2_with fail
      refine (HE.out _ U0.out).mono ?_; rintro e w1 ⟨rfl, m, hw1⟩
      have P1 : Hid (PB w.heap.size pc0 w1) := by show PB w.heap.size pc0 w1; rw [hw1]; exact P0.out.drewN m
      have b1 : Below w.heap.size w w1 := by rw [hw1]; exact b0.trans ((below_drewN _ m).mono (by simp))
      clear hw1 P0 b0 U0 HE
      go_wp2_with (refine wpList_store_mid rfl _ _ _ rfl _ _ (pcs pc0) rfl rfl P1.out.there info46 (pcs_one pc0) ?_)
      exact bodyPost_ret (v := .tuple #[pvv pc0, .bool false]) (by simp [results, Try.results15, Act.put, asAddr, told _ w.heap.size pc0 pc0 P1.out]) rfl ⟨rfl, below_setCells b1 (Nat.le_refl _) _ _⟩
    · have h3 : mss < 1 := by omega
      clear hg
      go_enter Try.func15, Try.ntmps15
      go_wp2_with fail
      refine (HE.out _ U0.out).mono ?_; rintro e w1 ⟨rfl, m, hw1⟩
      have P1 : Hid (PB w.heap.size pc0 w1) := by show PB w.heap.size pc0 w1; rw [hw1]; exact P0.out.drewN m
      have b1 : Below w.heap.size w w1 := by rw [hw1]; exact b0.trans ((below_drewN _ m).mono (by simp))
      clear hw1 P0 b0 U0 HE
      go_wp2_with (refine wpList_store_mid rfl _ _ _ rfl _ _ (pcs pc0) rfl rfl P1.out.there info46 (pcs_one pc0) ?_)
      exact bodyPost_ret (v := .tuple #[pvv pc0, .bool false]) (by simp [results, Try.results15, Act.put, asAddr, told _ w.heap.size pc0 pc0 P1.out]) rfl ⟨rfl, below_setCells b1 (Nat.le_refl _) _ _⟩
set_option maxHeartbeats 1000000 in
theorem at_syn (lim mss : Int) (h : UR b A sh u c s w) (hA : A.size ≤ 4503599627370496) (hg : go? ((A.size : Int) + 1) sh 0 lim mss) :
    Calls Try.prog 15 #[.pointer (some ⟨b, 0, none⟩), .int .i64 0, .int .i64 lim, .int .i64 mss] w fun e w' => e = .returned (.tuple #[pvv ⟨0, true, false, ⟨#[]⟩⟩, .bool true]) ∧ Below w.heap.size w w' := by
  have HE : Hid (∀ w', UR b A sh u c s w' → Calls Try.prog 22 #[.pointer (some ⟨b, 0, none⟩)] w' fun e w'' => e = .returned (.int .i64 (en ((A.size : Int) + 1) sh)) ∧ ∃ m, w'' = w'.drewN m) := fun w' h' => rend_any h' hA _ rfl
  have b0 : Below w.heap.size w (w.alloc (.cells (pcs pc0) 46)) := (Below.refl _ _).alloc (Nat.le_refl _) _
  have P0 : Hid (PB w.heap.size pc0 (w.alloc (.cells (pcs pc0) 46))) := PB.new w pc0
  have U0 : Hid (UR b A sh u c s (w.alloc (.cells (pcs pc0) 46))) := h.alloc _
  obtain ⟨h1, h2⟩ := hg
  clear h
  generalize en ((A.size : Int) + 1) sh = E at *
  have h3 : ¬ lim ≤ 0 := by omega
  have h4 : ¬ E ≤ 0 := by omega
  have h5 : ¬ mss < 1 := by omega
  clear h1
  go_enter Try.func15, Try.ntmps15
  go_wp2_with fail
  refine (HE.out _ U0.out).mono ?_; rintro e w1 ⟨rfl, m, hw1⟩
  have P1 : Hid (PB w.heap.size pc0 w1) := by show PB w.heap.size pc0 w1; rw [hw1]; exact P0.out.drewN m
  have b1 : Below w.heap.size w w1 := by rw [hw1]; exact b0.trans ((below_drewN _ m).mono (by simp))
  clear hw1 P0 b0 U0 HE
  go_wp2_with (refine wpList_store_mid rfl _ _ _ rfl _ _ (pcs ⟨0, true, false, ⟨#[]⟩⟩) rfl rfl P1.out.there info46 (pcs_one _) ?_)
  exact bodyPost_ret (v := .tuple #[pvv ⟨0, true, false, ⟨#[]⟩⟩, .bool true]) (by simp [results, Try.results15, Act.put, asAddr, told _ w.heap.size pc0 ⟨0, true, false, ⟨#[]⟩⟩ P1.out]) rfl ⟨rfl, below_setCells b1 (Nat.le_refl _) _ _⟩
end
end Go.Proofs.Ythkmdonmbdncaaa
