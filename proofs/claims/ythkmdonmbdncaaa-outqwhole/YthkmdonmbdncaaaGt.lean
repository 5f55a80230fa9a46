/-
  Contracts of package outq: New, what a queue tells of itself, Close, Back.
-/
import Derived.Test.YthkmdonmbdncaaaQq
namespace Go.Proofs.Ythkmdonmbdncaaa
open Go.RowKit
set_option linter.unusedVariables false
set_option linter.unusedSimpArgs false

theorem new_any (w : World) :
    Calls Try.prog 6 #[] w fun e w' => e = .returned (.pointer (some ⟨w.heap.size, 0, none⟩)) ∧ QR w.heap.size w.heap.size (.slice none 0 0) ⟨#[]⟩ 1 false 0 0 0 w' ∧ Below w.heap.size w w' := by
  have T0 : Hid (QR w.heap.size w.heap.size (.slice none 0 0) ⟨#[]⟩ 1 false 0 0 0 (w.alloc (.cells #[.slice none 0 0, .int .i64 1, .bool false, .int .i64 0, .int .i64 0, .int .i64 0] 59))) :=
    ⟨heap_alloc_new w _, World.ownsRow_nil _ _ _ _, Nat.le_refl _⟩
  have b0 : Below w.heap.size w (w.alloc (.cells #[.slice none 0 0, .int .i64 1, .bool false, .int .i64 0, .int .i64 0, .int .i64 0] 59)) := (Below.refl _ _).alloc (Nat.le_refl _) _
  go_enter Try.func6, Try.ntmps6
  go_wp2_with fail
  go_ret
  exact ⟨rfl, T0.out, b0⟩
section
variable {B b : Nat} {v : Value} {K : ByteArray} {l : Int} {sh : Bool} {u c s : Int} {w : World}
theorem una_any (h : QR B b v K l sh u c s w) :
    Calls Try.prog 18 #[.pointer (some ⟨b, 0, none⟩)] w fun e w' => e = .returned (.int .i64 u) ∧ w' = w := by
  have c3 := h.c3
  clear h
  go_enter Try.func18, Try.ntmps18
  go_wp2_with fail
  go_ret
  exact ⟨rfl, rfl⟩
theorem cur_any (h : QR B b v K l sh u c s w) :
    Calls Try.prog 19 #[.pointer (some ⟨b, 0, none⟩)] w fun e w' => e = .returned (.int .i64 c) ∧ w' = w := by
  have c4 := h.c4
  clear h
  go_enter Try.func19, Try.ntmps19
  go_wp2_with fail
  go_ret
  exact ⟨rfl, rfl⟩
theorem sent_any (h : QR B b v K l sh u c s w) :
    Calls Try.prog 20 #[.pointer (some ⟨b, 0, none⟩)] w fun e w' => e = .returned (.int .i64 s) ∧ w' = w := by
  have c5 := h.c5
  clear h
  go_enter Try.func20, Try.ntmps20
  go_wp2_with fail
  go_ret
  exact ⟨rfl, rfl⟩
theorem end_any (h : QR B b v K l sh u c s w) (l0 : 0 ≤ l) (l1 : l ≤ 9007199254740992) (n : Int) (hn : n = l + if sh = true then 1 else 0) :
    Calls Try.prog 21 #[.pointer (some ⟨b, 0, none⟩)] w fun e w' => e = .returned (.int .i64 n) ∧ w' = w := by
  have c1 := h.c1
  have c2 := h.c2
  clear h
  cases sh
  · obtain rfl : n = l := by simpa using hn
    clear hn
    go_enter Try.func21, Try.ntmps21
    go_wp2_with fail
    go_ret
    exact ⟨rfl, rfl⟩
  · obtain rfl : n = l + 1 := by simpa using hn
    clear hn
    go_enter Try.func21, Try.ntmps21
    go_wp2_with fail
    go_ret
    exact ⟨rfl, rfl⟩
theorem room_any (h : QR B b v K l sh u c s w) (hK : K.size ≤ 2048) (n : Int) (hn : n = if sh = true then 0 else 2048 - (K.size : Int)) :
    Calls Try.prog 23 #[.pointer (some ⟨b, 0, none⟩)] w fun e w' => e = .returned (.int .i64 n) ∧ w' = w := by
  obtain ⟨o, cap, rfl⟩ := h.shape
  have c0 := h.c0
  have c2 := h.c2
  clear h
  cases sh
  · obtain rfl : n = 2048 - (K.size : Int) := by simpa using hn
    clear hn
    go_enter Try.func23, Try.ntmps23
    go_wp2_with fail
    go_ret
    exact ⟨rfl, rfl⟩
  · obtain rfl : n = 0 := by simpa using hn
    clear hn
    go_enter Try.func23, Try.ntmps23
    go_wp2_with fail
    go_ret
    exact ⟨rfl, rfl⟩
theorem start_any (h : QR B b v K l sh u c s w) (hK : K.size ≤ 2048) (l0 : 0 ≤ l) (l1 : l ≤ 9007199254740992) (n : Int) (hn : n = l - (K.size : Int)) :
    Calls Try.prog 34 #[.pointer (some ⟨b, 0, none⟩)] w fun e w' => e = .returned (.int .i64 n) ∧ ∃ m, w' = w.drewN m := by
  obtain ⟨o, cap, rfl⟩ := h.shape
  have c0 := h.c0
  have c1 := h.c1
  clear h
  subst hn
  go_enter Try.func34, Try.ntmps34
  go_wp2_with fail
  go_quiet (fail)
  go_wp2_with fail
  go_ret
  exact ⟨rfl, _, rfl⟩
theorem close_any (h : QR B b v K l sh u c s w) :
    Calls Try.prog 10 #[.pointer (some ⟨b, 0, none⟩)] w fun e w' => e = .returned (.tuple #[]) ∧ QR B b v K l true u c s w' ∧ Kp [b] w w' := by
  have c2 := h.c2
  have f2 := h.free 2
  have HF : Hid (QR B b v K l true u c s (w.setCell ⟨b, 2, none⟩ (.bool true)) ∧ Kp [b] w (w.setCell ⟨b, 2, none⟩ (.bool true))) := ⟨h.set2 true, (Kp.refl _ _).setCell (Or.inl (by simp)) _⟩
  clear h
  go_enter Try.func10, Try.ntmps10
  go_wp2_with fail
  refine bodyPost_end (results_none rfl _ _ _) rfl ?_
  exact ⟨rfl, HF.out⟩
theorem back_any (h : QR B b v K l sh u c s w) :
    Calls Try.prog 13 #[.pointer (some ⟨b, 0, none⟩)] w fun e w' => e = .returned (.tuple #[]) ∧ QR B b v K l sh u u s w' ∧ Kp [b] w w' := by
  have c3 := h.c3
  have c4 := h.c4
  have f4 := h.free 4
  have HF : Hid (QR B b v K l sh u u s (w.setCell ⟨b, 4, none⟩ (.int .i64 u)) ∧ Kp [b] w (w.setCell ⟨b, 4, none⟩ (.int .i64 u))) := ⟨h.set4 u, (Kp.refl _ _).setCell (Or.inl (by simp)) _⟩
  clear h
  go_enter Try.func13, Try.ntmps13
  go_wp2_with fail
  refine bodyPost_end (results_none rfl _ _ _) rfl ?_
  exact ⟨rfl, HF.out⟩
end
end Go.Proofs.Ythkmdonmbdncaaa
