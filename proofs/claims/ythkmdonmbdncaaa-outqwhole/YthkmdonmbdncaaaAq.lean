/-
  Contract of Ack (package outq).
-/
import Derived.Test.YthkmdonmbdncaaaDr
namespace Go.Proofs.Ythkmdonmbdncaaa
open Go.RowKit
set_option linter.unusedVariables false
set_option linter.unusedSimpArgs false

section
variable {B b : Nat} {v : Value} {K : ByteArray} {l : Int} {sh : Bool} {u c s : Int} {w : World}
theorem ack_no (q : Int) (h : QR B b v K l sh u c s w) (hq : q ≤ u ∨ s < q) :
    Calls Try.prog 16 #[.pointer (some ⟨b, 0, none⟩), .int .i64 q] w fun e w' => e = .returned (.int .i64 0) ∧ w' = w := by
  have c3 := h.c3
  have c5 := h.c5
  clear h
  by_cases h1 : q ≤ u
  · clear hq
    go_enter Try.func16, Try.ntmps16
    go_wp2_with fail
    go_ret
    exact ⟨rfl, rfl⟩
  · have h2 : s < q := by omega
    clear hq
    go_enter Try.func16, Try.ntmps16
    go_wp2_with fail
    go_ret
    exact ⟨rfl, rfl⟩
set_option maxHeartbeats 1000000 in
theorem ack_yes (q : Int) (h : QR B b v K l sh u c s w) (hK : K.size ≤ 2048) (l0 : 0 ≤ l) (l1 : l ≤ 9007199254740992) (u0 : 0 ≤ u) (q1 : q ≤ 9223372036854775807) (hq : u < q) (hs : q ≤ s) (j : Nat) (hj : (j : Int) = min q l - (l - (K.size : Int))) (hjK : j ≤ K.size) :
    Calls Try.prog 16 #[.pointer (some ⟨b, 0, none⟩), .int .i64 q] w fun e w' => e = .returned (.int .i64 (q - u)) ∧ (∃ v', QR B b v' (K.extract j K.size) l sh q (max c q) s w') ∧ Kp (b :: rw' v) w w' := by
  have HD : Hid (Calls Try.prog 29 #[.pointer (some ⟨b, 0, none⟩), .int .i64 q] w fun e w' => e = .returned (.tuple #[]) ∧ (∃ v', QR B b v' (K.extract j K.size) l sh u c s w') ∧ Kp (b :: rw' v) w w') := drop_any q h hK l0 l1 (by omega) q1 j hj hjK
  have c3 := h.c3
  have c5 := h.c5
  have h1 : ¬ q ≤ u := by omega
  have h2 : ¬ s < q := by omega
  clear h hj
  generalize K.extract j K.size = K' at *
  go_enter Try.func16, Try.ntmps16
  go_wp2_with fail
  refine HD.out.mono ?_; rintro e w1 ⟨rfl, ⟨v1, hQ1⟩, hk1⟩
  have f3 := hQ1.free 3
  have d3 := hQ1.c3
  have Q2 := Lib.hid (hQ1.set3 q)
  have K2 := Lib.hid (hk1.setCell (p := ⟨b, 3, none⟩) (Or.inl (by simp)) (.int .i64 q))
  have e4 : (w1.setCell ⟨b, 3, none⟩ (.int .i64 q)).cell? ⟨b, 4, none⟩ = some (.int .i64 c) := Q2.out.c4
  have f4 : (w1.setCell ⟨b, 3, none⟩ (.int .i64 q)).frozen? ⟨b, 4, none⟩ = false := Q2.out.free 4
  have d4 := hQ1.c4
  have g4 := hQ1.free 4
  clear hQ1 hk1 HD
  go_wp2_with fail
  go_ret
  exact ⟨rfl, ⟨_, Q2.out.set4 _⟩, K2.out.setCell (Or.inl (by simp)) _⟩
end
end Go.Proofs.Ythkmdonmbdncaaa
