/-
  Contract of Value (package rto).
-/
import Derived.Test.YthjbhnncobhfoaaLo
namespace Go.Proofs.Ythjbhnncobhfoaa
open Go.RowKit
set_option linter.unusedVariables false
set_option linter.unusedSimpArgs false

theorem wrap_shl {p d : Int} (b0 : 1 ≤ p) (b1 : p ≤ 5497558138880) (h0 : 0 ≤ d) (h1 : d ≤ 6) : IntKind.i64.wrap (p * 2 ^ d.toNat) = p * p2 d := by
  rw [show (2 : Int) ^ d.toNat = p2 d from rfl, IntKind.wrap_i64]
  rcases d_cases h0 h1 with q | q | q | q | q | q | q <;> subst q
  · rw [show p2 0 = 1 from rfl]; omega
  · rw [show p2 1 = 2 from rfl]; omega
  · rw [show p2 2 = 4 from rfl]; omega
  · rw [show p2 3 = 8 from rfl]; omega
  · rw [show p2 4 = 16 from rfl]; omega
  · rw [show p2 5 = 32 from rfl]; omega
  · rw [show p2 6 = 64 from rfl]; omega

set_option maxHeartbeats 4000000 in
theorem value_any (b : Nat) (t : Tm) (w : World) (h : TB b t w) (ok : TOk t) :
    Calls Try.prog 13 #[.pointer (some ⟨b, 0, none⟩)] w fun e w' => e = .returned (.int .i64 (val t)) ∧ Below w.heap.size w w' := by
  have c3 := h.c3
  have HP : Hid (∀ w', TB b t w' → Calls Try.prog 19 #[.pointer (some ⟨b, 0, none⟩)] w' fun e w'' => e = .returned (.int .i64 (base t)) ∧ Below w'.heap.size w' w'') := fun w' h' => plain_any b t w' h' ok
  obtain ⟨b0, b1⟩ := base_lo ok
  have T := Lib.hid h
  have HV : Hid (∀ x, x = min (max (base t * p2 t.dbl) 2) 64 → x = val t) := fun x hx => hx
  have hd0 := ok.d0
  have hd1 := ok.d1
  have HC : Hid (∀ w1, Below w.drew.heap.size w.drew w1 → w1.cell? ⟨b, 3, none⟩ = some (.int .i64 t.dbl)) := fun w1 hb => (h.drew.keep hb).c3
  have HD : Hid (∀ w1, Below w.drew.heap.size w.drew w1 → Below w.heap.size w w1) := fun w1 hb => (Below.refl _ _).drew.trans hb
  have T1 : Hid (TB b t w.drew) := h.drew
  clear h ok T
  generalize t.dbl = d at *
  generalize base t = p at *
  generalize val t = V at *
  all_goals go_enter Try.func13, Try.ntmps13
  all_goals go_wp2_with fail
  all_goals go_region_with (go_at_call 19; refine (HP.out _ ?_).mono ?_; exact T1.out; rintro e w1 ⟨rfl, hb1⟩; have d3 := HC.out _ hb1)
  all_goals go_wp2_with fail
  all_goals go_ret
  all_goals refine ⟨ret_int (HV.out _ ?_), HD.out _ hb1⟩
  all_goals rw [wrap_shl b0 b1 hd0 hd1]
end Go.Proofs.Ythjbhnncobhfoaa
