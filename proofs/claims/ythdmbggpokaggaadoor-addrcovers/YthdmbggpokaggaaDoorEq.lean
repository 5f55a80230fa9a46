/-
  Contracts of the document's Cover and of Eq at prefixes.
-/
import Derived.Test.YthdmbggpokaggaaDoorRef
namespace Go.Proofs.YthdmbggpokaggaaDoor
open Go.RowKit
set_option linter.unusedVariables false

theorem rcov_no (s t : Nat) (w : World) (h : t < s) :
    Calls Tryd.prog 21 #[.int .u32 s, .int .u32 t] w fun e w' => e = .returned (.tuple #[.slice none 0 0, .int .i64 1]) ∧ w' = w := by
  go_enter Tryd.func21, Tryd.ntmps21
  go_wp2
  go_ret2
  exact ⟨rfl, rfl⟩
theorem rcov_yes (s t : Nat) (w : World) (h : s ≤ t) (ht : t < 4294967296) :
    Calls Tryd.prog 21 #[.int .u32 s, .int .u32 t] w fun e w' => ∃ v, e = .returned (.tuple #[v, .int .i64 0]) ∧ w'.ownsRow w.heap.size 29 2 v (cov s (t + 1)).length (pcells (cov s (t + 1))) ∧ Below w.heap.size w w' := by
  have HC : Hid (∀ w', Calls Tryd.prog 35 #[.agg #[.int .u32 0, .int .i64 0], .int .u64 s, .int .u64 t] w' fun e w'' => ∃ v, e = .returned v ∧ w''.ownsRow w'.heap.size 29 2 v (cov s (t + 1)).length (pcells (cov s (t + 1))) ∧ Below w'.heap.size w' w'') := fun w' => by
    have := rcover_any 32 0 s t w' (by omega) (Nat.dvd_zero _) (by simp) h ht
    rw [rcov_eq 32 0 s t (Nat.dvd_zero _) (by simp) h, show max 0 s = s from by omega, show min (0 + 2 ^ 32) (t + 1) = t + 1 from by simp; omega] at this
    exact this
  have hts : ¬ t < s := by omega
  go_enter Tryd.func21, Tryd.ntmps21
  go_wp2_with fail
  refine (HC.out _).mono ?_; rintro e w1 ⟨v, rfl, ho, hb⟩
  go_wp2
  go_ret2
  exact ⟨_, rfl, ho, hb⟩
theorem eq_none (w : World) :
    Calls Tryd.prog 22 #[.slice none 0 0, .slice none 0 0] w fun e w' => e = .returned (.bool true) ∧ Below w.heap.size w w' := by
  go_enter Tryd.func22, Tryd.ntmps22
  go_wp2
  go_loopw [14] (fun i W => i = .int .i64 0 ∧ W = w) (fun _ _ => 0)
  case atStart => exact ⟨rfl, rfl⟩
  case round =>
    obtain ⟨rfl, rfl⟩ := hrel
    go_wp2
    go_ret
    exact ⟨rfl, Below.refl _ _⟩
end Go.Proofs.YthdmbggpokaggaaDoor
