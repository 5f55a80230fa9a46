/-
  The walk of HashSips.
-/
import Derived.Test.YtamfoeacldppkaaRh
namespace Go.Proofs.Ytamfoeacldppkaa
open Go.RowKit
set_option linter.unusedVariables false
set_option linter.unusedSimpArgs false

theorem sips_walk (k0 k1 : Int) (s : ByteArray) (w : World) (b0 : 0 ≤ k0 ∧ k0 ≤ 18446744073709551615) (b1 : 0 ≤ k1 ∧ k1 ≤ 18446744073709551615) (hs : s.size ≤ 140737488355328) :
    Calls Try.prog 3 #[.int .u64 k0, .int .u64 k1, .string s] w fun e w' => e = .returned (.bool true) ∧ Below w.heap.size w w' := by
  clear b0 b1
  have HA : Hid (∀ w', Calls Try.prog 6 #[.int .u64 k0, .int .u64 k1, .string s] w' fun e w'' => e = .returned (.int .u64 (sip k0 k1 s.data.toList)) ∧ Below w'.heap.size w' w'') := fun w' => sip_any k0 k1 s (by omega) w'
  have HB : Hid (∀ w', Calls Try.prog 7 #[.int .u64 k0, .int .u64 k1, .string s] w' fun e w'' => e = .returned (.int .u64 (sip k0 k1 s.data.toList)) ∧ Below w'.heap.size w' w'') := fun w' => siphash_any k0 k1 s (by omega) w'
  generalize sip k0 k1 s.data.toList = r at *
  go_enter Try.func3, Try.ntmps3
  go_wp2_with fail
  refine (HA.out _).mono ?_; rintro e w1 ⟨rfl, hb1⟩
  go_wp2_with fail
  refine (HB.out _).mono ?_; rintro e w2 ⟨rfl, hb2⟩
  go_wp2_with fail
  go_ret
  exact ⟨rfl, hb1.trans (hb2.mono hb1.size)⟩
end Go.Proofs.Ytamfoeacldppkaa
