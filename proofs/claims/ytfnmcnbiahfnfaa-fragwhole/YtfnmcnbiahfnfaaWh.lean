/-
  A number with its last bit turned.
-/
import Derived.Test.YtfnmcnbiahfnfaaWG
namespace Go.Proofs.Ytfnmcnbiahfnfaa
open Go.RowKit Go.Maps
set_option linter.unusedVariables false
set_option linter.unusedSimpArgs false

theorem xor1_in (a : Int) : -9223372036854775808 ≤ bits .xor .i64 a 1 ∧ bits .xor .i64 a 1 ≤ 9223372036854775807 := by
  have e : bits .xor .i64 a 1 = IntKind.i64.wrap ((BitVec.ofInt 64 a ^^^ BitVec.ofInt 64 1).toNat : Int) := rfl
  rw [e, IntKind.wrap_i64]
  omega
theorem xor1_ne (a : Nat) (h : a < 65536) : bits .xor .i64 (a : Int) 1 ≠ (a : Int) := by
  have e : bits .xor .i64 (a : Int) 1 = IntKind.i64.wrap ((BitVec.ofInt 64 (a : Int) ^^^ BitVec.ofInt 64 1).toNat : Int) := rfl
  have h1 : (BitVec.ofInt 64 (a : Int)).toNat = a := by
    rw [BitVec.ofInt_natCast, BitVec.toNat_ofNat]; exact Nat.mod_eq_of_lt (by omega)
  have h2 : (BitVec.ofInt 64 1).toNat = 1 := by decide
  have hx : a ^^^ 1 < 2 ^ 64 := Nat.xor_lt_two_pow (by omega) (by omega)
  have hx2 : a ^^^ 1 < 2 ^ 16 := Nat.xor_lt_two_pow (by omega) (by omega)
  have hne : a ^^^ 1 ≠ a := fun c => by
    have := congrArg (fun z => a ^^^ z) c
    simp [← Nat.xor_assoc] at this
  rw [e, BitVec.toNat_xor, h1, h2, IntKind.wrap_i64]
  omega
end Go.Proofs.Ytfnmcnbiahfnfaa
