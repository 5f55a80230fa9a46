/-
  The document's In, of whatever is handed in; the walk of FragSays with it.
-/
import Derived.Test.YtfnmcnbiahfnfaaEg
import Derived.Test.YtfnmcnbiahfnfaaEh
import Derived.Test.YtfnmcnbiahfnfaaFS
import Derived.Test.YtfnmcnbiahfnfaaFr
namespace Go.Proofs.Ytfnmcnbiahfnfaa
open Go.RowKit
set_option linter.unusedVariables false

theorem din_any (ub B : Nat) (s0 : Value) (U0 : List DE) (C : List (Nm × Gm)) (p : Pk) (w : World) (h : UT w ub B s0 U0) (hB : B ≤ w.heap.size) (S : Sim C U0) (hd : PD C) (h8 : C.length ≤ 8) (f : Fits p) (hz : ∀ e ∈ U0, (e.l.length + 1) * 64 ≤ 140737488355328) :
    Calls Try.prog 17 #[.pointer (some ⟨ub, 0, none⟩), pv p] w (DPost w ub B s0 U0 C p) := by
  by_cases hf : Fg p
  · exact din_frag ub B s0 U0 C p w h hB S hd h8 f hf hz
  · exact din_early ub B s0 U0 C p w h hB S hd h8 f hf
theorem says_all (o : Option Addr) (b off len cap : Nat) (C : Nat → List Value) (S : Nat → Stp) (w : World) (hb : 0 < len → o = some ⟨b, off, none⟩ ∧ b < w.heap.size) (hS : StepsAt w b off len C S) (hlen : len ≤ maxLen) (hz : len * 64 ≤ 140737488355328) :
    Calls Try.prog 4 #[.slice o len cap] w fun e w' => e = .returned (.bool true) ∧ Below w.heap.size w w' :=
  says_walk din_any o b off len cap C S w hb hS hlen hz
end Go.Proofs.Ytfnmcnbiahfnfaa
