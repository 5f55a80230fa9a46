/-
  Contracts of Read, Ready (package conn).
-/
import Derived.Test.YtnhcjefbiihfjaaTk
import Derived.Deep.CutBlock
namespace Go.Proofs.Ytnhcjefbiihfjaa
open Go.RowKit
open Tc (Sg gchk gv gc)
set_option linter.unusedVariables false
set_option linter.unusedSimpArgs false
section
variable {b k : Nat} {c : Cn} {P : Pt} {w : World}
/-- What Read tells. -/
def readA (c : Cn) (m : Int) : ByteArray × Bool × Int := if 0 < c.rdyI then (c.readS m, false, 0) else if c.overI = true then (⟨#[]⟩, true, 0) else if c.st ≠ 0 then (⟨#[]⟩, false, 14) else if c.why ≠ 0 then (⟨#[]⟩, false, c.why) else (⟨#[]⟩, true, 0)
def readK (c : Cn) (m : Int) : Cn := if 0 < c.rdyI then c.readC m else c
abbrev rav (a : ByteArray × Bool × Int) : Value := .tuple #[.string a.1, .bool a.2.1, .int .i64 a.2.2]
theorem COk.readK (h : COk k c) (m : Int) : COk (k + 1) (readK c m) := by
  unfold Proofs.Ytnhcjefbiihfjaa.readK
  split
  · exact h.readC m
  · exact h.mono (Nat.le_succ k)
end
end Go.Proofs.Ytnhcjefbiihfjaa
