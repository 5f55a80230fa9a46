/-
  No cell of these rows narrows 'for every input' (looked for: loops, veiled, ifaces, maps, wideKeys, modest, calm, conditions, laid).
  DERIVED. THE GIVEN ROWS OF THIS SEAT. 6 by the template 'for every input the law returns true; each argument reads behind the call as it read before'; 0 by the template 'total and deterministic' (their statements: YtmclhofobdlhiaaTotals.lean).
  GIVEN WITH THE SEED: the statements are not yours to turn. If you find one false, say at which input.
  Laid BY PROGRAM, IN A SANDBOX (cutbox-rows.mjs): the forced cells as the released guide's own fill.sh prints them over the translation 4a739f88bcfb4e83… (all of the seat's roots in one cut). By AI agents, Wed Nov 11 2026. No macro, syntax, notation, axiom, sorry.
-/
import Derived.Test.YtmclhofobdlhiaaChecked
import GoSem.Claim
import GoSem.ClaimJoined
import GoSem.ClaimMapViews
import Derived.JoinedTies
import Derived.KernelRfl
namespace Go.Proofs.Ytmclhofobdlhiaa
/- THE CELL 'sum', in the pinned program and in every row, IS THE sha256 OF THE DUMP (.gsa) THAT YtmclhofobdlhiaaProg.lean LOADS. Nothing in Lean hashes anything: it is a label: what it is worth is what the hold of that sum in a sandbox is worth. -/
noncomputable def Try.pinned : Pinned := { name := "ytmclhofobdlhiaa", sum := "4a739f88bcfb4e83d5883922f482bd274d1d73829b87ea5b2434a286dafed433", checked := Try.checked }
namespace Rows
def none {H : Type} : Left H := { results := [], args := [] }

/-- 'packetboatlaw.SeqDiffs': WHATEVER THE INPUT: true; the input reads as it did. -/
def seqDiffsSpec : ChangeSpec := { name := "seqDiffs", fn := fun _ => fun
  | [d1, d2, d3] => { results := [.lit (.bool true)], args := [d1, d2, d3] }
  | _ => none }
def seqDiffsRow : OpenClaim := { program := "ytmclhofobdlhiaa", sum := "4a739f88bcfb4e83d5883922f482bd274d1d73829b87ea5b2434a286dafed433", func := "packetboat/packetboatlaw.SeqDiffs", spec := "seqDiffs", apart := false }
def SeqDiffsSaid : Prop := seqDiffsRow.holds Try.pinned (OpenSpec.ofChange seqDiffsSpec)

/-- ITS FALSE NEIGHBOUR: 'it returns false'. Refute it at one input. -/
def seqDiffsWrong : ChangeSpec := { name := "seqDiffs", fn := fun _ => fun
  | [d1, d2, d3] => { results := [.lit (.bool false)], args := [d1, d2, d3] }
  | _ => none }
def SeqDiffsWrongFalsely : Prop := seqDiffsRow.holds Try.pinned (OpenSpec.ofChange seqDiffsWrong)

/-- 'packetboatlaw.SeqAccepts': WHATEVER THE INPUT: true; the input reads as it did. -/
def seqAcceptsSpec : ChangeSpec := { name := "seqAccepts", fn := fun _ => fun
  | [d1, d2, d3, d4] => { results := [.lit (.bool true)], args := [d1, d2, d3, d4] }
  | _ => none }
def seqAcceptsRow : OpenClaim := { program := "ytmclhofobdlhiaa", sum := "4a739f88bcfb4e83d5883922f482bd274d1d73829b87ea5b2434a286dafed433", func := "packetboat/packetboatlaw.SeqAccepts", spec := "seqAccepts", apart := false }
def SeqAcceptsSaid : Prop := seqAcceptsRow.holds Try.pinned (OpenSpec.ofChange seqAcceptsSpec)

/-- ITS FALSE NEIGHBOUR: 'it returns false'. Refute it at one input. -/
def seqAcceptsWrong : ChangeSpec := { name := "seqAccepts", fn := fun _ => fun
  | [d1, d2, d3, d4] => { results := [.lit (.bool false)], args := [d1, d2, d3, d4] }
  | _ => none }
def SeqAcceptsWrongFalsely : Prop := seqAcceptsRow.holds Try.pinned (OpenSpec.ofChange seqAcceptsWrong)

/-- 'packetboatlaw.SeqNears': WHATEVER THE INPUT: true; the input reads as it did. -/
def seqNearsSpec : ChangeSpec := { name := "seqNears", fn := fun _ => fun
  | [d1, d2] => { results := [.lit (.bool true)], args := [d1, d2] }
  | _ => none }
def seqNearsRow : OpenClaim := { program := "ytmclhofobdlhiaa", sum := "4a739f88bcfb4e83d5883922f482bd274d1d73829b87ea5b2434a286dafed433", func := "packetboat/packetboatlaw.SeqNears", spec := "seqNears", apart := false }
def SeqNearsSaid : Prop := seqNearsRow.holds Try.pinned (OpenSpec.ofChange seqNearsSpec)

/-- ITS FALSE NEIGHBOUR: 'it returns false'. Refute it at one input. -/
def seqNearsWrong : ChangeSpec := { name := "seqNears", fn := fun _ => fun
  | [d1, d2] => { results := [.lit (.bool false)], args := [d1, d2] }
  | _ => none }
def SeqNearsWrongFalsely : Prop := seqNearsRow.holds Try.pinned (OpenSpec.ofChange seqNearsWrong)

/-- 'packetboatkeep.SeqRound': WHATEVER THE INPUT: true; the input reads as it did. -/
def seqRoundSpec : ChangeSpec := { name := "seqRound", fn := fun _ => fun
  | [d1, d2, d3, d4] => { results := [.lit (.bool true)], args := [d1, d2, d3, d4] }
  | _ => none }
def seqRoundRow : OpenClaim := { program := "ytmclhofobdlhiaa", sum := "4a739f88bcfb4e83d5883922f482bd274d1d73829b87ea5b2434a286dafed433", func := "packetboat/packetboatkeep.SeqRound", spec := "seqRound", apart := false }
def SeqRoundSaid : Prop := seqRoundRow.holds Try.pinned (OpenSpec.ofChange seqRoundSpec)

/-- ITS FALSE NEIGHBOUR: 'it returns false'. Refute it at one input. -/
def seqRoundWrong : ChangeSpec := { name := "seqRound", fn := fun _ => fun
  | [d1, d2, d3, d4] => { results := [.lit (.bool false)], args := [d1, d2, d3, d4] }
  | _ => none }
def SeqRoundWrongFalsely : Prop := seqRoundRow.holds Try.pinned (OpenSpec.ofChange seqRoundWrong)

/-- 'packetboatkeep.SeqNearest': WHATEVER THE INPUT: true; the input reads as it did. -/
def seqNearestSpec : ChangeSpec := { name := "seqNearest", fn := fun _ => fun
  | [d1, d2] => { results := [.lit (.bool true)], args := [d1, d2] }
  | _ => none }
def seqNearestRow : OpenClaim := { program := "ytmclhofobdlhiaa", sum := "4a739f88bcfb4e83d5883922f482bd274d1d73829b87ea5b2434a286dafed433", func := "packetboat/packetboatkeep.SeqNearest", spec := "seqNearest", apart := false }
def SeqNearestSaid : Prop := seqNearestRow.holds Try.pinned (OpenSpec.ofChange seqNearestSpec)

/-- ITS FALSE NEIGHBOUR: 'it returns false'. Refute it at one input. -/
def seqNearestWrong : ChangeSpec := { name := "seqNearest", fn := fun _ => fun
  | [d1, d2] => { results := [.lit (.bool false)], args := [d1, d2] }
  | _ => none }
def SeqNearestWrongFalsely : Prop := seqNearestRow.holds Try.pinned (OpenSpec.ofChange seqNearestWrong)

/-- 'packetboatkeep.SeqLets': WHATEVER THE INPUT: true; the input reads as it did. -/
def seqLetsSpec : ChangeSpec := { name := "seqLets", fn := fun _ => fun
  | [d1, d2, d3, d4] => { results := [.lit (.bool true)], args := [d1, d2, d3, d4] }
  | _ => none }
def seqLetsRow : OpenClaim := { program := "ytmclhofobdlhiaa", sum := "4a739f88bcfb4e83d5883922f482bd274d1d73829b87ea5b2434a286dafed433", func := "packetboat/packetboatkeep.SeqLets", spec := "seqLets", apart := false }
def SeqLetsSaid : Prop := seqLetsRow.holds Try.pinned (OpenSpec.ofChange seqLetsSpec)

/-- ITS FALSE NEIGHBOUR: 'it returns false'. Refute it at one input. -/
def seqLetsWrong : ChangeSpec := { name := "seqLets", fn := fun _ => fun
  | [d1, d2, d3, d4] => { results := [.lit (.bool false)], args := [d1, d2, d3, d4] }
  | _ => none }
def SeqLetsWrongFalsely : Prop := seqLetsRow.holds Try.pinned (OpenSpec.ofChange seqLetsWrong)

/- THE SECOND FORM. 'bulk': how many values and letters a reading holds, each counted each time it is reached (what is shared counts as often as it is met; a slice's spare places count too). A statement '..UptoSaid' is the law's where the arguments, and the package variables that the reading takes, are together of bulk at most 1048576: NARROWER than '..Said'. Prove '..Said' where nothing that the law and all that it calls make is longer than what came in: it says more and counts as full. Else prove '..UptoSaid'. A law counts once. -/
mutual
def uptoBulk {H : Type} : DataW H → Nat
  | .lit (.string bytes) => bytes.length + 1
  | .lit _ => 1
  | .nil => 1
  | .ptr d => uptoBulk d + 1
  | .slice elems spare => uptoBulkAll elems + uptoBulkAll spare + 1
  | .agg parts => uptoBulkAll parts + 1
  | .iface _ d => uptoBulk d + 1
  | .map entries => uptoBulkEntries entries + 1
  | .held _ => 1
def uptoBulkAll {H : Type} : List (DataW H) → Nat
  | [] => 0
  | d :: r => uptoBulk d + uptoBulkAll r
def uptoBulkEntries {H : Type} : List (Lit × DataW H) → Nat
  | [] => 0
  | x :: r => uptoBulkEntry x + uptoBulkEntries r
def uptoBulkEntry {H : Type} : Lit × DataW H → Nat
  | (.string bytes, d) => bytes.length + uptoBulk d + 1
  | (_, d) => uptoBulk d + 1
 end
def uptoSmall : (H : Type) → List (DataW H) → Bool := fun _ ds => decide (uptoBulkAll ds ≤ 1048576)
def OpenSpec.upto (s : _root_.Go.ChangeSpec) : _root_.Go.OpenSpec := { _root_.Go.OpenSpec.ofChange s with cond := some uptoSmall }

/-- 'packetboatlaw.SeqDiffs', WHERE WHAT IT READS IS OF BULK AT MOST 1048576: true; the input reads as it did. -/
def seqDiffsUptoRow : OpenClaim := { program := "ytmclhofobdlhiaa", sum := "4a739f88bcfb4e83d5883922f482bd274d1d73829b87ea5b2434a286dafed433", func := "packetboat/packetboatlaw.SeqDiffs", spec := "seqDiffs", apart := false, narrowed := true }
def SeqDiffsUptoSaid : Prop := seqDiffsUptoRow.holds Try.pinned (OpenSpec.upto seqDiffsSpec)

/-- 'packetboatlaw.SeqAccepts', WHERE WHAT IT READS IS OF BULK AT MOST 1048576: true; the input reads as it did. -/
def seqAcceptsUptoRow : OpenClaim := { program := "ytmclhofobdlhiaa", sum := "4a739f88bcfb4e83d5883922f482bd274d1d73829b87ea5b2434a286dafed433", func := "packetboat/packetboatlaw.SeqAccepts", spec := "seqAccepts", apart := false, narrowed := true }
def SeqAcceptsUptoSaid : Prop := seqAcceptsUptoRow.holds Try.pinned (OpenSpec.upto seqAcceptsSpec)

/-- 'packetboatlaw.SeqNears', WHERE WHAT IT READS IS OF BULK AT MOST 1048576: true; the input reads as it did. -/
def seqNearsUptoRow : OpenClaim := { program := "ytmclhofobdlhiaa", sum := "4a739f88bcfb4e83d5883922f482bd274d1d73829b87ea5b2434a286dafed433", func := "packetboat/packetboatlaw.SeqNears", spec := "seqNears", apart := false, narrowed := true }
def SeqNearsUptoSaid : Prop := seqNearsUptoRow.holds Try.pinned (OpenSpec.upto seqNearsSpec)

/-- 'packetboatkeep.SeqRound', WHERE WHAT IT READS IS OF BULK AT MOST 1048576: true; the input reads as it did. -/
def seqRoundUptoRow : OpenClaim := { program := "ytmclhofobdlhiaa", sum := "4a739f88bcfb4e83d5883922f482bd274d1d73829b87ea5b2434a286dafed433", func := "packetboat/packetboatkeep.SeqRound", spec := "seqRound", apart := false, narrowed := true }
def SeqRoundUptoSaid : Prop := seqRoundUptoRow.holds Try.pinned (OpenSpec.upto seqRoundSpec)

/-- 'packetboatkeep.SeqNearest', WHERE WHAT IT READS IS OF BULK AT MOST 1048576: true; the input reads as it did. -/
def seqNearestUptoRow : OpenClaim := { program := "ytmclhofobdlhiaa", sum := "4a739f88bcfb4e83d5883922f482bd274d1d73829b87ea5b2434a286dafed433", func := "packetboat/packetboatkeep.SeqNearest", spec := "seqNearest", apart := false, narrowed := true }
def SeqNearestUptoSaid : Prop := seqNearestUptoRow.holds Try.pinned (OpenSpec.upto seqNearestSpec)

/-- 'packetboatkeep.SeqLets', WHERE WHAT IT READS IS OF BULK AT MOST 1048576: true; the input reads as it did. -/
def seqLetsUptoRow : OpenClaim := { program := "ytmclhofobdlhiaa", sum := "4a739f88bcfb4e83d5883922f482bd274d1d73829b87ea5b2434a286dafed433", func := "packetboat/packetboatkeep.SeqLets", spec := "seqLets", apart := false, narrowed := true }
def SeqLetsUptoSaid : Prop := seqLetsUptoRow.holds Try.pinned (OpenSpec.upto seqLetsSpec)

end Rows
end Go.Proofs.Ytmclhofobdlhiaa
