/-
  No cell of these rows narrows 'for every input' (looked for: loops, veiled, ifaces, maps, wideKeys, modest, calm, conditions, laid).
  DERIVED. THE GIVEN ROWS OF THIS SEAT. 4 by the template 'for every input the law returns true; each argument reads behind the call as it read before'; 0 by the template 'total and deterministic' (their statements: YthdjdfemckjebaaTotals.lean).
  GIVEN WITH THE SEED: the statements are not yours to turn. If you find one false, say at which input.
  Laid BY PROGRAM, IN A SANDBOX (cutbox-rows.mjs): the forced cells as the released guide's own fill.sh prints them over the translation 4fddccf93e595aa5… (all of the seat's roots in one cut). By AI agents, Wed Nov 11 2026. No macro, syntax, notation, axiom, sorry.
-/
import Derived.Test.YthdjdfemckjebaaChecked
import GoSem.Claim
import GoSem.ClaimJoined
import GoSem.ClaimMapViews
import Derived.JoinedTies
import Derived.KernelRfl
namespace Go.Proofs.Ythdjdfemckjebaa
/- THE CELL 'sum', in the pinned program and in every row, IS THE sha256 OF THE DUMP (.gsa) THAT YthdjdfemckjebaaProg.lean LOADS. Nothing in Lean hashes anything: it is a label: what it is worth is what the hold of that sum in a sandbox is worth. -/
noncomputable def Try.pinned : Pinned := { name := "ythdjdfemckjebaa", sum := "4fddccf93e595aa50e1b2dbdefaabf3bf3155de190b7a43ce3f4d163640304e8", checked := Try.checked }
namespace Rows
def none {H : Type} : Left H := { results := [], args := [] }

/-- 'packetboatlaw.InqSays': WHATEVER THE INPUT: true; the input reads as it did. -/
def inqSaysSpec : ChangeSpec := { name := "inqSays", fn := fun _ => fun
  | [d] => { results := [.lit (.bool true)], args := [d] }
  | _ => none }
def inqSaysRow : OpenClaim := { program := "ythdjdfemckjebaa", sum := "4fddccf93e595aa50e1b2dbdefaabf3bf3155de190b7a43ce3f4d163640304e8", func := "packetboat/packetboatlaw.InqSays", spec := "inqSays", apart := false }
def InqSaysSaid : Prop := inqSaysRow.holds Try.pinned (OpenSpec.ofChange inqSaysSpec)

/-- ITS FALSE NEIGHBOUR: 'it returns false'. Refute it at one input. -/
def inqSaysWrong : ChangeSpec := { name := "inqSays", fn := fun _ => fun
  | [d] => { results := [.lit (.bool false)], args := [d] }
  | _ => none }
def InqSaysWrongFalsely : Prop := inqSaysRow.holds Try.pinned (OpenSpec.ofChange inqSaysWrong)

/-- 'packetboatkeep.InqStream': WHATEVER THE INPUT: true; the input reads as it did. -/
def inqStreamSpec : ChangeSpec := { name := "inqStream", fn := fun _ => fun
  | [d1, d2, d3] => { results := [.lit (.bool true)], args := [d1, d2, d3] }
  | _ => none }
def inqStreamRow : OpenClaim := { program := "ythdjdfemckjebaa", sum := "4fddccf93e595aa50e1b2dbdefaabf3bf3155de190b7a43ce3f4d163640304e8", func := "packetboat/packetboatkeep.InqStream", spec := "inqStream", unfollowed := true, recurses := true, apart := false }
def InqStreamSaid : Prop := inqStreamRow.holds Try.pinned (OpenSpec.ofChange inqStreamSpec)

/-- ITS FALSE NEIGHBOUR: 'it returns false'. Refute it at one input. -/
def inqStreamWrong : ChangeSpec := { name := "inqStream", fn := fun _ => fun
  | [d1, d2, d3] => { results := [.lit (.bool false)], args := [d1, d2, d3] }
  | _ => none }
def InqStreamWrongFalsely : Prop := inqStreamRow.holds Try.pinned (OpenSpec.ofChange inqStreamWrong)

/-- 'packetboatkeep.InqEdges': WHATEVER THE INPUT: true; the input reads as it did. -/
def inqEdgesSpec : ChangeSpec := { name := "inqEdges", fn := fun _ => fun
  | [d1, d2, d3] => { results := [.lit (.bool true)], args := [d1, d2, d3] }
  | _ => none }
def inqEdgesRow : OpenClaim := { program := "ythdjdfemckjebaa", sum := "4fddccf93e595aa50e1b2dbdefaabf3bf3155de190b7a43ce3f4d163640304e8", func := "packetboat/packetboatkeep.InqEdges", spec := "inqEdges", apart := false }
def InqEdgesSaid : Prop := inqEdgesRow.holds Try.pinned (OpenSpec.ofChange inqEdgesSpec)

/-- ITS FALSE NEIGHBOUR: 'it returns false'. Refute it at one input. -/
def inqEdgesWrong : ChangeSpec := { name := "inqEdges", fn := fun _ => fun
  | [d1, d2, d3] => { results := [.lit (.bool false)], args := [d1, d2, d3] }
  | _ => none }
def InqEdgesWrongFalsely : Prop := inqEdgesRow.holds Try.pinned (OpenSpec.ofChange inqEdgesWrong)

/-- 'packetboatkeep.InqTwice': WHATEVER THE INPUT: true; the input reads as it did. -/
def inqTwiceSpec : ChangeSpec := { name := "inqTwice", fn := fun _ => fun
  | [d1, d2, d3, d4] => { results := [.lit (.bool true)], args := [d1, d2, d3, d4] }
  | _ => none }
def inqTwiceRow : OpenClaim := { program := "ythdjdfemckjebaa", sum := "4fddccf93e595aa50e1b2dbdefaabf3bf3155de190b7a43ce3f4d163640304e8", func := "packetboat/packetboatkeep.InqTwice", spec := "inqTwice", apart := false }
def InqTwiceSaid : Prop := inqTwiceRow.holds Try.pinned (OpenSpec.ofChange inqTwiceSpec)

/-- ITS FALSE NEIGHBOUR: 'it returns false'. Refute it at one input. -/
def inqTwiceWrong : ChangeSpec := { name := "inqTwice", fn := fun _ => fun
  | [d1, d2, d3, d4] => { results := [.lit (.bool false)], args := [d1, d2, d3, d4] }
  | _ => none }
def InqTwiceWrongFalsely : Prop := inqTwiceRow.holds Try.pinned (OpenSpec.ofChange inqTwiceWrong)

/- THE SECOND FORM. 'bulk': how many values and letters a reading holds, each counted each time it is reached (what is shared counts as often as it is met; a slice's spare places count too). A statement '..UptoSaid' is the law's where the arguments, and the package variables that the reading takes, are together of bulk at most 1048576: NARROWER than '..Said'. Prove '..Said' where nothing that the law and all that it calls make is longer than what came in: it says more and counts as full. Else prove '..UptoSaid'. A law counts once. -/
mutual
def uptoBulk {H : Type} : DataW H → Nat
  | .lit (.string bytes) => bytes.length + 1
  | .lit _ => 1
  | .nil => 1
  | .ptr d => uptoBulk d + 1
  | .slice elems spare => uptoBulkAll elems + uptoBulkAll spare + 1
  | .agg parts => uptoBulkAll parts + 1
  | .iface _ d => uptoBulk d + 1
  | .map entries => uptoBulkEntries entries + 1
  | .held _ => 1
def uptoBulkAll {H : Type} : List (DataW H) → Nat
  | [] => 0
  | d :: r => uptoBulk d + uptoBulkAll r
def uptoBulkEntries {H : Type} : List (Lit × DataW H) → Nat
  | [] => 0
  | x :: r => uptoBulkEntry x + uptoBulkEntries r
def uptoBulkEntry {H : Type} : Lit × DataW H → Nat
  | (.string bytes, d) => bytes.length + uptoBulk d + 1
  | (_, d) => uptoBulk d + 1
 end
def uptoSmall : (H : Type) → List (DataW H) → Bool := fun _ ds => decide (uptoBulkAll ds ≤ 1048576)
def OpenSpec.upto (s : _root_.Go.ChangeSpec) : _root_.Go.OpenSpec := { _root_.Go.OpenSpec.ofChange s with cond := some uptoSmall }

/-- 'packetboatlaw.InqSays', WHERE WHAT IT READS IS OF BULK AT MOST 1048576: true; the input reads as it did. -/
def inqSaysUptoRow : OpenClaim := { program := "ythdjdfemckjebaa", sum := "4fddccf93e595aa50e1b2dbdefaabf3bf3155de190b7a43ce3f4d163640304e8", func := "packetboat/packetboatlaw.InqSays", spec := "inqSays", apart := false, narrowed := true }
def InqSaysUptoSaid : Prop := inqSaysUptoRow.holds Try.pinned (OpenSpec.upto inqSaysSpec)

/-- 'packetboatkeep.InqStream', WHERE WHAT IT READS IS OF BULK AT MOST 1048576: true; the input reads as it did. -/
def inqStreamUptoRow : OpenClaim := { program := "ythdjdfemckjebaa", sum := "4fddccf93e595aa50e1b2dbdefaabf3bf3155de190b7a43ce3f4d163640304e8", func := "packetboat/packetboatkeep.InqStream", spec := "inqStream", unfollowed := true, recurses := true, apart := false, narrowed := true }
def InqStreamUptoSaid : Prop := inqStreamUptoRow.holds Try.pinned (OpenSpec.upto inqStreamSpec)

/-- 'packetboatkeep.InqEdges', WHERE WHAT IT READS IS OF BULK AT MOST 1048576: true; the input reads as it did. -/
def inqEdgesUptoRow : OpenClaim := { program := "ythdjdfemckjebaa", sum := "4fddccf93e595aa50e1b2dbdefaabf3bf3155de190b7a43ce3f4d163640304e8", func := "packetboat/packetboatkeep.InqEdges", spec := "inqEdges", apart := false, narrowed := true }
def InqEdgesUptoSaid : Prop := inqEdgesUptoRow.holds Try.pinned (OpenSpec.upto inqEdgesSpec)

/-- 'packetboatkeep.InqTwice', WHERE WHAT IT READS IS OF BULK AT MOST 1048576: true; the input reads as it did. -/
def inqTwiceUptoRow : OpenClaim := { program := "ythdjdfemckjebaa", sum := "4fddccf93e595aa50e1b2dbdefaabf3bf3155de190b7a43ce3f4d163640304e8", func := "packetboat/packetboatkeep.InqTwice", spec := "inqTwice", apart := false, narrowed := true }
def InqTwiceUptoSaid : Prop := inqTwiceUptoRow.holds Try.pinned (OpenSpec.upto inqTwiceSpec)

end Rows
end Go.Proofs.Ythdjdfemckjebaa
