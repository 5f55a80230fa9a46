/-
  No cell of these rows narrows 'for every input' (looked for: loops, veiled, ifaces, maps, wideKeys, modest, calm, conditions, laid).
  DERIVED. THE GIVEN ROWS OF THIS SEAT. 5 by the template 'for every input the law returns true; each argument reads behind the call as it read before'; 0 by the template 'total and deterministic' (their statements: YtggoipdmiajckaaTotals.lean).
  GIVEN WITH THE SEED: the statements are not yours to turn. If you find one false, say at which input.
  Laid BY PROGRAM, IN A SANDBOX (cutbox-rows.mjs): the forced cells as the released guide's own fill.sh prints them over the translation fc651f4cf3a27a8c… (all of the seat's roots in one cut). By AI agents, Wed Nov 11 2026. No macro, syntax, notation, axiom, sorry.
-/
import Derived.Test.YtggoipdmiajckaaChecked
import GoSem.Claim
import GoSem.ClaimJoined
import GoSem.ClaimMapViews
import Derived.JoinedTies
import Derived.KernelRfl
namespace Go.Proofs.Ytggoipdmiajckaa
/- THE CELL 'sum', in the pinned program and in every row, IS THE sha256 OF THE DUMP (.gsa) THAT YtggoipdmiajckaaProg.lean LOADS. Nothing in Lean hashes anything: it is a label: what it is worth is what the hold of that sum in a sandbox is worth. -/
noncomputable def Try.pinned : Pinned := { name := "ytggoipdmiajckaa", sum := "fc651f4cf3a27a8c9e7e4ffa8ea98ab464f92eb5ce04307f06b2f5774b8f51ad", checked := Try.checked }
namespace Rows
def none {H : Type} : Left H := { results := [], args := [] }

/-- 'packetboatlaw.TcpWrites': WHATEVER THE INPUT: true; the input reads as it did. -/
def tcpWritesSpec : ChangeSpec := { name := "tcpWrites", fn := fun _ => fun
  | [d] => { results := [.lit (.bool true)], args := [d] }
  | _ => none }
def tcpWritesRow : OpenClaim := { program := "ytggoipdmiajckaa", sum := "fc651f4cf3a27a8c9e7e4ffa8ea98ab464f92eb5ce04307f06b2f5774b8f51ad", func := "packetboat/packetboatlaw.TcpWrites", spec := "tcpWrites", recurses := true, apart := false }
def TcpWritesSaid : Prop := tcpWritesRow.holds Try.pinned (OpenSpec.ofChange tcpWritesSpec)

/-- ITS FALSE NEIGHBOUR: 'it returns false'. Refute it at one input. -/
def tcpWritesWrong : ChangeSpec := { name := "tcpWrites", fn := fun _ => fun
  | [d] => { results := [.lit (.bool false)], args := [d] }
  | _ => none }
def TcpWritesWrongFalsely : Prop := tcpWritesRow.holds Try.pinned (OpenSpec.ofChange tcpWritesWrong)

/-- 'packetboatlaw.TcpReads': WHATEVER THE INPUT: true; the input reads as it did. -/
def tcpReadsSpec : ChangeSpec := { name := "tcpReads", fn := fun _ => fun
  | [d1, d2, d3] => { results := [.lit (.bool true)], args := [d1, d2, d3] }
  | _ => none }
def tcpReadsRow : OpenClaim := { program := "ytggoipdmiajckaa", sum := "fc651f4cf3a27a8c9e7e4ffa8ea98ab464f92eb5ce04307f06b2f5774b8f51ad", func := "packetboat/packetboatlaw.TcpReads", spec := "tcpReads", recurses := true, apart := false }
def TcpReadsSaid : Prop := tcpReadsRow.holds Try.pinned (OpenSpec.ofChange tcpReadsSpec)

/-- ITS FALSE NEIGHBOUR: 'it returns false'. Refute it at one input. -/
def tcpReadsWrong : ChangeSpec := { name := "tcpReads", fn := fun _ => fun
  | [d1, d2, d3] => { results := [.lit (.bool false)], args := [d1, d2, d3] }
  | _ => none }
def TcpReadsWrongFalsely : Prop := tcpReadsRow.holds Try.pinned (OpenSpec.ofChange tcpReadsWrong)

/-- 'packetboatkeep.TcpBack': WHATEVER THE INPUT: true; the input reads as it did. -/
def tcpBackSpec : ChangeSpec := { name := "tcpBack", fn := fun _ => fun
  | [d1, d2, d3] => { results := [.lit (.bool true)], args := [d1, d2, d3] }
  | _ => none }
def tcpBackRow : OpenClaim := { program := "ytggoipdmiajckaa", sum := "fc651f4cf3a27a8c9e7e4ffa8ea98ab464f92eb5ce04307f06b2f5774b8f51ad", func := "packetboat/packetboatkeep.TcpBack", spec := "tcpBack", apart := false }
def TcpBackSaid : Prop := tcpBackRow.holds Try.pinned (OpenSpec.ofChange tcpBackSpec)

/-- ITS FALSE NEIGHBOUR: 'it returns false'. Refute it at one input. -/
def tcpBackWrong : ChangeSpec := { name := "tcpBack", fn := fun _ => fun
  | [d1, d2, d3] => { results := [.lit (.bool false)], args := [d1, d2, d3] }
  | _ => none }
def TcpBackWrongFalsely : Prop := tcpBackRow.holds Try.pinned (OpenSpec.ofChange tcpBackWrong)

/-- 'packetboatkeep.TcpAgain': WHATEVER THE INPUT: true; the input reads as it did. -/
def tcpAgainSpec : ChangeSpec := { name := "tcpAgain", fn := fun _ => fun
  | [d1, d2, d3] => { results := [.lit (.bool true)], args := [d1, d2, d3] }
  | _ => none }
def tcpAgainRow : OpenClaim := { program := "ytggoipdmiajckaa", sum := "fc651f4cf3a27a8c9e7e4ffa8ea98ab464f92eb5ce04307f06b2f5774b8f51ad", func := "packetboat/packetboatkeep.TcpAgain", spec := "tcpAgain", apart := false }
def TcpAgainSaid : Prop := tcpAgainRow.holds Try.pinned (OpenSpec.ofChange tcpAgainSpec)

/-- ITS FALSE NEIGHBOUR: 'it returns false'. Refute it at one input. -/
def tcpAgainWrong : ChangeSpec := { name := "tcpAgain", fn := fun _ => fun
  | [d1, d2, d3] => { results := [.lit (.bool false)], args := [d1, d2, d3] }
  | _ => none }
def TcpAgainWrongFalsely : Prop := tcpAgainRow.holds Try.pinned (OpenSpec.ofChange tcpAgainWrong)

/-- 'packetboatkeep.TcpEnds': WHATEVER THE INPUT: true; the input reads as it did. -/
def tcpEndsSpec : ChangeSpec := { name := "tcpEnds", fn := fun _ => fun
  | [d1, d2, d3] => { results := [.lit (.bool true)], args := [d1, d2, d3] }
  | _ => none }
def tcpEndsRow : OpenClaim := { program := "ytggoipdmiajckaa", sum := "fc651f4cf3a27a8c9e7e4ffa8ea98ab464f92eb5ce04307f06b2f5774b8f51ad", func := "packetboat/packetboatkeep.TcpEnds", spec := "tcpEnds", unfollowed := true, recurses := true, apart := false }
def TcpEndsSaid : Prop := tcpEndsRow.holds Try.pinned (OpenSpec.ofChange tcpEndsSpec)

/-- ITS FALSE NEIGHBOUR: 'it returns false'. Refute it at one input. -/
def tcpEndsWrong : ChangeSpec := { name := "tcpEnds", fn := fun _ => fun
  | [d1, d2, d3] => { results := [.lit (.bool false)], args := [d1, d2, d3] }
  | _ => none }
def TcpEndsWrongFalsely : Prop := tcpEndsRow.holds Try.pinned (OpenSpec.ofChange tcpEndsWrong)

/- THE SECOND FORM. 'bulk': how many values and letters a reading holds, each counted each time it is reached (what is shared counts as often as it is met; a slice's spare places count too). A statement '..UptoSaid' is the law's where the arguments, and the package variables that the reading takes, are together of bulk at most 1048576: NARROWER than '..Said'. Prove '..Said' where nothing that the law and all that it calls make is longer than what came in: it says more and counts as full. Else prove '..UptoSaid'. A law counts once. -/
mutual
def uptoBulk {H : Type} : DataW H → Nat
  | .lit (.string bytes) => bytes.length + 1
  | .lit _ => 1
  | .nil => 1
  | .ptr d => uptoBulk d + 1
  | .slice elems spare => uptoBulkAll elems + uptoBulkAll spare + 1
  | .agg parts => uptoBulkAll parts + 1
  | .iface _ d => uptoBulk d + 1
  | .map entries => uptoBulkEntries entries + 1
  | .held _ => 1
def uptoBulkAll {H : Type} : List (DataW H) → Nat
  | [] => 0
  | d :: r => uptoBulk d + uptoBulkAll r
def uptoBulkEntries {H : Type} : List (Lit × DataW H) → Nat
  | [] => 0
  | x :: r => uptoBulkEntry x + uptoBulkEntries r
def uptoBulkEntry {H : Type} : Lit × DataW H → Nat
  | (.string bytes, d) => bytes.length + uptoBulk d + 1
  | (_, d) => uptoBulk d + 1
 end
def uptoSmall : (H : Type) → List (DataW H) → Bool := fun _ ds => decide (uptoBulkAll ds ≤ 1048576)
def OpenSpec.upto (s : _root_.Go.ChangeSpec) : _root_.Go.OpenSpec := { _root_.Go.OpenSpec.ofChange s with cond := some uptoSmall }

/-- 'packetboatlaw.TcpWrites', WHERE WHAT IT READS IS OF BULK AT MOST 1048576: true; the input reads as it did. -/
def tcpWritesUptoRow : OpenClaim := { program := "ytggoipdmiajckaa", sum := "fc651f4cf3a27a8c9e7e4ffa8ea98ab464f92eb5ce04307f06b2f5774b8f51ad", func := "packetboat/packetboatlaw.TcpWrites", spec := "tcpWrites", recurses := true, apart := false, narrowed := true }
def TcpWritesUptoSaid : Prop := tcpWritesUptoRow.holds Try.pinned (OpenSpec.upto tcpWritesSpec)

/-- 'packetboatlaw.TcpReads', WHERE WHAT IT READS IS OF BULK AT MOST 1048576: true; the input reads as it did. -/
def tcpReadsUptoRow : OpenClaim := { program := "ytggoipdmiajckaa", sum := "fc651f4cf3a27a8c9e7e4ffa8ea98ab464f92eb5ce04307f06b2f5774b8f51ad", func := "packetboat/packetboatlaw.TcpReads", spec := "tcpReads", recurses := true, apart := false, narrowed := true }
def TcpReadsUptoSaid : Prop := tcpReadsUptoRow.holds Try.pinned (OpenSpec.upto tcpReadsSpec)

/-- 'packetboatkeep.TcpBack', WHERE WHAT IT READS IS OF BULK AT MOST 1048576: true; the input reads as it did. -/
def tcpBackUptoRow : OpenClaim := { program := "ytggoipdmiajckaa", sum := "fc651f4cf3a27a8c9e7e4ffa8ea98ab464f92eb5ce04307f06b2f5774b8f51ad", func := "packetboat/packetboatkeep.TcpBack", spec := "tcpBack", apart := false, narrowed := true }
def TcpBackUptoSaid : Prop := tcpBackUptoRow.holds Try.pinned (OpenSpec.upto tcpBackSpec)

/-- 'packetboatkeep.TcpAgain', WHERE WHAT IT READS IS OF BULK AT MOST 1048576: true; the input reads as it did. -/
def tcpAgainUptoRow : OpenClaim := { program := "ytggoipdmiajckaa", sum := "fc651f4cf3a27a8c9e7e4ffa8ea98ab464f92eb5ce04307f06b2f5774b8f51ad", func := "packetboat/packetboatkeep.TcpAgain", spec := "tcpAgain", apart := false, narrowed := true }
def TcpAgainUptoSaid : Prop := tcpAgainUptoRow.holds Try.pinned (OpenSpec.upto tcpAgainSpec)

/-- 'packetboatkeep.TcpEnds', WHERE WHAT IT READS IS OF BULK AT MOST 1048576: true; the input reads as it did. -/
def tcpEndsUptoRow : OpenClaim := { program := "ytggoipdmiajckaa", sum := "fc651f4cf3a27a8c9e7e4ffa8ea98ab464f92eb5ce04307f06b2f5774b8f51ad", func := "packetboat/packetboatkeep.TcpEnds", spec := "tcpEnds", unfollowed := true, recurses := true, apart := false, narrowed := true }
def TcpEndsUptoSaid : Prop := tcpEndsUptoRow.holds Try.pinned (OpenSpec.upto tcpEndsSpec)

end Rows
end Go.Proofs.Ytggoipdmiajckaa
