/-
  No cell of these rows narrows 'for every input' (looked for: loops, veiled, ifaces, maps, wideKeys, modest, calm, conditions, laid).
  DERIVED. THE GIVEN ROWS OF THIS SEAT. 6 by the template 'for every input the law returns true; each argument reads behind the call as it read before'; 0 by the template 'total and deterministic' (their statements: YtfnmcnbiahfnfaaTotals.lean).
  GIVEN WITH THE SEED: the statements are not yours to turn. If you find one false, say at which input.
  Laid BY PROGRAM, IN A SANDBOX (cutbox-rows.mjs): the forced cells as the released guide's own fill.sh prints them over the translation 9f381daac1475d16… (all of the seat's roots in one cut). By AI agents, Wed Nov 11 2026. No macro, syntax, notation, axiom, sorry.
-/
import Derived.Test.YtfnmcnbiahfnfaaChecked
import GoSem.Claim
import GoSem.ClaimJoined
import GoSem.ClaimMapViews
import Derived.JoinedTies
import Derived.KernelRfl
namespace Go.Proofs.Ytfnmcnbiahfnfaa
/- THE CELL 'sum', in the pinned program and in every row, IS THE sha256 OF THE DUMP (.gsa) THAT YtfnmcnbiahfnfaaProg.lean LOADS. Nothing in Lean hashes anything: it is a label: what it is worth is what the hold of that sum in a sandbox is worth. -/
noncomputable def Try.pinned : Pinned := { name := "ytfnmcnbiahfnfaa", sum := "9f381daac1475d16b4f4d31bb11d9ce38524032165dd638582618ee302175c73", checked := Try.checked }
namespace Rows
def none {H : Type} : Left H := { results := [], args := [] }

/-- 'packetboatlaw.FragSplits': WHATEVER THE INPUT: true; the input reads as it did. -/
def fragSplitsSpec : ChangeSpec := { name := "fragSplits", fn := fun _ => fun
  | [d1, d2] => { results := [.lit (.bool true)], args := [d1, d2] }
  | _ => none }
def fragSplitsRow : OpenClaim := { program := "ytfnmcnbiahfnfaa", sum := "9f381daac1475d16b4f4d31bb11d9ce38524032165dd638582618ee302175c73", func := "packetboat/packetboatlaw.FragSplits", spec := "fragSplits", plainKeys := false, apart := false }
def FragSplitsSaid : Prop := fragSplitsRow.holds Try.pinned (OpenSpec.ofChange fragSplitsSpec)

/-- ITS FALSE NEIGHBOUR: 'it returns false'. Refute it at one input. -/
def fragSplitsWrong : ChangeSpec := { name := "fragSplits", fn := fun _ => fun
  | [d1, d2] => { results := [.lit (.bool false)], args := [d1, d2] }
  | _ => none }
def FragSplitsWrongFalsely : Prop := fragSplitsRow.holds Try.pinned (OpenSpec.ofChange fragSplitsWrong)

/-- 'packetboatlaw.FragSays': WHATEVER THE INPUT: true; the input reads as it did. -/
def fragSaysSpec : ChangeSpec := { name := "fragSays", fn := fun _ => fun
  | [d] => { results := [.lit (.bool true)], args := [d] }
  | _ => none }
def fragSaysRow : OpenClaim := { program := "ytfnmcnbiahfnfaa", sum := "9f381daac1475d16b4f4d31bb11d9ce38524032165dd638582618ee302175c73", func := "packetboat/packetboatlaw.FragSays", spec := "fragSays", unfollowed := true, recurses := true, plainKeys := false, apart := false }
def FragSaysSaid : Prop := fragSaysRow.holds Try.pinned (OpenSpec.ofChange fragSaysSpec)

/-- ITS FALSE NEIGHBOUR: 'it returns false'. Refute it at one input. -/
def fragSaysWrong : ChangeSpec := { name := "fragSays", fn := fun _ => fun
  | [d] => { results := [.lit (.bool false)], args := [d] }
  | _ => none }
def FragSaysWrongFalsely : Prop := fragSaysRow.holds Try.pinned (OpenSpec.ofChange fragSaysWrong)

/-- 'packetboatkeep.FragSizes': WHATEVER THE INPUT: true; the input reads as it did. -/
def fragSizesSpec : ChangeSpec := { name := "fragSizes", fn := fun _ => fun
  | [d1, d2] => { results := [.lit (.bool true)], args := [d1, d2] }
  | _ => none }
def fragSizesRow : OpenClaim := { program := "ytfnmcnbiahfnfaa", sum := "9f381daac1475d16b4f4d31bb11d9ce38524032165dd638582618ee302175c73", func := "packetboat/packetboatkeep.FragSizes", spec := "fragSizes", plainKeys := false, apart := false }
def FragSizesSaid : Prop := fragSizesRow.holds Try.pinned (OpenSpec.ofChange fragSizesSpec)

/-- ITS FALSE NEIGHBOUR: 'it returns false'. Refute it at one input. -/
def fragSizesWrong : ChangeSpec := { name := "fragSizes", fn := fun _ => fun
  | [d1, d2] => { results := [.lit (.bool false)], args := [d1, d2] }
  | _ => none }
def FragSizesWrongFalsely : Prop := fragSizesRow.holds Try.pinned (OpenSpec.ofChange fragSizesWrong)

/-- 'packetboatkeep.FragWhole': WHATEVER THE INPUT: true; the input reads as it did. -/
def fragWholeSpec : ChangeSpec := { name := "fragWhole", fn := fun _ => fun
  | [d1, d2, d3, d4] => { results := [.lit (.bool true)], args := [d1, d2, d3, d4] }
  | _ => none }
def fragWholeRow : OpenClaim := { program := "ytfnmcnbiahfnfaa", sum := "9f381daac1475d16b4f4d31bb11d9ce38524032165dd638582618ee302175c73", func := "packetboat/packetboatkeep.FragWhole", spec := "fragWhole", unfollowed := true, recurses := true, plainKeys := false, apart := false }
def FragWholeSaid : Prop := fragWholeRow.holds Try.pinned (OpenSpec.ofChange fragWholeSpec)

/-- ITS FALSE NEIGHBOUR: 'it returns false'. Refute it at one input. -/
def fragWholeWrong : ChangeSpec := { name := "fragWhole", fn := fun _ => fun
  | [d1, d2, d3, d4] => { results := [.lit (.bool false)], args := [d1, d2, d3, d4] }
  | _ => none }
def FragWholeWrongFalsely : Prop := fragWholeRow.holds Try.pinned (OpenSpec.ofChange fragWholeWrong)

/-- 'packetboatkeep.FragLate': WHATEVER THE INPUT: true; the input reads as it did. -/
def fragLateSpec : ChangeSpec := { name := "fragLate", fn := fun _ => fun
  | [d1, d2] => { results := [.lit (.bool true)], args := [d1, d2] }
  | _ => none }
def fragLateRow : OpenClaim := { program := "ytfnmcnbiahfnfaa", sum := "9f381daac1475d16b4f4d31bb11d9ce38524032165dd638582618ee302175c73", func := "packetboat/packetboatkeep.FragLate", spec := "fragLate", plainKeys := false, apart := false }
def FragLateSaid : Prop := fragLateRow.holds Try.pinned (OpenSpec.ofChange fragLateSpec)

/-- ITS FALSE NEIGHBOUR: 'it returns false'. Refute it at one input. -/
def fragLateWrong : ChangeSpec := { name := "fragLate", fn := fun _ => fun
  | [d1, d2] => { results := [.lit (.bool false)], args := [d1, d2] }
  | _ => none }
def FragLateWrongFalsely : Prop := fragLateRow.holds Try.pinned (OpenSpec.ofChange fragLateWrong)

/-- 'packetboatkeep.FragLacks': WHATEVER THE INPUT: true; the input reads as it did. -/
def fragLacksSpec : ChangeSpec := { name := "fragLacks", fn := fun _ => fun
  | [d1, d2, d3, d4] => { results := [.lit (.bool true)], args := [d1, d2, d3, d4] }
  | _ => none }
def fragLacksRow : OpenClaim := { program := "ytfnmcnbiahfnfaa", sum := "9f381daac1475d16b4f4d31bb11d9ce38524032165dd638582618ee302175c73", func := "packetboat/packetboatkeep.FragLacks", spec := "fragLacks", plainKeys := false, apart := false }
def FragLacksSaid : Prop := fragLacksRow.holds Try.pinned (OpenSpec.ofChange fragLacksSpec)

/-- ITS FALSE NEIGHBOUR: 'it returns false'. Refute it at one input. -/
def fragLacksWrong : ChangeSpec := { name := "fragLacks", fn := fun _ => fun
  | [d1, d2, d3, d4] => { results := [.lit (.bool false)], args := [d1, d2, d3, d4] }
  | _ => none }
def FragLacksWrongFalsely : Prop := fragLacksRow.holds Try.pinned (OpenSpec.ofChange fragLacksWrong)

/- THE SECOND FORM. 'bulk': how many values and letters a reading holds, each counted each time it is reached (what is shared counts as often as it is met; a slice's spare places count too). A statement '..UptoSaid' is the law's where the arguments, and the package variables that the reading takes, are together of bulk at most 1048576: NARROWER than '..Said'. Prove '..Said' where nothing that the law and all that it calls make is longer than what came in: it says more and counts as full. Else prove '..UptoSaid'. A law counts once. -/
mutual
def uptoBulk {H : Type} : DataW H → Nat
  | .lit (.string bytes) => bytes.length + 1
  | .lit _ => 1
  | .nil => 1
  | .ptr d => uptoBulk d + 1
  | .slice elems spare => uptoBulkAll elems + uptoBulkAll spare + 1
  | .agg parts => uptoBulkAll parts + 1
  | .iface _ d => uptoBulk d + 1
  | .map entries => uptoBulkEntries entries + 1
  | .held _ => 1
def uptoBulkAll {H : Type} : List (DataW H) → Nat
  | [] => 0
  | d :: r => uptoBulk d + uptoBulkAll r
def uptoBulkEntries {H : Type} : List (Lit × DataW H) → Nat
  | [] => 0
  | x :: r => uptoBulkEntry x + uptoBulkEntries r
def uptoBulkEntry {H : Type} : Lit × DataW H → Nat
  | (.string bytes, d) => bytes.length + uptoBulk d + 1
  | (_, d) => uptoBulk d + 1
 end
def uptoSmall : (H : Type) → List (DataW H) → Bool := fun _ ds => decide (uptoBulkAll ds ≤ 1048576)
def OpenSpec.upto (s : _root_.Go.ChangeSpec) : _root_.Go.OpenSpec := { _root_.Go.OpenSpec.ofChange s with cond := some uptoSmall }

/-- 'packetboatlaw.FragSplits', WHERE WHAT IT READS IS OF BULK AT MOST 1048576: true; the input reads as it did. -/
def fragSplitsUptoRow : OpenClaim := { program := "ytfnmcnbiahfnfaa", sum := "9f381daac1475d16b4f4d31bb11d9ce38524032165dd638582618ee302175c73", func := "packetboat/packetboatlaw.FragSplits", spec := "fragSplits", plainKeys := false, apart := false, narrowed := true }
def FragSplitsUptoSaid : Prop := fragSplitsUptoRow.holds Try.pinned (OpenSpec.upto fragSplitsSpec)

/-- 'packetboatlaw.FragSays', WHERE WHAT IT READS IS OF BULK AT MOST 1048576: true; the input reads as it did. -/
def fragSaysUptoRow : OpenClaim := { program := "ytfnmcnbiahfnfaa", sum := "9f381daac1475d16b4f4d31bb11d9ce38524032165dd638582618ee302175c73", func := "packetboat/packetboatlaw.FragSays", spec := "fragSays", unfollowed := true, recurses := true, plainKeys := false, apart := false, narrowed := true }
def FragSaysUptoSaid : Prop := fragSaysUptoRow.holds Try.pinned (OpenSpec.upto fragSaysSpec)

/-- 'packetboatkeep.FragSizes', WHERE WHAT IT READS IS OF BULK AT MOST 1048576: true; the input reads as it did. -/
def fragSizesUptoRow : OpenClaim := { program := "ytfnmcnbiahfnfaa", sum := "9f381daac1475d16b4f4d31bb11d9ce38524032165dd638582618ee302175c73", func := "packetboat/packetboatkeep.FragSizes", spec := "fragSizes", plainKeys := false, apart := false, narrowed := true }
def FragSizesUptoSaid : Prop := fragSizesUptoRow.holds Try.pinned (OpenSpec.upto fragSizesSpec)

/-- 'packetboatkeep.FragWhole', WHERE WHAT IT READS IS OF BULK AT MOST 1048576: true; the input reads as it did. -/
def fragWholeUptoRow : OpenClaim := { program := "ytfnmcnbiahfnfaa", sum := "9f381daac1475d16b4f4d31bb11d9ce38524032165dd638582618ee302175c73", func := "packetboat/packetboatkeep.FragWhole", spec := "fragWhole", unfollowed := true, recurses := true, plainKeys := false, apart := false, narrowed := true }
def FragWholeUptoSaid : Prop := fragWholeUptoRow.holds Try.pinned (OpenSpec.upto fragWholeSpec)

/-- 'packetboatkeep.FragLate', WHERE WHAT IT READS IS OF BULK AT MOST 1048576: true; the input reads as it did. -/
def fragLateUptoRow : OpenClaim := { program := "ytfnmcnbiahfnfaa", sum := "9f381daac1475d16b4f4d31bb11d9ce38524032165dd638582618ee302175c73", func := "packetboat/packetboatkeep.FragLate", spec := "fragLate", plainKeys := false, apart := false, narrowed := true }
def FragLateUptoSaid : Prop := fragLateUptoRow.holds Try.pinned (OpenSpec.upto fragLateSpec)

/-- 'packetboatkeep.FragLacks', WHERE WHAT IT READS IS OF BULK AT MOST 1048576: true; the input reads as it did. -/
def fragLacksUptoRow : OpenClaim := { program := "ytfnmcnbiahfnfaa", sum := "9f381daac1475d16b4f4d31bb11d9ce38524032165dd638582618ee302175c73", func := "packetboat/packetboatkeep.FragLacks", spec := "fragLacks", plainKeys := false, apart := false, narrowed := true }
def FragLacksUptoSaid : Prop := fragLacksUptoRow.holds Try.pinned (OpenSpec.upto fragLacksSpec)

end Rows
end Go.Proofs.Ytfnmcnbiahfnfaa
