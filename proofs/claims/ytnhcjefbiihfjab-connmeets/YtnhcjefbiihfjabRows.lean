/-
  No cell of these rows narrows 'for every input' (looked for: loops, veiled, ifaces, maps, wideKeys, modest, calm, conditions, laid).
  DERIVED. THE GIVEN ROWS OF THIS SEAT. 5 by the template 'for every input the law returns true; each argument reads behind the call as it read before'; 0 by the template 'total and deterministic' (their statements: YtnhcjefbiihfjabTotals.lean).
  GIVEN WITH THE SEED: the statements are not yours to turn. If you find one false, say at which input.
  Laid BY PROGRAM, IN A SANDBOX (cutbox-rows.mjs): the forced cells as the released guide's own fill.sh prints them over the translation a3bdbc474a7d8981… (all of the seat's roots in one cut). By AI agents, Wed Nov 11 2026. No macro, syntax, notation, axiom, sorry.
-/
import Derived.Test.YtnhcjefbiihfjabChecked
import GoSem.Claim
import GoSem.ClaimJoined
import GoSem.ClaimMapViews
import Derived.JoinedTies
import Derived.KernelRfl
namespace Go.Proofs.Ytnhcjefbiihfjab
/- THE CELL 'sum', in the pinned program and in every row, IS THE sha256 OF THE DUMP (.gsa) THAT YtnhcjefbiihfjabProg.lean LOADS. Nothing in Lean hashes anything: it is a label: what it is worth is what the hold of that sum in a sandbox is worth. -/
noncomputable def Try.pinned : Pinned := { name := "ytnhcjefbiihfjab", sum := "a3bdbc474a7d8981a7a5071e603a9cd3d5b24d2c5f32422e03d17eafce1f679c", checked := Try.checked }
namespace Rows
def none {H : Type} : Left H := { results := [], args := [] }

/-- 'packetboatkeep.ConnSilent': WHATEVER THE INPUT: true; the input reads as it did. -/
def connSilentSpec : ChangeSpec := { name := "connSilent", fn := fun _ => fun
  | [d1, d2] => { results := [.lit (.bool true)], args := [d1, d2] }
  | _ => none }
def connSilentRow : OpenClaim := { program := "ytnhcjefbiihfjab", sum := "a3bdbc474a7d8981a7a5071e603a9cd3d5b24d2c5f32422e03d17eafce1f679c", func := "packetboat/packetboatkeep.ConnSilent", spec := "connSilent", apart := false }
def ConnSilentSaid : Prop := connSilentRow.holds Try.pinned (OpenSpec.ofChange connSilentSpec)

/-- ITS FALSE NEIGHBOUR: 'it returns false'. Refute it at one input. -/
def connSilentWrong : ChangeSpec := { name := "connSilent", fn := fun _ => fun
  | [d1, d2] => { results := [.lit (.bool false)], args := [d1, d2] }
  | _ => none }
def ConnSilentWrongFalsely : Prop := connSilentRow.holds Try.pinned (OpenSpec.ofChange connSilentWrong)

/-- 'packetboatkeep.ConnMeets': WHATEVER THE INPUT: true; the input reads as it did. -/
def connMeetsSpec : ChangeSpec := { name := "connMeets", fn := fun _ => fun
  | [d1, d2, d3, d4, d5] => { results := [.lit (.bool true)], args := [d1, d2, d3, d4, d5] }
  | _ => none }
def connMeetsRow : OpenClaim := { program := "ytnhcjefbiihfjab", sum := "a3bdbc474a7d8981a7a5071e603a9cd3d5b24d2c5f32422e03d17eafce1f679c", func := "packetboat/packetboatkeep.ConnMeets", spec := "connMeets", apart := false }
def ConnMeetsSaid : Prop := connMeetsRow.holds Try.pinned (OpenSpec.ofChange connMeetsSpec)

/-- ITS FALSE NEIGHBOUR: 'it returns false'. Refute it at one input. -/
def connMeetsWrong : ChangeSpec := { name := "connMeets", fn := fun _ => fun
  | [d1, d2, d3, d4, d5] => { results := [.lit (.bool false)], args := [d1, d2, d3, d4, d5] }
  | _ => none }
def ConnMeetsWrongFalsely : Prop := connMeetsRow.holds Try.pinned (OpenSpec.ofChange connMeetsWrong)

/-- 'packetboatkeep.ConnStops': WHATEVER THE INPUT: true; the input reads as it did. -/
def connStopsSpec : ChangeSpec := { name := "connStops", fn := fun _ => fun
  | [d1, d2, d3, d4, d5] => { results := [.lit (.bool true)], args := [d1, d2, d3, d4, d5] }
  | _ => none }
def connStopsRow : OpenClaim := { program := "ytnhcjefbiihfjab", sum := "a3bdbc474a7d8981a7a5071e603a9cd3d5b24d2c5f32422e03d17eafce1f679c", func := "packetboat/packetboatkeep.ConnStops", spec := "connStops", apart := false }
def ConnStopsSaid : Prop := connStopsRow.holds Try.pinned (OpenSpec.ofChange connStopsSpec)

/-- ITS FALSE NEIGHBOUR: 'it returns false'. Refute it at one input. -/
def connStopsWrong : ChangeSpec := { name := "connStops", fn := fun _ => fun
  | [d1, d2, d3, d4, d5] => { results := [.lit (.bool false)], args := [d1, d2, d3, d4, d5] }
  | _ => none }
def ConnStopsWrongFalsely : Prop := connStopsRow.holds Try.pinned (OpenSpec.ofChange connStopsWrong)

/-- 'packetboatkeep.ConnBreaks': WHATEVER THE INPUT: true; the input reads as it did. -/
def connBreaksSpec : ChangeSpec := { name := "connBreaks", fn := fun _ => fun
  | [d1, d2, d3, d4, d5] => { results := [.lit (.bool true)], args := [d1, d2, d3, d4, d5] }
  | _ => none }
def connBreaksRow : OpenClaim := { program := "ytnhcjefbiihfjab", sum := "a3bdbc474a7d8981a7a5071e603a9cd3d5b24d2c5f32422e03d17eafce1f679c", func := "packetboat/packetboatkeep.ConnBreaks", spec := "connBreaks", apart := false }
def ConnBreaksSaid : Prop := connBreaksRow.holds Try.pinned (OpenSpec.ofChange connBreaksSpec)

/-- ITS FALSE NEIGHBOUR: 'it returns false'. Refute it at one input. -/
def connBreaksWrong : ChangeSpec := { name := "connBreaks", fn := fun _ => fun
  | [d1, d2, d3, d4, d5] => { results := [.lit (.bool false)], args := [d1, d2, d3, d4, d5] }
  | _ => none }
def ConnBreaksWrongFalsely : Prop := connBreaksRow.holds Try.pinned (OpenSpec.ofChange connBreaksWrong)

/-- 'packetboatkeep.ConnBoth': WHATEVER THE INPUT: true; the input reads as it did. -/
def connBothSpec : ChangeSpec := { name := "connBoth", fn := fun _ => fun
  | [d1, d2, d3, d4] => { results := [.lit (.bool true)], args := [d1, d2, d3, d4] }
  | _ => none }
def connBothRow : OpenClaim := { program := "ytnhcjefbiihfjab", sum := "a3bdbc474a7d8981a7a5071e603a9cd3d5b24d2c5f32422e03d17eafce1f679c", func := "packetboat/packetboatkeep.ConnBoth", spec := "connBoth", apart := false }
def ConnBothSaid : Prop := connBothRow.holds Try.pinned (OpenSpec.ofChange connBothSpec)

/-- ITS FALSE NEIGHBOUR: 'it returns false'. Refute it at one input. -/
def connBothWrong : ChangeSpec := { name := "connBoth", fn := fun _ => fun
  | [d1, d2, d3, d4] => { results := [.lit (.bool false)], args := [d1, d2, d3, d4] }
  | _ => none }
def ConnBothWrongFalsely : Prop := connBothRow.holds Try.pinned (OpenSpec.ofChange connBothWrong)

/- THE SECOND FORM. 'bulk': how many values and letters a reading holds, each counted each time it is reached (what is shared counts as often as it is met; a slice's spare places count too). A statement '..UptoSaid' is the law's where the arguments, and the package variables that the reading takes, are together of bulk at most 1048576: NARROWER than '..Said'. Prove '..Said' where nothing that the law and all that it calls make is longer than what came in: it says more and counts as full. Else prove '..UptoSaid'. A law counts once. -/
mutual
def uptoBulk {H : Type} : DataW H → Nat
  | .lit (.string bytes) => bytes.length + 1
  | .lit _ => 1
  | .nil => 1
  | .ptr d => uptoBulk d + 1
  | .slice elems spare => uptoBulkAll elems + uptoBulkAll spare + 1
  | .agg parts => uptoBulkAll parts + 1
  | .iface _ d => uptoBulk d + 1
  | .map entries => uptoBulkEntries entries + 1
  | .held _ => 1
def uptoBulkAll {H : Type} : List (DataW H) → Nat
  | [] => 0
  | d :: r => uptoBulk d + uptoBulkAll r
def uptoBulkEntries {H : Type} : List (Lit × DataW H) → Nat
  | [] => 0
  | x :: r => uptoBulkEntry x + uptoBulkEntries r
def uptoBulkEntry {H : Type} : Lit × DataW H → Nat
  | (.string bytes, d) => bytes.length + uptoBulk d + 1
  | (_, d) => uptoBulk d + 1
 end
def uptoSmall : (H : Type) → List (DataW H) → Bool := fun _ ds => decide (uptoBulkAll ds ≤ 1048576)
def OpenSpec.upto (s : _root_.Go.ChangeSpec) : _root_.Go.OpenSpec := { _root_.Go.OpenSpec.ofChange s with cond := some uptoSmall }

/-- 'packetboatkeep.ConnSilent', WHERE WHAT IT READS IS OF BULK AT MOST 1048576: true; the input reads as it did. -/
def connSilentUptoRow : OpenClaim := { program := "ytnhcjefbiihfjab", sum := "a3bdbc474a7d8981a7a5071e603a9cd3d5b24d2c5f32422e03d17eafce1f679c", func := "packetboat/packetboatkeep.ConnSilent", spec := "connSilent", apart := false, narrowed := true }
def ConnSilentUptoSaid : Prop := connSilentUptoRow.holds Try.pinned (OpenSpec.upto connSilentSpec)

/-- 'packetboatkeep.ConnMeets', WHERE WHAT IT READS IS OF BULK AT MOST 1048576: true; the input reads as it did. -/
def connMeetsUptoRow : OpenClaim := { program := "ytnhcjefbiihfjab", sum := "a3bdbc474a7d8981a7a5071e603a9cd3d5b24d2c5f32422e03d17eafce1f679c", func := "packetboat/packetboatkeep.ConnMeets", spec := "connMeets", apart := false, narrowed := true }
def ConnMeetsUptoSaid : Prop := connMeetsUptoRow.holds Try.pinned (OpenSpec.upto connMeetsSpec)

/-- 'packetboatkeep.ConnStops', WHERE WHAT IT READS IS OF BULK AT MOST 1048576: true; the input reads as it did. -/
def connStopsUptoRow : OpenClaim := { program := "ytnhcjefbiihfjab", sum := "a3bdbc474a7d8981a7a5071e603a9cd3d5b24d2c5f32422e03d17eafce1f679c", func := "packetboat/packetboatkeep.ConnStops", spec := "connStops", apart := false, narrowed := true }
def ConnStopsUptoSaid : Prop := connStopsUptoRow.holds Try.pinned (OpenSpec.upto connStopsSpec)

/-- 'packetboatkeep.ConnBreaks', WHERE WHAT IT READS IS OF BULK AT MOST 1048576: true; the input reads as it did. -/
def connBreaksUptoRow : OpenClaim := { program := "ytnhcjefbiihfjab", sum := "a3bdbc474a7d8981a7a5071e603a9cd3d5b24d2c5f32422e03d17eafce1f679c", func := "packetboat/packetboatkeep.ConnBreaks", spec := "connBreaks", apart := false, narrowed := true }
def ConnBreaksUptoSaid : Prop := connBreaksUptoRow.holds Try.pinned (OpenSpec.upto connBreaksSpec)

/-- 'packetboatkeep.ConnBoth', WHERE WHAT IT READS IS OF BULK AT MOST 1048576: true; the input reads as it did. -/
def connBothUptoRow : OpenClaim := { program := "ytnhcjefbiihfjab", sum := "a3bdbc474a7d8981a7a5071e603a9cd3d5b24d2c5f32422e03d17eafce1f679c", func := "packetboat/packetboatkeep.ConnBoth", spec := "connBoth", apart := false, narrowed := true }
def ConnBothUptoSaid : Prop := connBothUptoRow.holds Try.pinned (OpenSpec.upto connBothSpec)

end Rows
end Go.Proofs.Ytnhcjefbiihfjab
