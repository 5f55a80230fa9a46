/-
  NARROWER THAN 'FOR EVERY INPUT', by the rows' own cells (each row's printed sentence says how): CookieMakes: laid · CookieChecks: laid · CookieBack: laid · CookieOther: laid.
  DERIVED. THE GIVEN ROWS OF THIS SEAT. 4 by the template 'for every input the law returns true; each argument reads behind the call as it read before'; 0 by the template 'total and deterministic' (their statements: YtoococeaanndkaaDoorTotals.lean).
  GIVEN WITH THE SEED: the statements are not yours to turn. If you find one false, say at which input.
  Laid BY PROGRAM, IN A SANDBOX (cutbox-rows.mjs): the forced cells as the released guide's own fill.sh prints them over the translation 2ce21ddc970f512b… (all of the seat's roots in one cut). By AI agents, Wed Nov 11 2026. No macro, syntax, notation, axiom, sorry.
-/
import Derived.Test.YtoococeaanndkaaDoorChecked
import GoSem.Claim
import GoSem.ClaimJoined
import GoSem.ClaimMapViews
import Derived.JoinedTies
import Derived.KernelRfl
namespace Go.Proofs.YtoococeaanndkaaDoor
/- THE CELL 'sum', in the pinned program and in every row, IS THE sha256 OF THE DUMP (.gsa) THAT YtoococeaanndkaaDoorProg.lean LOADS. Nothing in Lean hashes anything: it is a label: what it is worth is what the hold of that sum in a sandbox is worth. -/
noncomputable def Tryd.pinned : Pinned := { name := "ytoococeaanndkaadoor", sum := "2ce21ddc970f512b1dd356e2e6de962409463b0fe9dc3c0e87d727860ae803f9", checked := Tryd.checked }
namespace Rows
def none {H : Type} : Left H := { results := [], args := [] }

/- WHAT THE LISTED PACKAGE-LEVEL VARIABLES READ AS WHEN THE CALL BEGINS. Each datum BY PROGRAM (the guide's laid-datum.mjs) off the statement by which the dump's own 'gosem.cut.vars' lays the variable. In a bare row this is a premise. The card (YtoococeaanndkaaDoorCards.lean) ties it to the program's text. -/
def laid_packetboat_cookie_steps {H : Type} : DataW H := .agg [.lit (.int .i64 8), .lit (.int .i64 64), .lit (.int .i64 216), .lit (.int .i64 400), .lit (.int .i64 536), .lit (.int .i64 700), .lit (.int .i64 850), .lit (.int .i64 1000)]

/-- 'packetboatlaw.CookieMakes': WHATEVER THE INPUT: true; the input reads as it did. -/
def cookieMakesSpec : ChangeSpec := { name := "cookieMakes", fn := fun _ => fun
  | [d1, d2, d3, d4, d5, d6, d7] => { results := [.lit (.bool true)], args := [d1, d2, d3, d4, d5, d6, d7] }
  | _ => none }
def cookieMakesRow : OpenClaim := { program := "ytoococeaanndkaadoor", sum := "2ce21ddc970f512b1dd356e2e6de962409463b0fe9dc3c0e87d727860ae803f9", func := "packetboat/packetboatlaw.CookieMakes", spec := "cookieMakes", unfollowed := true, recurses := true, named := ["packetboat/cookie.steps"], apart := false, laid := [("packetboat/cookie.steps", laid_packetboat_cookie_steps)] }
def CookieMakesSaid : Prop := cookieMakesRow.holds Tryd.pinned (OpenSpec.ofChange cookieMakesSpec)

/-- ITS FALSE NEIGHBOUR: 'it returns false'. Refute it at one input. -/
def cookieMakesWrong : ChangeSpec := { name := "cookieMakes", fn := fun _ => fun
  | [d1, d2, d3, d4, d5, d6, d7] => { results := [.lit (.bool false)], args := [d1, d2, d3, d4, d5, d6, d7] }
  | _ => none }
def CookieMakesWrongFalsely : Prop := cookieMakesRow.holds Tryd.pinned (OpenSpec.ofChange cookieMakesWrong)

/-- 'packetboatlaw.CookieChecks': WHATEVER THE INPUT: true; the input reads as it did. -/
def cookieChecksSpec : ChangeSpec := { name := "cookieChecks", fn := fun _ => fun
  | [d1, d2, d3, d4, d5, d6, d7] => { results := [.lit (.bool true)], args := [d1, d2, d3, d4, d5, d6, d7] }
  | _ => none }
def cookieChecksRow : OpenClaim := { program := "ytoococeaanndkaadoor", sum := "2ce21ddc970f512b1dd356e2e6de962409463b0fe9dc3c0e87d727860ae803f9", func := "packetboat/packetboatlaw.CookieChecks", spec := "cookieChecks", unfollowed := true, recurses := true, named := ["packetboat/cookie.steps"], apart := false, laid := [("packetboat/cookie.steps", laid_packetboat_cookie_steps)] }
def CookieChecksSaid : Prop := cookieChecksRow.holds Tryd.pinned (OpenSpec.ofChange cookieChecksSpec)

/-- ITS FALSE NEIGHBOUR: 'it returns false'. Refute it at one input. -/
def cookieChecksWrong : ChangeSpec := { name := "cookieChecks", fn := fun _ => fun
  | [d1, d2, d3, d4, d5, d6, d7] => { results := [.lit (.bool false)], args := [d1, d2, d3, d4, d5, d6, d7] }
  | _ => none }
def CookieChecksWrongFalsely : Prop := cookieChecksRow.holds Tryd.pinned (OpenSpec.ofChange cookieChecksWrong)

/-- 'packetboatkeep.CookieBack': WHATEVER THE INPUT: true; the input reads as it did. -/
def cookieBackSpec : ChangeSpec := { name := "cookieBack", fn := fun _ => fun
  | [d1, d2, d3, d4, d5, d6, d7, d8] => { results := [.lit (.bool true)], args := [d1, d2, d3, d4, d5, d6, d7, d8] }
  | _ => none }
def cookieBackRow : OpenClaim := { program := "ytoococeaanndkaadoor", sum := "2ce21ddc970f512b1dd356e2e6de962409463b0fe9dc3c0e87d727860ae803f9", func := "packetboat/packetboatkeep.CookieBack", spec := "cookieBack", named := ["packetboat/cookie.steps"], apart := false, laid := [("packetboat/cookie.steps", laid_packetboat_cookie_steps)] }
def CookieBackSaid : Prop := cookieBackRow.holds Tryd.pinned (OpenSpec.ofChange cookieBackSpec)

/-- ITS FALSE NEIGHBOUR: 'it returns false'. Refute it at one input. -/
def cookieBackWrong : ChangeSpec := { name := "cookieBack", fn := fun _ => fun
  | [d1, d2, d3, d4, d5, d6, d7, d8] => { results := [.lit (.bool false)], args := [d1, d2, d3, d4, d5, d6, d7, d8] }
  | _ => none }
def CookieBackWrongFalsely : Prop := cookieBackRow.holds Tryd.pinned (OpenSpec.ofChange cookieBackWrong)

/-- 'packetboatkeep.CookieOther': WHATEVER THE INPUT: true; the input reads as it did. -/
def cookieOtherSpec : ChangeSpec := { name := "cookieOther", fn := fun _ => fun
  | [d1, d2, d3, d4, d5, d6, d7, d8] => { results := [.lit (.bool true)], args := [d1, d2, d3, d4, d5, d6, d7, d8] }
  | _ => none }
def cookieOtherRow : OpenClaim := { program := "ytoococeaanndkaadoor", sum := "2ce21ddc970f512b1dd356e2e6de962409463b0fe9dc3c0e87d727860ae803f9", func := "packetboat/packetboatkeep.CookieOther", spec := "cookieOther", named := ["packetboat/cookie.steps"], apart := false, laid := [("packetboat/cookie.steps", laid_packetboat_cookie_steps)] }
def CookieOtherSaid : Prop := cookieOtherRow.holds Tryd.pinned (OpenSpec.ofChange cookieOtherSpec)

/-- ITS FALSE NEIGHBOUR: 'it returns false'. Refute it at one input. -/
def cookieOtherWrong : ChangeSpec := { name := "cookieOther", fn := fun _ => fun
  | [d1, d2, d3, d4, d5, d6, d7, d8] => { results := [.lit (.bool false)], args := [d1, d2, d3, d4, d5, d6, d7, d8] }
  | _ => none }
def CookieOtherWrongFalsely : Prop := cookieOtherRow.holds Tryd.pinned (OpenSpec.ofChange cookieOtherWrong)

/- THE SECOND FORM. 'bulk': how many values and letters a reading holds, each counted each time it is reached (what is shared counts as often as it is met; a slice's spare places count too). A statement '..UptoSaid' is the law's where the arguments, and the package variables that the reading takes, are together of bulk at most 1048576: NARROWER than '..Said'. Prove '..Said' where nothing that the law and all that it calls make is longer than what came in: it says more and counts as full. Else prove '..UptoSaid'. A law counts once. -/
mutual
def uptoBulk {H : Type} : DataW H → Nat
  | .lit (.string bytes) => bytes.length + 1
  | .lit _ => 1
  | .nil => 1
  | .ptr d => uptoBulk d + 1
  | .slice elems spare => uptoBulkAll elems + uptoBulkAll spare + 1
  | .agg parts => uptoBulkAll parts + 1
  | .iface _ d => uptoBulk d + 1
  | .map entries => uptoBulkEntries entries + 1
  | .held _ => 1
def uptoBulkAll {H : Type} : List (DataW H) → Nat
  | [] => 0
  | d :: r => uptoBulk d + uptoBulkAll r
def uptoBulkEntries {H : Type} : List (Lit × DataW H) → Nat
  | [] => 0
  | x :: r => uptoBulkEntry x + uptoBulkEntries r
def uptoBulkEntry {H : Type} : Lit × DataW H → Nat
  | (.string bytes, d) => bytes.length + uptoBulk d + 1
  | (_, d) => uptoBulk d + 1
 end
def uptoSmall : (H : Type) → List (DataW H) → Bool := fun _ ds => decide (uptoBulkAll ds ≤ 1048576)
def OpenSpec.upto (s : _root_.Go.ChangeSpec) : _root_.Go.OpenSpec := { _root_.Go.OpenSpec.ofChange s with cond := some uptoSmall }

/-- 'packetboatlaw.CookieMakes', WHERE WHAT IT READS IS OF BULK AT MOST 1048576: true; the input reads as it did. -/
def cookieMakesUptoRow : OpenClaim := { program := "ytoococeaanndkaadoor", sum := "2ce21ddc970f512b1dd356e2e6de962409463b0fe9dc3c0e87d727860ae803f9", func := "packetboat/packetboatlaw.CookieMakes", spec := "cookieMakes", unfollowed := true, recurses := true, named := ["packetboat/cookie.steps"], apart := false, laid := [("packetboat/cookie.steps", laid_packetboat_cookie_steps)], narrowed := true }
def CookieMakesUptoSaid : Prop := cookieMakesUptoRow.holds Tryd.pinned (OpenSpec.upto cookieMakesSpec)

/-- 'packetboatlaw.CookieChecks', WHERE WHAT IT READS IS OF BULK AT MOST 1048576: true; the input reads as it did. -/
def cookieChecksUptoRow : OpenClaim := { program := "ytoococeaanndkaadoor", sum := "2ce21ddc970f512b1dd356e2e6de962409463b0fe9dc3c0e87d727860ae803f9", func := "packetboat/packetboatlaw.CookieChecks", spec := "cookieChecks", unfollowed := true, recurses := true, named := ["packetboat/cookie.steps"], apart := false, laid := [("packetboat/cookie.steps", laid_packetboat_cookie_steps)], narrowed := true }
def CookieChecksUptoSaid : Prop := cookieChecksUptoRow.holds Tryd.pinned (OpenSpec.upto cookieChecksSpec)

/-- 'packetboatkeep.CookieBack', WHERE WHAT IT READS IS OF BULK AT MOST 1048576: true; the input reads as it did. -/
def cookieBackUptoRow : OpenClaim := { program := "ytoococeaanndkaadoor", sum := "2ce21ddc970f512b1dd356e2e6de962409463b0fe9dc3c0e87d727860ae803f9", func := "packetboat/packetboatkeep.CookieBack", spec := "cookieBack", named := ["packetboat/cookie.steps"], apart := false, laid := [("packetboat/cookie.steps", laid_packetboat_cookie_steps)], narrowed := true }
def CookieBackUptoSaid : Prop := cookieBackUptoRow.holds Tryd.pinned (OpenSpec.upto cookieBackSpec)

/-- 'packetboatkeep.CookieOther', WHERE WHAT IT READS IS OF BULK AT MOST 1048576: true; the input reads as it did. -/
def cookieOtherUptoRow : OpenClaim := { program := "ytoococeaanndkaadoor", sum := "2ce21ddc970f512b1dd356e2e6de962409463b0fe9dc3c0e87d727860ae803f9", func := "packetboat/packetboatkeep.CookieOther", spec := "cookieOther", named := ["packetboat/cookie.steps"], apart := false, laid := [("packetboat/cookie.steps", laid_packetboat_cookie_steps)], narrowed := true }
def CookieOtherUptoSaid : Prop := cookieOtherUptoRow.holds Tryd.pinned (OpenSpec.upto cookieOtherSpec)

end Rows
end Go.Proofs.YtoococeaanndkaaDoor
