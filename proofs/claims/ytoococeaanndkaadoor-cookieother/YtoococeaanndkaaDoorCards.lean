/-
  DERIVED. GIVEN WITH THE SEED: THE CARDS: each row of YtoococeaanndkaaDoorRows.lean that lists a variable, with what it lists TIED to the program's text (the seventh form; the later family's looks); each row that meets fmt, with fmt's text TOLD by the authors' own Lean function (tested against real Go, not proved from fmt's source: count such statements apart). THE CARD IS WHAT COUNTS. Prove the row's statement (the work); the ties are given (YtoococeaanndkaaDoorTie.lean); close each card by the builder's one call (the guide's Derived/Test/ToyasCard.lean, 'card_holds'). Laid BY PROGRAM, IN A SANDBOX (cutbox-door.mjs). By AI agents, Wed Nov 11 2026. No macro, syntax, notation, axiom, sorry.
-/
import Derived.Test.YtoococeaanndkaaDoorRows
import GoSem.ClaimSeven
namespace Go.Proofs.YtoococeaanndkaaDoor
namespace Rows

/-- THE TIED CARD OF 'packetboatlaw.CookieMakes'. -/
def cookieMakesCard : Claim7 := { stood := { row := cookieMakesRow, standIns := [], harness := (true, "2eae8f552635686ea07ceb319a43393f768d1944a83a1b57bc9acafee13cd4dc"), looks := false }, kinds := [], alts := [], laidByText := true, laidKinds := [.data], laidTests := true, laidLooks := .later }
def CookieMakesCardSaid : Prop := Claim7.holds Tryd.pinned (.plain (OpenSpec.ofChange cookieMakesSpec)) cookieMakesCard

/-- THE TIED CARD OF 'packetboatlaw.CookieChecks'. -/
def cookieChecksCard : Claim7 := { stood := { row := cookieChecksRow, standIns := [], harness := (true, "2eae8f552635686ea07ceb319a43393f768d1944a83a1b57bc9acafee13cd4dc"), looks := false }, kinds := [], alts := [], laidByText := true, laidKinds := [.data], laidTests := true, laidLooks := .later }
def CookieChecksCardSaid : Prop := Claim7.holds Tryd.pinned (.plain (OpenSpec.ofChange cookieChecksSpec)) cookieChecksCard

/-- THE TIED CARD OF 'packetboatkeep.CookieBack'. -/
def cookieBackCard : Claim7 := { stood := { row := cookieBackRow, standIns := [], harness := (true, "2eae8f552635686ea07ceb319a43393f768d1944a83a1b57bc9acafee13cd4dc"), looks := false }, kinds := [], alts := [], laidByText := true, laidKinds := [.data], laidTests := true, laidLooks := .later }
def CookieBackCardSaid : Prop := Claim7.holds Tryd.pinned (.plain (OpenSpec.ofChange cookieBackSpec)) cookieBackCard

/-- THE TIED CARD OF 'packetboatkeep.CookieOther'. -/
def cookieOtherCard : Claim7 := { stood := { row := cookieOtherRow, standIns := [], harness := (true, "2eae8f552635686ea07ceb319a43393f768d1944a83a1b57bc9acafee13cd4dc"), looks := false }, kinds := [], alts := [], laidByText := true, laidKinds := [.data], laidTests := true, laidLooks := .later }
def CookieOtherCardSaid : Prop := Claim7.holds Tryd.pinned (.plain (OpenSpec.ofChange cookieOtherSpec)) cookieOtherCard

/-- THE SECOND FORM's CARD OF 'packetboatlaw.CookieMakes'. -/
def cookieMakesUptoCard : Claim7 := { stood := { row := cookieMakesUptoRow, standIns := [], harness := (true, "2eae8f552635686ea07ceb319a43393f768d1944a83a1b57bc9acafee13cd4dc"), looks := false }, kinds := [], alts := [], laidByText := true, laidKinds := [.data], laidTests := true, laidLooks := .later }
def CookieMakesUptoCardSaid : Prop := Claim7.holds Tryd.pinned (.plain (OpenSpec.upto cookieMakesSpec)) cookieMakesUptoCard

/-- THE SECOND FORM's CARD OF 'packetboatlaw.CookieChecks'. -/
def cookieChecksUptoCard : Claim7 := { stood := { row := cookieChecksUptoRow, standIns := [], harness := (true, "2eae8f552635686ea07ceb319a43393f768d1944a83a1b57bc9acafee13cd4dc"), looks := false }, kinds := [], alts := [], laidByText := true, laidKinds := [.data], laidTests := true, laidLooks := .later }
def CookieChecksUptoCardSaid : Prop := Claim7.holds Tryd.pinned (.plain (OpenSpec.upto cookieChecksSpec)) cookieChecksUptoCard

/-- THE SECOND FORM's CARD OF 'packetboatkeep.CookieBack'. -/
def cookieBackUptoCard : Claim7 := { stood := { row := cookieBackUptoRow, standIns := [], harness := (true, "2eae8f552635686ea07ceb319a43393f768d1944a83a1b57bc9acafee13cd4dc"), looks := false }, kinds := [], alts := [], laidByText := true, laidKinds := [.data], laidTests := true, laidLooks := .later }
def CookieBackUptoCardSaid : Prop := Claim7.holds Tryd.pinned (.plain (OpenSpec.upto cookieBackSpec)) cookieBackUptoCard

/-- THE SECOND FORM's CARD OF 'packetboatkeep.CookieOther'. -/
def cookieOtherUptoCard : Claim7 := { stood := { row := cookieOtherUptoRow, standIns := [], harness := (true, "2eae8f552635686ea07ceb319a43393f768d1944a83a1b57bc9acafee13cd4dc"), looks := false }, kinds := [], alts := [], laidByText := true, laidKinds := [.data], laidTests := true, laidLooks := .later }
def CookieOtherUptoCardSaid : Prop := Claim7.holds Tryd.pinned (.plain (OpenSpec.upto cookieOtherSpec)) cookieOtherUptoCard
end Rows
end Go.Proofs.YtoococeaanndkaaDoor
