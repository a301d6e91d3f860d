/-
  DERIVED. GIVEN WITH THE SEED: THE CARDS: each row of YtfchmhcnejifhaaDoorRows.lean that lists a variable, with what it lists TIED to the program's text (the seventh form; the later family's looks); each row that meets fmt, with fmt's text TOLD by the authors' own Lean function (tested against real Go, not proved from fmt's source: count such statements apart). THE CARD IS WHAT COUNTS. Prove the row's statement (the work); the ties are given (YtfchmhcnejifhaaDoorTie.lean); close each card by the builder's one call (the guide's Derived/Test/ToyasCard.lean, 'card_holds'). Laid BY PROGRAM, IN A SANDBOX (cutbox-door.mjs). By AI agents, Wed Nov 11 2026. No macro, syntax, notation, axiom, sorry.
-/
import Derived.Test.YtfchmhcnejifhaaDoorRows
import GoSem.ClaimSeven
namespace Go.Proofs.YtfchmhcnejifhaaDoor
namespace Rows

/-- THE TIED CARD OF 'laws.FnExactEnrolWork'. -/
def fnExactEnrolWorkCard : Claim7 := { stood := { row := fnExactEnrolWorkRow, standIns := [], harness := (true, "da958273cad7475e54bb86a829b03df46274b8036d13c52d2a16baba0c92c004"), looks := true }, kinds := [], alts := [], laidByText := true, laidKinds := [.handle, .sentinel, .sentinel, .sentinel, .sentinel], laidTests := true, laidLooks := .later }
def FnExactEnrolWorkCardSaid : Prop := Claim7.holds Tryd.pinned (.plain (OpenSpec.ofChange fnExactEnrolWorkSpec)) fnExactEnrolWorkCard

/-- THE TIED CARD OF 'laws.FnExactRevokeWork'. -/
def fnExactRevokeWorkCard : Claim7 := { stood := { row := fnExactRevokeWorkRow, standIns := [], harness := (true, "da958273cad7475e54bb86a829b03df46274b8036d13c52d2a16baba0c92c004"), looks := true }, kinds := [], alts := [], laidByText := true, laidKinds := [.handle, .sentinel, .sentinel, .sentinel, .sentinel], laidTests := true, laidLooks := .later }
def FnExactRevokeWorkCardSaid : Prop := Claim7.holds Tryd.pinned (.plain (OpenSpec.ofChange fnExactRevokeWorkSpec)) fnExactRevokeWorkCard

/-- THE SECOND FORM's CARD OF 'laws.FnExactEnrolWork'. -/
def fnExactEnrolWorkUptoCard : Claim7 := { stood := { row := fnExactEnrolWorkUptoRow, standIns := [], harness := (true, "da958273cad7475e54bb86a829b03df46274b8036d13c52d2a16baba0c92c004"), looks := true }, kinds := [], alts := [], laidByText := true, laidKinds := [.handle, .sentinel, .sentinel, .sentinel, .sentinel], laidTests := true, laidLooks := .later }
def FnExactEnrolWorkUptoCardSaid : Prop := Claim7.holds Tryd.pinned (.plain (OpenSpec.upto fnExactEnrolWorkSpec)) fnExactEnrolWorkUptoCard

/-- THE SECOND FORM's CARD OF 'laws.FnExactRevokeWork'. -/
def fnExactRevokeWorkUptoCard : Claim7 := { stood := { row := fnExactRevokeWorkUptoRow, standIns := [], harness := (true, "da958273cad7475e54bb86a829b03df46274b8036d13c52d2a16baba0c92c004"), looks := true }, kinds := [], alts := [], laidByText := true, laidKinds := [.handle, .sentinel, .sentinel, .sentinel, .sentinel], laidTests := true, laidLooks := .later }
def FnExactRevokeWorkUptoCardSaid : Prop := Claim7.holds Tryd.pinned (.plain (OpenSpec.upto fnExactRevokeWorkSpec)) fnExactRevokeWorkUptoCard
end Rows
end Go.Proofs.YtfchmhcnejifhaaDoor
