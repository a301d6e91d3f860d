/-
  DERIVED. GIVEN WITH THE SEED: THE CARDS: each row of YtodkpoppgfomeaaGreatDoorRows.lean that lists a variable, with what it lists TIED to the program's text (the seventh form; the later family's looks); each row that meets fmt, with fmt's text TOLD by the authors' own Lean function (tested against real Go, not proved from fmt's source: count such statements apart). THE CARD IS WHAT COUNTS. Prove the row's statement (the work); the ties are given (YtodkpoppgfomeaaGreatDoorTie.lean); close each card by the builder's one call (the guide's Derived/Test/ToyasCard.lean, 'card_holds'). Laid BY PROGRAM, IN A SANDBOX (cutbox-door.mjs). By AI agents, Wed Nov 11 2026. No macro, syntax, notation, axiom, sorry.
-/
import Derived.Test.YtodkpoppgfomeaaGreatDoorRows
import GoSem.ClaimSeven
namespace Go.Proofs.YtodkpoppgfomeaaGreatDoor
namespace Rows

/-- THE TIED CARD OF 'laws.FnExactIssueToken'. -/
def fnExactIssueTokenCard : Claim7 := { stood := { row := fnExactIssueTokenRow, standIns := [], harness := (true, "0328f448aaf007126a64760a4085a56b4df8655505584fd262f986c94b522e33"), looks := true }, kinds := [], alts := [], laidByText := true, laidKinds := [.data, .data, .data, .handle, .sentinel, .sentinel, .sentinel, .sentinel], laidTests := true, laidLooks := .later }
def FnExactIssueTokenCardSaid : Prop := Claim7.holds Tryz.pinned (.plain (OpenSpec.ofChange fnExactIssueTokenSpec)) fnExactIssueTokenCard

/-- THE TIED CARD OF 'laws.FnExactHopToken'. -/
def fnExactHopTokenCard : Claim7 := { stood := { row := fnExactHopTokenRow, standIns := [], harness := (true, "0328f448aaf007126a64760a4085a56b4df8655505584fd262f986c94b522e33"), looks := true }, kinds := [], alts := [], laidByText := true, laidKinds := [.data, .data, .data, .handle, .sentinel, .sentinel, .sentinel, .sentinel], laidTests := true, laidLooks := .later }
def FnExactHopTokenCardSaid : Prop := Claim7.holds Tryz.pinned (.plain (OpenSpec.ofChange fnExactHopTokenSpec)) fnExactHopTokenCard

/-- THE TIED CARD OF 'laws.FnIssued'. -/
def fnIssuedCard : Claim7 := { stood := { row := fnIssuedRow, standIns := [], harness := (true, "0328f448aaf007126a64760a4085a56b4df8655505584fd262f986c94b522e33"), looks := true }, kinds := [], alts := [], laidByText := true, laidKinds := [.data, .data, .data, .handle, .sentinel, .sentinel, .sentinel, .sentinel], laidTests := true, laidLooks := .later }
def FnIssuedCardSaid : Prop := Claim7.holds Tryz.pinned (.plain (OpenSpec.ofChange fnIssuedSpec)) fnIssuedCard

/-- THE SECOND FORM's CARD OF 'laws.FnExactIssueToken'. -/
def fnExactIssueTokenUptoCard : Claim7 := { stood := { row := fnExactIssueTokenUptoRow, standIns := [], harness := (true, "0328f448aaf007126a64760a4085a56b4df8655505584fd262f986c94b522e33"), looks := true }, kinds := [], alts := [], laidByText := true, laidKinds := [.data, .data, .data, .handle, .sentinel, .sentinel, .sentinel, .sentinel], laidTests := true, laidLooks := .later }
def FnExactIssueTokenUptoCardSaid : Prop := Claim7.holds Tryz.pinned (.plain (OpenSpec.upto fnExactIssueTokenSpec)) fnExactIssueTokenUptoCard

/-- THE SECOND FORM's CARD OF 'laws.FnExactHopToken'. -/
def fnExactHopTokenUptoCard : Claim7 := { stood := { row := fnExactHopTokenUptoRow, standIns := [], harness := (true, "0328f448aaf007126a64760a4085a56b4df8655505584fd262f986c94b522e33"), looks := true }, kinds := [], alts := [], laidByText := true, laidKinds := [.data, .data, .data, .handle, .sentinel, .sentinel, .sentinel, .sentinel], laidTests := true, laidLooks := .later }
def FnExactHopTokenUptoCardSaid : Prop := Claim7.holds Tryz.pinned (.plain (OpenSpec.upto fnExactHopTokenSpec)) fnExactHopTokenUptoCard

/-- THE SECOND FORM's CARD OF 'laws.FnIssued'. -/
def fnIssuedUptoCard : Claim7 := { stood := { row := fnIssuedUptoRow, standIns := [], harness := (true, "0328f448aaf007126a64760a4085a56b4df8655505584fd262f986c94b522e33"), looks := true }, kinds := [], alts := [], laidByText := true, laidKinds := [.data, .data, .data, .handle, .sentinel, .sentinel, .sentinel, .sentinel], laidTests := true, laidLooks := .later }
def FnIssuedUptoCardSaid : Prop := Claim7.holds Tryz.pinned (.plain (OpenSpec.upto fnIssuedSpec)) fnIssuedUptoCard
end Rows
end Go.Proofs.YtodkpoppgfomeaaGreatDoor
