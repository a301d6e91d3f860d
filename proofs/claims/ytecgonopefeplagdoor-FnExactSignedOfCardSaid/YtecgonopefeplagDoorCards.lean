/-
  DERIVED. GIVEN WITH THE SEED: THE CARDS: each row of YtecgonopefeplagDoorRows.lean that lists a variable, with what it lists TIED to the program's text (the seventh form; the later family's looks); each row that meets fmt, with fmt's text TOLD by the authors' own Lean function (tested against real Go, not proved from fmt's source: count such statements apart). THE CARD IS WHAT COUNTS. Prove the row's statement (the work); the ties are given (YtecgonopefeplagDoorTie.lean); close each card by the builder's one call (the guide's Derived/Test/ToyasCard.lean, 'card_holds'). Laid BY PROGRAM, IN A SANDBOX (cutbox-door.mjs). By AI agents, Wed Nov 11 2026. No macro, syntax, notation, axiom, sorry.
-/
import Derived.Test.YtecgonopefeplagDoorRows
import GoSem.ClaimSeven
namespace Go.Proofs.YtecgonopefeplagDoor
namespace Rows

/-- THE TIED CARD OF 'laws.FnExactSignedOf'. -/
def fnExactSignedOfCard : Claim7 := { stood := { row := fnExactSignedOfRow, standIns := [], harness := (true, "10fb332597f46dce8f6ef6f5d402393a5866276661eb7a828267adcca313258b"), looks := false }, kinds := [], alts := [], laidByText := true, laidKinds := [.data, .data, .data], laidTests := true, laidLooks := .later }
def FnExactSignedOfCardSaid : Prop := Claim7.holds Tryd.pinned (.plain (OpenSpec.ofChange fnExactSignedOfSpec)) fnExactSignedOfCard

/-- THE SECOND FORM's CARD OF 'laws.FnExactSignedOf'. -/
def fnExactSignedOfUptoCard : Claim7 := { stood := { row := fnExactSignedOfUptoRow, standIns := [], harness := (true, "10fb332597f46dce8f6ef6f5d402393a5866276661eb7a828267adcca313258b"), looks := false }, kinds := [], alts := [], laidByText := true, laidKinds := [.data, .data, .data], laidTests := true, laidLooks := .later }
def FnExactSignedOfUptoCardSaid : Prop := Claim7.holds Tryd.pinned (.plain (OpenSpec.upto fnExactSignedOfSpec)) fnExactSignedOfUptoCard
end Rows
end Go.Proofs.YtecgonopefeplagDoor
