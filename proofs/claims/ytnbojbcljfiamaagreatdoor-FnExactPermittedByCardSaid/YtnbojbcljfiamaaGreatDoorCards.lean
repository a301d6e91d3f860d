/-
  DERIVED. GIVEN WITH THE SEED: THE CARDS: each row of YtnbojbcljfiamaaGreatDoorRows.lean that lists a variable, with what it lists TIED to the program's text (the seventh form; the later family's looks); each row that meets fmt, with fmt's text TOLD by the authors' own Lean function (tested against real Go, not proved from fmt's source: count such statements apart). THE CARD IS WHAT COUNTS. Prove the row's statement (the work); the ties are given (YtnbojbcljfiamaaGreatDoorTie.lean); close each card by the builder's one call (the guide's Derived/Test/ToyasCard.lean, 'card_holds'). Laid BY PROGRAM, IN A SANDBOX (cutbox-door.mjs). By AI agents, Wed Nov 11 2026. No macro, syntax, notation, axiom, sorry.
-/
import Derived.Test.YtnbojbcljfiamaaGreatDoorRows
import GoSem.ClaimSeven
namespace Go.Proofs.YtnbojbcljfiamaaGreatDoor
namespace Rows

/-- THE TIED CARD OF 'laws.FnExactDecideAsk'. -/
def fnExactDecideAskCard : Claim7 := { stood := { row := fnExactDecideAskRow, standIns := [], harness := (true, "fb15e2e4f29dffb73f821b8f3e86fd77fd6c4f624b8368f36d3f2c23e86f197a"), looks := false }, kinds := [], alts := [], laidByText := true, laidKinds := [.data, .data, .data], laidTests := true, laidLooks := .later }
def FnExactDecideAskCardSaid : Prop := Claim7.holds Tryz.pinned (.plain (OpenSpec.ofChange fnExactDecideAskSpec)) fnExactDecideAskCard

/-- THE TIED CARD OF 'laws.FnExactPermittedBy'. -/
def fnExactPermittedByCard : Claim7 := { stood := { row := fnExactPermittedByRow, standIns := [], harness := (true, "fb15e2e4f29dffb73f821b8f3e86fd77fd6c4f624b8368f36d3f2c23e86f197a"), looks := false }, kinds := [], alts := [], laidByText := true, laidKinds := [.data, .data, .data], laidTests := true, laidLooks := .later }
def FnExactPermittedByCardSaid : Prop := Claim7.holds Tryz.pinned (.plain (OpenSpec.ofChange fnExactPermittedBySpec)) fnExactPermittedByCard

/-- THE SECOND FORM's CARD OF 'laws.FnExactDecideAsk'. -/
def fnExactDecideAskUptoCard : Claim7 := { stood := { row := fnExactDecideAskUptoRow, standIns := [], harness := (true, "fb15e2e4f29dffb73f821b8f3e86fd77fd6c4f624b8368f36d3f2c23e86f197a"), looks := false }, kinds := [], alts := [], laidByText := true, laidKinds := [.data, .data, .data], laidTests := true, laidLooks := .later }
def FnExactDecideAskUptoCardSaid : Prop := Claim7.holds Tryz.pinned (.plain (OpenSpec.upto fnExactDecideAskSpec)) fnExactDecideAskUptoCard

/-- THE SECOND FORM's CARD OF 'laws.FnExactPermittedBy'. -/
def fnExactPermittedByUptoCard : Claim7 := { stood := { row := fnExactPermittedByUptoRow, standIns := [], harness := (true, "fb15e2e4f29dffb73f821b8f3e86fd77fd6c4f624b8368f36d3f2c23e86f197a"), looks := false }, kinds := [], alts := [], laidByText := true, laidKinds := [.data, .data, .data], laidTests := true, laidLooks := .later }
def FnExactPermittedByUptoCardSaid : Prop := Claim7.holds Tryz.pinned (.plain (OpenSpec.upto fnExactPermittedBySpec)) fnExactPermittedByUptoCard
end Rows
end Go.Proofs.YtnbojbcljfiamaaGreatDoor
