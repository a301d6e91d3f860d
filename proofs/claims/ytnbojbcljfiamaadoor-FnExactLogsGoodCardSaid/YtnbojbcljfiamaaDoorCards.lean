/-
  DERIVED. GIVEN WITH THE SEED: THE CARDS: each row of YtnbojbcljfiamaaDoorRows.lean that lists a variable, with what it lists TIED to the program's text (the seventh form; the later family's looks); each row that meets fmt, with fmt's text TOLD by the authors' own Lean function (tested against real Go, not proved from fmt's source: count such statements apart). THE CARD IS WHAT COUNTS. Prove the row's statement (the work); the ties are given (YtnbojbcljfiamaaDoorTie.lean); close each card by the builder's one call (the guide's Derived/Test/ToyasCard.lean, 'card_holds'). Laid BY PROGRAM, IN A SANDBOX (cutbox-door.mjs). By AI agents, Wed Nov 11 2026. No macro, syntax, notation, axiom, sorry.
-/
import Derived.Test.YtnbojbcljfiamaaDoorRows
import GoSem.ClaimSeven
namespace Go.Proofs.YtnbojbcljfiamaaDoor
namespace Rows

/-- THE TIED CARD OF 'laws.FnExactLogsGood'. -/
def fnExactLogsGoodCard : Claim7 := { stood := { row := fnExactLogsGoodRow, standIns := [], harness := (true, "9e0a8421ca39144b1f5e4acb4537566f1573df299b695dd7b089b2611a9af407"), looks := true }, kinds := [], alts := [], laidByText := true, laidKinds := [.data, .data, .data], laidTests := true, laidLooks := .later }
def FnExactLogsGoodCardSaid : Prop := Claim7.holds Tryd.pinned (.plain (OpenSpec.ofChange fnExactLogsGoodSpec)) fnExactLogsGoodCard

/-- THE SECOND FORM's CARD OF 'laws.FnExactLogsGood'. -/
def fnExactLogsGoodUptoCard : Claim7 := { stood := { row := fnExactLogsGoodUptoRow, standIns := [], harness := (true, "9e0a8421ca39144b1f5e4acb4537566f1573df299b695dd7b089b2611a9af407"), looks := true }, kinds := [], alts := [], laidByText := true, laidKinds := [.data, .data, .data], laidTests := true, laidLooks := .later }
def FnExactLogsGoodUptoCardSaid : Prop := Claim7.holds Tryd.pinned (.plain (OpenSpec.upto fnExactLogsGoodSpec)) fnExactLogsGoodUptoCard
end Rows
end Go.Proofs.YtnbojbcljfiamaaDoor
