/-
  DERIVED. GIVEN WITH THE SEED: THE CARDS: each row of YtepoamekeackkaaDoorRows.lean that lists a variable, with what it lists TIED to the program's text (the seventh form; the later family's looks); each row that meets fmt, with fmt's text TOLD by the authors' own Lean function (tested against real Go, not proved from fmt's source: count such statements apart). THE CARD IS WHAT COUNTS. Prove the row's statement (the work); the ties are given (YtepoamekeackkaaDoorTie.lean); close each card by the builder's one call (the guide's Derived/Test/ToyasCard.lean, 'card_holds'). Laid BY PROGRAM, IN A SANDBOX (cutbox-door.mjs). By AI agents, Wed Nov 11 2026. No macro, syntax, notation, axiom, sorry.
-/
import Derived.Test.YtepoamekeackkaaDoorRows
import GoSem.ClaimSeven
namespace Go.Proofs.YtepoamekeackkaaDoor
namespace Rows

/-- THE TIED CARD OF 'laws.FnLogs'. -/
def fnLogsCard : Claim7 := { stood := { row := fnLogsRow, standIns := [], harness := (true, "12650750b9a10d25696aab914b9213d4189dcb5eaec79bc8c8cedef40ce78319"), looks := true }, kinds := [], alts := [], laidByText := true, laidKinds := [.data, .data, .data, .data, .pinned], laidTests := true, laidLooks := .later }
def FnLogsCardSaid : Prop := Claim7.holds Tryd.pinned (.plain (OpenSpec.ofChange fnLogsSpec)) fnLogsCard

/-- THE TIED CARD OF 'laws.FnExactGoodLog'. -/
def fnExactGoodLogCard : Claim7 := { stood := { row := fnExactGoodLogRow, standIns := [], harness := (true, "12650750b9a10d25696aab914b9213d4189dcb5eaec79bc8c8cedef40ce78319"), looks := true }, kinds := [], alts := [], laidByText := true, laidKinds := [.data, .data, .data], laidTests := true, laidLooks := .later }
def FnExactGoodLogCardSaid : Prop := Claim7.holds Tryd.pinned (.plain (OpenSpec.ofChange fnExactGoodLogSpec)) fnExactGoodLogCard

/-- THE TIED CARD OF 'laws.FnExactAppendNote'. -/
def fnExactAppendNoteCard : Claim7 := { stood := { row := fnExactAppendNoteRow, standIns := [], harness := (true, "12650750b9a10d25696aab914b9213d4189dcb5eaec79bc8c8cedef40ce78319"), looks := true }, kinds := [], alts := [], laidByText := true, laidKinds := [.data, .data, .data], laidTests := true, laidLooks := .later }
def FnExactAppendNoteCardSaid : Prop := Claim7.holds Tryd.pinned (.plain (OpenSpec.ofChange fnExactAppendNoteSpec)) fnExactAppendNoteCard

/-- THE TIED CARD OF 'laws.FnExactFirstBroken'. -/
def fnExactFirstBrokenCard : Claim7 := { stood := { row := fnExactFirstBrokenRow, standIns := [], harness := (true, "12650750b9a10d25696aab914b9213d4189dcb5eaec79bc8c8cedef40ce78319"), looks := true }, kinds := [], alts := [], laidByText := true, laidKinds := [.data, .data, .data], laidTests := true, laidLooks := .later }
def FnExactFirstBrokenCardSaid : Prop := Claim7.holds Tryd.pinned (.plain (OpenSpec.ofChange fnExactFirstBrokenSpec)) fnExactFirstBrokenCard

/-- THE TIED CARD OF 'laws.FnExactLogText'. -/
def fnExactLogTextCard : Claim7 := { stood := { row := fnExactLogTextRow, standIns := [], harness := (true, "12650750b9a10d25696aab914b9213d4189dcb5eaec79bc8c8cedef40ce78319"), looks := true }, kinds := [], alts := [], laidByText := true, laidKinds := [.data, .data, .data], laidTests := true, laidLooks := .later }
def FnExactLogTextCardSaid : Prop := Claim7.holds Tryd.pinned (.plain (OpenSpec.ofChange fnExactLogTextSpec)) fnExactLogTextCard

/-- THE SECOND FORM's CARD OF 'laws.FnLogs'. -/
def fnLogsUptoCard : Claim7 := { stood := { row := fnLogsUptoRow, standIns := [], harness := (true, "12650750b9a10d25696aab914b9213d4189dcb5eaec79bc8c8cedef40ce78319"), looks := true }, kinds := [], alts := [], laidByText := true, laidKinds := [.data, .data, .data, .data, .pinned], laidTests := true, laidLooks := .later }
def FnLogsUptoCardSaid : Prop := Claim7.holds Tryd.pinned (.plain (OpenSpec.upto fnLogsSpec)) fnLogsUptoCard

/-- THE SECOND FORM's CARD OF 'laws.FnExactGoodLog'. -/
def fnExactGoodLogUptoCard : Claim7 := { stood := { row := fnExactGoodLogUptoRow, standIns := [], harness := (true, "12650750b9a10d25696aab914b9213d4189dcb5eaec79bc8c8cedef40ce78319"), looks := true }, kinds := [], alts := [], laidByText := true, laidKinds := [.data, .data, .data], laidTests := true, laidLooks := .later }
def FnExactGoodLogUptoCardSaid : Prop := Claim7.holds Tryd.pinned (.plain (OpenSpec.upto fnExactGoodLogSpec)) fnExactGoodLogUptoCard

/-- THE SECOND FORM's CARD OF 'laws.FnExactAppendNote'. -/
def fnExactAppendNoteUptoCard : Claim7 := { stood := { row := fnExactAppendNoteUptoRow, standIns := [], harness := (true, "12650750b9a10d25696aab914b9213d4189dcb5eaec79bc8c8cedef40ce78319"), looks := true }, kinds := [], alts := [], laidByText := true, laidKinds := [.data, .data, .data], laidTests := true, laidLooks := .later }
def FnExactAppendNoteUptoCardSaid : Prop := Claim7.holds Tryd.pinned (.plain (OpenSpec.upto fnExactAppendNoteSpec)) fnExactAppendNoteUptoCard

/-- THE SECOND FORM's CARD OF 'laws.FnExactFirstBroken'. -/
def fnExactFirstBrokenUptoCard : Claim7 := { stood := { row := fnExactFirstBrokenUptoRow, standIns := [], harness := (true, "12650750b9a10d25696aab914b9213d4189dcb5eaec79bc8c8cedef40ce78319"), looks := true }, kinds := [], alts := [], laidByText := true, laidKinds := [.data, .data, .data], laidTests := true, laidLooks := .later }
def FnExactFirstBrokenUptoCardSaid : Prop := Claim7.holds Tryd.pinned (.plain (OpenSpec.upto fnExactFirstBrokenSpec)) fnExactFirstBrokenUptoCard

/-- THE SECOND FORM's CARD OF 'laws.FnExactLogText'. -/
def fnExactLogTextUptoCard : Claim7 := { stood := { row := fnExactLogTextUptoRow, standIns := [], harness := (true, "12650750b9a10d25696aab914b9213d4189dcb5eaec79bc8c8cedef40ce78319"), looks := true }, kinds := [], alts := [], laidByText := true, laidKinds := [.data, .data, .data], laidTests := true, laidLooks := .later }
def FnExactLogTextUptoCardSaid : Prop := Claim7.holds Tryd.pinned (.plain (OpenSpec.upto fnExactLogTextSpec)) fnExactLogTextUptoCard
end Rows
end Go.Proofs.YtepoamekeackkaaDoor
