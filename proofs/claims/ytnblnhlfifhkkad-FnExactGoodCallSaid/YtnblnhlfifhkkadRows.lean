/-
  No cell of these rows narrows 'for every input' (looked for: loops, veiled, ifaces, maps, wideKeys, modest, calm, conditions, laid).
  DERIVED. THE GIVEN ROWS OF THIS SEAT. 6 by the template 'for every input the law returns true; each argument reads behind the call as it read before'; 0 by the template 'total and deterministic' (their statements: YtnblnhlfifhkkadTotals.lean).
  GIVEN WITH THE SEED: the statements are not yours to turn. If you find one false, say at which input.
  Laid BY PROGRAM, IN A SANDBOX (cutbox-rows.mjs): the forced cells as the released guide's own fill.sh prints them over the translation f89b09fe02f60902… (all of the seat's roots in one cut). By AI agents, Wed Nov 11 2026. No macro, syntax, notation, axiom, sorry.
-/
import Derived.Test.YtnblnhlfifhkkadChecked
import GoSem.Claim
import GoSem.ClaimJoined
import GoSem.ClaimMapViews
import Derived.JoinedTies
import Derived.KernelRfl
namespace Go.Proofs.Ytnblnhlfifhkkad
/- THE CELL 'sum', in the pinned program and in every row, IS THE sha256 OF THE DUMP (.gsa) THAT YtnblnhlfifhkkadProg.lean LOADS. Nothing in Lean hashes anything: it is a label: what it is worth is what the hold of that sum in a sandbox is worth. -/
noncomputable def Try.pinned : Pinned := { name := "ytnblnhlfifhkkad", sum := "f89b09fe02f60902e28d175f663bec82bc1fa2133bb13380d7024b5818f38986", checked := Try.checked }
namespace Rows
def none {H : Type} : Left H := { results := [], args := [] }

/-- 'laws.FnExactCoversPath': WHATEVER THE INPUT: true; the input reads as it did. -/
def fnExactCoversPathSpec : ChangeSpec := { name := "fnExactCoversPath", fn := fun _ => fun
  | [d1, d2] => { results := [.lit (.bool true)], args := [d1, d2] }
  | _ => none }
def fnExactCoversPathRow : OpenClaim := { program := "ytnblnhlfifhkkad", sum := "f89b09fe02f60902e28d175f663bec82bc1fa2133bb13380d7024b5818f38986", func := "loop.example/g00167/laws.FnExactCoversPath", spec := "fnExactCoversPath", unfollowed := true, recurses := true, apart := false }
def FnExactCoversPathSaid : Prop := fnExactCoversPathRow.holds Try.pinned (OpenSpec.ofChange fnExactCoversPathSpec)

/-- ITS FALSE NEIGHBOUR: 'it returns false'. Refute it at one input. -/
def fnExactCoversPathWrong : ChangeSpec := { name := "fnExactCoversPath", fn := fun _ => fun
  | [d1, d2] => { results := [.lit (.bool false)], args := [d1, d2] }
  | _ => none }
def FnExactCoversPathWrongFalsely : Prop := fnExactCoversPathRow.holds Try.pinned (OpenSpec.ofChange fnExactCoversPathWrong)

/-- 'laws.FnExactCoversName': WHATEVER THE INPUT: true; the input reads as it did. -/
def fnExactCoversNameSpec : ChangeSpec := { name := "fnExactCoversName", fn := fun _ => fun
  | [d1, d2] => { results := [.lit (.bool true)], args := [d1, d2] }
  | _ => none }
def fnExactCoversNameRow : OpenClaim := { program := "ytnblnhlfifhkkad", sum := "f89b09fe02f60902e28d175f663bec82bc1fa2133bb13380d7024b5818f38986", func := "loop.example/g00167/laws.FnExactCoversName", spec := "fnExactCoversName", unfollowed := true, recurses := true, apart := false }
def FnExactCoversNameSaid : Prop := fnExactCoversNameRow.holds Try.pinned (OpenSpec.ofChange fnExactCoversNameSpec)

/-- ITS FALSE NEIGHBOUR: 'it returns false'. Refute it at one input. -/
def fnExactCoversNameWrong : ChangeSpec := { name := "fnExactCoversName", fn := fun _ => fun
  | [d1, d2] => { results := [.lit (.bool false)], args := [d1, d2] }
  | _ => none }
def FnExactCoversNameWrongFalsely : Prop := fnExactCoversNameRow.holds Try.pinned (OpenSpec.ofChange fnExactCoversNameWrong)

/-- 'laws.FnExactMeetPath': WHATEVER THE INPUT: true; the input reads as it did. -/
def fnExactMeetPathSpec : ChangeSpec := { name := "fnExactMeetPath", fn := fun _ => fun
  | [d1, d2] => { results := [.lit (.bool true)], args := [d1, d2] }
  | _ => none }
def fnExactMeetPathRow : OpenClaim := { program := "ytnblnhlfifhkkad", sum := "f89b09fe02f60902e28d175f663bec82bc1fa2133bb13380d7024b5818f38986", func := "loop.example/g00167/laws.FnExactMeetPath", spec := "fnExactMeetPath", unfollowed := true, recurses := true, apart := false }
def FnExactMeetPathSaid : Prop := fnExactMeetPathRow.holds Try.pinned (OpenSpec.ofChange fnExactMeetPathSpec)

/-- ITS FALSE NEIGHBOUR: 'it returns false'. Refute it at one input. -/
def fnExactMeetPathWrong : ChangeSpec := { name := "fnExactMeetPath", fn := fun _ => fun
  | [d1, d2] => { results := [.lit (.bool false)], args := [d1, d2] }
  | _ => none }
def FnExactMeetPathWrongFalsely : Prop := fnExactMeetPathRow.holds Try.pinned (OpenSpec.ofChange fnExactMeetPathWrong)

/-- 'laws.FnExactGoodRule': WHATEVER THE INPUT: true; the input reads as it did. -/
def fnExactGoodRuleSpec : ChangeSpec := { name := "fnExactGoodRule", fn := fun _ => fun
  | [d] => { results := [.lit (.bool true)], args := [d] }
  | _ => none }
def fnExactGoodRuleRow : OpenClaim := { program := "ytnblnhlfifhkkad", sum := "f89b09fe02f60902e28d175f663bec82bc1fa2133bb13380d7024b5818f38986", func := "loop.example/g00167/laws.FnExactGoodRule", spec := "fnExactGoodRule", unfollowed := true, recurses := true, apart := false }
def FnExactGoodRuleSaid : Prop := fnExactGoodRuleRow.holds Try.pinned (OpenSpec.ofChange fnExactGoodRuleSpec)

/-- ITS FALSE NEIGHBOUR: 'it returns false'. Refute it at one input. -/
def fnExactGoodRuleWrong : ChangeSpec := { name := "fnExactGoodRule", fn := fun _ => fun
  | [d] => { results := [.lit (.bool false)], args := [d] }
  | _ => none }
def FnExactGoodRuleWrongFalsely : Prop := fnExactGoodRuleRow.holds Try.pinned (OpenSpec.ofChange fnExactGoodRuleWrong)

/-- 'laws.FnExactGoodCall': WHATEVER THE INPUT: true; the input reads as it did. -/
def fnExactGoodCallSpec : ChangeSpec := { name := "fnExactGoodCall", fn := fun _ => fun
  | [d] => { results := [.lit (.bool true)], args := [d] }
  | _ => none }
def fnExactGoodCallRow : OpenClaim := { program := "ytnblnhlfifhkkad", sum := "f89b09fe02f60902e28d175f663bec82bc1fa2133bb13380d7024b5818f38986", func := "loop.example/g00167/laws.FnExactGoodCall", spec := "fnExactGoodCall", unfollowed := true, recurses := true, apart := false }
def FnExactGoodCallSaid : Prop := fnExactGoodCallRow.holds Try.pinned (OpenSpec.ofChange fnExactGoodCallSpec)

/-- ITS FALSE NEIGHBOUR: 'it returns false'. Refute it at one input. -/
def fnExactGoodCallWrong : ChangeSpec := { name := "fnExactGoodCall", fn := fun _ => fun
  | [d] => { results := [.lit (.bool false)], args := [d] }
  | _ => none }
def FnExactGoodCallWrongFalsely : Prop := fnExactGoodCallRow.holds Try.pinned (OpenSpec.ofChange fnExactGoodCallWrong)

/-- 'laws.FnExactRuleText': WHATEVER THE INPUT: true; the input reads as it did. -/
def fnExactRuleTextSpec : ChangeSpec := { name := "fnExactRuleText", fn := fun _ => fun
  | [d] => { results := [.lit (.bool true)], args := [d] }
  | _ => none }
def fnExactRuleTextRow : OpenClaim := { program := "ytnblnhlfifhkkad", sum := "f89b09fe02f60902e28d175f663bec82bc1fa2133bb13380d7024b5818f38986", func := "loop.example/g00167/laws.FnExactRuleText", spec := "fnExactRuleText", unfollowed := true, recurses := true, apart := false }
def FnExactRuleTextSaid : Prop := fnExactRuleTextRow.holds Try.pinned (OpenSpec.ofChange fnExactRuleTextSpec)

/-- ITS FALSE NEIGHBOUR: 'it returns false'. Refute it at one input. -/
def fnExactRuleTextWrong : ChangeSpec := { name := "fnExactRuleText", fn := fun _ => fun
  | [d] => { results := [.lit (.bool false)], args := [d] }
  | _ => none }
def FnExactRuleTextWrongFalsely : Prop := fnExactRuleTextRow.holds Try.pinned (OpenSpec.ofChange fnExactRuleTextWrong)

/- THE SECOND FORM. 'bulk': how many values and letters a reading holds, each counted each time it is reached (what is shared counts as often as it is met; a slice's spare places count too). A statement '..UptoSaid' is the law's where the arguments, and the package variables that the reading takes, are together of bulk at most 1048576: NARROWER than '..Said'. Prove '..Said' where nothing that the law and all that it calls make is longer than what came in: it says more and counts as full. Else prove '..UptoSaid'. A law counts once. -/
mutual
def uptoBulk {H : Type} : DataW H → Nat
  | .lit (.string bytes) => bytes.length + 1
  | .lit _ => 1
  | .nil => 1
  | .ptr d => uptoBulk d + 1
  | .slice elems spare => uptoBulkAll elems + uptoBulkAll spare + 1
  | .agg parts => uptoBulkAll parts + 1
  | .iface _ d => uptoBulk d + 1
  | .map entries => uptoBulkEntries entries + 1
  | .held _ => 1
def uptoBulkAll {H : Type} : List (DataW H) → Nat
  | [] => 0
  | d :: r => uptoBulk d + uptoBulkAll r
def uptoBulkEntries {H : Type} : List (Lit × DataW H) → Nat
  | [] => 0
  | x :: r => uptoBulkEntry x + uptoBulkEntries r
def uptoBulkEntry {H : Type} : Lit × DataW H → Nat
  | (.string bytes, d) => bytes.length + uptoBulk d + 1
  | (_, d) => uptoBulk d + 1
 end
def uptoSmall : (H : Type) → List (DataW H) → Bool := fun _ ds => decide (uptoBulkAll ds ≤ 1048576)
def OpenSpec.upto (s : _root_.Go.ChangeSpec) : _root_.Go.OpenSpec := { _root_.Go.OpenSpec.ofChange s with cond := some uptoSmall }

/-- 'laws.FnExactCoversPath', WHERE WHAT IT READS IS OF BULK AT MOST 1048576: true; the input reads as it did. -/
def fnExactCoversPathUptoRow : OpenClaim := { program := "ytnblnhlfifhkkad", sum := "f89b09fe02f60902e28d175f663bec82bc1fa2133bb13380d7024b5818f38986", func := "loop.example/g00167/laws.FnExactCoversPath", spec := "fnExactCoversPath", unfollowed := true, recurses := true, apart := false, narrowed := true }
def FnExactCoversPathUptoSaid : Prop := fnExactCoversPathUptoRow.holds Try.pinned (OpenSpec.upto fnExactCoversPathSpec)

/-- 'laws.FnExactCoversName', WHERE WHAT IT READS IS OF BULK AT MOST 1048576: true; the input reads as it did. -/
def fnExactCoversNameUptoRow : OpenClaim := { program := "ytnblnhlfifhkkad", sum := "f89b09fe02f60902e28d175f663bec82bc1fa2133bb13380d7024b5818f38986", func := "loop.example/g00167/laws.FnExactCoversName", spec := "fnExactCoversName", unfollowed := true, recurses := true, apart := false, narrowed := true }
def FnExactCoversNameUptoSaid : Prop := fnExactCoversNameUptoRow.holds Try.pinned (OpenSpec.upto fnExactCoversNameSpec)

/-- 'laws.FnExactMeetPath', WHERE WHAT IT READS IS OF BULK AT MOST 1048576: true; the input reads as it did. -/
def fnExactMeetPathUptoRow : OpenClaim := { program := "ytnblnhlfifhkkad", sum := "f89b09fe02f60902e28d175f663bec82bc1fa2133bb13380d7024b5818f38986", func := "loop.example/g00167/laws.FnExactMeetPath", spec := "fnExactMeetPath", unfollowed := true, recurses := true, apart := false, narrowed := true }
def FnExactMeetPathUptoSaid : Prop := fnExactMeetPathUptoRow.holds Try.pinned (OpenSpec.upto fnExactMeetPathSpec)

/-- 'laws.FnExactGoodRule', WHERE WHAT IT READS IS OF BULK AT MOST 1048576: true; the input reads as it did. -/
def fnExactGoodRuleUptoRow : OpenClaim := { program := "ytnblnhlfifhkkad", sum := "f89b09fe02f60902e28d175f663bec82bc1fa2133bb13380d7024b5818f38986", func := "loop.example/g00167/laws.FnExactGoodRule", spec := "fnExactGoodRule", unfollowed := true, recurses := true, apart := false, narrowed := true }
def FnExactGoodRuleUptoSaid : Prop := fnExactGoodRuleUptoRow.holds Try.pinned (OpenSpec.upto fnExactGoodRuleSpec)

/-- 'laws.FnExactGoodCall', WHERE WHAT IT READS IS OF BULK AT MOST 1048576: true; the input reads as it did. -/
def fnExactGoodCallUptoRow : OpenClaim := { program := "ytnblnhlfifhkkad", sum := "f89b09fe02f60902e28d175f663bec82bc1fa2133bb13380d7024b5818f38986", func := "loop.example/g00167/laws.FnExactGoodCall", spec := "fnExactGoodCall", unfollowed := true, recurses := true, apart := false, narrowed := true }
def FnExactGoodCallUptoSaid : Prop := fnExactGoodCallUptoRow.holds Try.pinned (OpenSpec.upto fnExactGoodCallSpec)

/-- 'laws.FnExactRuleText', WHERE WHAT IT READS IS OF BULK AT MOST 1048576: true; the input reads as it did. -/
def fnExactRuleTextUptoRow : OpenClaim := { program := "ytnblnhlfifhkkad", sum := "f89b09fe02f60902e28d175f663bec82bc1fa2133bb13380d7024b5818f38986", func := "loop.example/g00167/laws.FnExactRuleText", spec := "fnExactRuleText", unfollowed := true, recurses := true, apart := false, narrowed := true }
def FnExactRuleTextUptoSaid : Prop := fnExactRuleTextUptoRow.holds Try.pinned (OpenSpec.upto fnExactRuleTextSpec)

end Rows
end Go.Proofs.Ytnblnhlfifhkkad
