/-
  NARROWER THAN 'FOR EVERY INPUT', by the rows' own cells (each row's printed sentence says how): FnExactEnrolWork: ifaces, laid · FnExactRevokeWork: ifaces, laid.
  DERIVED. THE GIVEN ROWS OF THIS SEAT. 2 by the template 'for every input the law returns true; each argument reads behind the call as it read before'; 0 by the template 'total and deterministic' (their statements: YtfchmhcnejifhaaDoorTotals.lean).
  GIVEN WITH THE SEED: the statements are not yours to turn. If you find one false, say at which input.
  Laid BY PROGRAM, IN A SANDBOX (cutbox-rows.mjs): the forced cells as the released guide's own fill.sh prints them over the translation f615e71fe0afa6be… (all of the seat's roots in one cut). By AI agents, Wed Nov 11 2026. No macro, syntax, notation, axiom, sorry.
-/
import Derived.Test.YtfchmhcnejifhaaDoorChecked
import GoSem.Claim
import GoSem.ClaimJoined
import GoSem.ClaimMapViews
import Derived.JoinedTies
import Derived.KernelRfl
namespace Go.Proofs.YtfchmhcnejifhaaDoor
/- THE CELL 'sum', in the pinned program and in every row, IS THE sha256 OF THE DUMP (.gsa) THAT YtfchmhcnejifhaaDoorProg.lean LOADS. Nothing in Lean hashes anything: it is a label: what it is worth is what the hold of that sum in a sandbox is worth. -/
noncomputable def Tryd.pinned : Pinned := { name := "ytfchmhcnejifhaadoor", sum := "f615e71fe0afa6be9e7eda6dc47f16bd605d2e8c94c133e5354c8caf9bb1c614", checked := Tryd.checked }
namespace Rows
def none {H : Type} : Left H := { results := [], args := [] }

/- WHAT THE LISTED PACKAGE-LEVEL VARIABLES READ AS WHEN THE CALL BEGINS. Each datum BY PROGRAM (the guide's laid-datum.mjs) off the statement by which the dump's own 'gosem.cut.vars' lays the variable. In a bare row this is a premise. The card (YtfchmhcnejifhaaDoorCards.lean) ties it to the program's text. -/
def laid_errors_errorType {H : Type} : DataW H := .iface "internal/reflectlite.rtype" (.agg [.ptr (.lit (.string [101, 114, 114, 111, 114]))])
def laid_loop_example_g00167_impl_errNotGood {H : Type} : DataW H := .iface "*errors.errorString" (.ptr (.agg [.lit (.string [119, 104, 97, 116, 32, 119, 97, 115, 32, 104, 97, 110, 100, 101, 100, 32, 105, 110, 32, 105, 115, 32, 110, 111, 116, 32, 103, 111, 111, 100])]))
def laid_loop_example_g00167_impl_errTwice {H : Type} : DataW H := .iface "*errors.errorString" (.ptr (.agg [.lit (.string [116, 104, 101, 32, 119, 111, 114, 107, 32, 105, 115, 32, 116, 104, 101, 114, 101, 32, 97, 110, 100, 32, 108, 105, 118, 101])]))
def laid_loop_example_g00167_impl_errNoWork {H : Type} : DataW H := .iface "*errors.errorString" (.ptr (.agg [.lit (.string [110, 111, 32, 115, 117, 99, 104, 32, 119, 111, 114, 107, 32, 105, 115, 32, 108, 105, 118, 101])]))
def laid_loop_example_g00167_impl_errFull {H : Type} : DataW H := .iface "*errors.errorString" (.ptr (.agg [.lit (.string [110, 111, 32, 109, 111, 114, 101, 32, 102, 105, 116])]))

/-- 'laws.FnExactEnrolWork': WHATEVER THE INPUT: true; the input reads as it did. -/
def fnExactEnrolWorkSpec : ChangeSpec := { name := "fnExactEnrolWork", vars := ["loop.example/g00167/impl.errNotGood", "loop.example/g00167/impl.errTwice", "loop.example/g00167/impl.errFull", "loop.example/g00167/impl.errNoWork"], fn := fun _ => fun
  | [d1, d2, g1, g2, g3, g4] => { results := [.lit (.bool true)], args := [d1, d2], vars := [g1, g2, g3, g4] }
  | _ => none }
def fnExactEnrolWorkRow : OpenClaim := { program := "ytfchmhcnejifhaadoor", sum := "f615e71fe0afa6be9e7eda6dc47f16bd605d2e8c94c133e5354c8caf9bb1c614", func := "loop.example/g00167/laws.FnExactEnrolWork", spec := "fnExactEnrolWork", inPlace := ["internal/reflectlite.ValueOf", "(internal/reflectlite.Value).Type", "(internal/reflectlite.Value).IsNil", "internal/reflectlite.TypeOf", "(internal/reflectlite.Value).Elem", "(internal/reflectlite.Value).Set", "slices.overlaps[loop.example/g00167/impl.Work]"], unfollowed := true, recurses := true, named := ["loop.example/g00167/impl.errNotGood", "loop.example/g00167/impl.errTwice", "loop.example/g00167/impl.errFull", "errors.errorType", "loop.example/g00167/impl.errNoWork"], ifaces := true, apart := false, laid := [("errors.errorType", laid_errors_errorType), ("loop.example/g00167/impl.errNotGood", laid_loop_example_g00167_impl_errNotGood), ("loop.example/g00167/impl.errTwice", laid_loop_example_g00167_impl_errTwice), ("loop.example/g00167/impl.errNoWork", laid_loop_example_g00167_impl_errNoWork), ("loop.example/g00167/impl.errFull", laid_loop_example_g00167_impl_errFull)] }
def FnExactEnrolWorkSaid : Prop := fnExactEnrolWorkRow.holds Tryd.pinned (OpenSpec.ofChange fnExactEnrolWorkSpec)

/-- ITS FALSE NEIGHBOUR: 'it returns false'. Refute it at one input. -/
def fnExactEnrolWorkWrong : ChangeSpec := { name := "fnExactEnrolWork", vars := ["loop.example/g00167/impl.errNotGood", "loop.example/g00167/impl.errTwice", "loop.example/g00167/impl.errFull", "loop.example/g00167/impl.errNoWork"], fn := fun _ => fun
  | [d1, d2, g1, g2, g3, g4] => { results := [.lit (.bool false)], args := [d1, d2], vars := [g1, g2, g3, g4] }
  | _ => none }
def FnExactEnrolWorkWrongFalsely : Prop := fnExactEnrolWorkRow.holds Tryd.pinned (OpenSpec.ofChange fnExactEnrolWorkWrong)

/-- 'laws.FnExactRevokeWork': WHATEVER THE INPUT: true; the input reads as it did. -/
def fnExactRevokeWorkSpec : ChangeSpec := { name := "fnExactRevokeWork", vars := ["loop.example/g00167/impl.errNotGood", "loop.example/g00167/impl.errNoWork", "loop.example/g00167/impl.errTwice", "loop.example/g00167/impl.errFull"], fn := fun _ => fun
  | [d1, d2, g1, g2, g3, g4] => { results := [.lit (.bool true)], args := [d1, d2], vars := [g1, g2, g3, g4] }
  | _ => none }
def fnExactRevokeWorkRow : OpenClaim := { program := "ytfchmhcnejifhaadoor", sum := "f615e71fe0afa6be9e7eda6dc47f16bd605d2e8c94c133e5354c8caf9bb1c614", func := "loop.example/g00167/laws.FnExactRevokeWork", spec := "fnExactRevokeWork", inPlace := ["internal/reflectlite.ValueOf", "(internal/reflectlite.Value).Type", "(internal/reflectlite.Value).IsNil", "internal/reflectlite.TypeOf", "(internal/reflectlite.Value).Elem", "(internal/reflectlite.Value).Set", "slices.overlaps[int]"], unfollowed := true, recurses := true, named := ["loop.example/g00167/impl.errNotGood", "loop.example/g00167/impl.errNoWork", "errors.errorType", "loop.example/g00167/impl.errTwice", "loop.example/g00167/impl.errFull"], ifaces := true, apart := false, laid := [("errors.errorType", laid_errors_errorType), ("loop.example/g00167/impl.errNotGood", laid_loop_example_g00167_impl_errNotGood), ("loop.example/g00167/impl.errTwice", laid_loop_example_g00167_impl_errTwice), ("loop.example/g00167/impl.errNoWork", laid_loop_example_g00167_impl_errNoWork), ("loop.example/g00167/impl.errFull", laid_loop_example_g00167_impl_errFull)] }
def FnExactRevokeWorkSaid : Prop := fnExactRevokeWorkRow.holds Tryd.pinned (OpenSpec.ofChange fnExactRevokeWorkSpec)

/-- ITS FALSE NEIGHBOUR: 'it returns false'. Refute it at one input. -/
def fnExactRevokeWorkWrong : ChangeSpec := { name := "fnExactRevokeWork", vars := ["loop.example/g00167/impl.errNotGood", "loop.example/g00167/impl.errNoWork", "loop.example/g00167/impl.errTwice", "loop.example/g00167/impl.errFull"], fn := fun _ => fun
  | [d1, d2, g1, g2, g3, g4] => { results := [.lit (.bool false)], args := [d1, d2], vars := [g1, g2, g3, g4] }
  | _ => none }
def FnExactRevokeWorkWrongFalsely : Prop := fnExactRevokeWorkRow.holds Tryd.pinned (OpenSpec.ofChange fnExactRevokeWorkWrong)

/- THE SECOND FORM. 'bulk': how many values and letters a reading holds, each counted each time it is reached (what is shared counts as often as it is met; a slice's spare places count too). A statement '..UptoSaid' is the law's where the arguments, and the package variables that the reading takes, are together of bulk at most 1048576: NARROWER than '..Said'. Prove '..Said' where nothing that the law and all that it calls make is longer than what came in: it says more and counts as full. Else prove '..UptoSaid'. A law counts once. -/
mutual
def uptoBulk {H : Type} : DataW H → Nat
  | .lit (.string bytes) => bytes.length + 1
  | .lit _ => 1
  | .nil => 1
  | .ptr d => uptoBulk d + 1
  | .slice elems spare => uptoBulkAll elems + uptoBulkAll spare + 1
  | .agg parts => uptoBulkAll parts + 1
  | .iface _ d => uptoBulk d + 1
  | .map entries => uptoBulkEntries entries + 1
  | .held _ => 1
def uptoBulkAll {H : Type} : List (DataW H) → Nat
  | [] => 0
  | d :: r => uptoBulk d + uptoBulkAll r
def uptoBulkEntries {H : Type} : List (Lit × DataW H) → Nat
  | [] => 0
  | x :: r => uptoBulkEntry x + uptoBulkEntries r
def uptoBulkEntry {H : Type} : Lit × DataW H → Nat
  | (.string bytes, d) => bytes.length + uptoBulk d + 1
  | (_, d) => uptoBulk d + 1
 end
def uptoSmall : (H : Type) → List (DataW H) → Bool := fun _ ds => decide (uptoBulkAll ds ≤ 1048576)
def OpenSpec.upto (s : _root_.Go.ChangeSpec) : _root_.Go.OpenSpec := { _root_.Go.OpenSpec.ofChange s with cond := some uptoSmall }

/-- 'laws.FnExactEnrolWork', WHERE WHAT IT READS IS OF BULK AT MOST 1048576: true; the input reads as it did. -/
def fnExactEnrolWorkUptoRow : OpenClaim := { program := "ytfchmhcnejifhaadoor", sum := "f615e71fe0afa6be9e7eda6dc47f16bd605d2e8c94c133e5354c8caf9bb1c614", func := "loop.example/g00167/laws.FnExactEnrolWork", spec := "fnExactEnrolWork", inPlace := ["internal/reflectlite.ValueOf", "(internal/reflectlite.Value).Type", "(internal/reflectlite.Value).IsNil", "internal/reflectlite.TypeOf", "(internal/reflectlite.Value).Elem", "(internal/reflectlite.Value).Set", "slices.overlaps[loop.example/g00167/impl.Work]"], unfollowed := true, recurses := true, named := ["loop.example/g00167/impl.errNotGood", "loop.example/g00167/impl.errTwice", "loop.example/g00167/impl.errFull", "errors.errorType", "loop.example/g00167/impl.errNoWork"], ifaces := true, apart := false, laid := [("errors.errorType", laid_errors_errorType), ("loop.example/g00167/impl.errNotGood", laid_loop_example_g00167_impl_errNotGood), ("loop.example/g00167/impl.errTwice", laid_loop_example_g00167_impl_errTwice), ("loop.example/g00167/impl.errNoWork", laid_loop_example_g00167_impl_errNoWork), ("loop.example/g00167/impl.errFull", laid_loop_example_g00167_impl_errFull)], narrowed := true }
def FnExactEnrolWorkUptoSaid : Prop := fnExactEnrolWorkUptoRow.holds Tryd.pinned (OpenSpec.upto fnExactEnrolWorkSpec)

/-- 'laws.FnExactRevokeWork', WHERE WHAT IT READS IS OF BULK AT MOST 1048576: true; the input reads as it did. -/
def fnExactRevokeWorkUptoRow : OpenClaim := { program := "ytfchmhcnejifhaadoor", sum := "f615e71fe0afa6be9e7eda6dc47f16bd605d2e8c94c133e5354c8caf9bb1c614", func := "loop.example/g00167/laws.FnExactRevokeWork", spec := "fnExactRevokeWork", inPlace := ["internal/reflectlite.ValueOf", "(internal/reflectlite.Value).Type", "(internal/reflectlite.Value).IsNil", "internal/reflectlite.TypeOf", "(internal/reflectlite.Value).Elem", "(internal/reflectlite.Value).Set", "slices.overlaps[int]"], unfollowed := true, recurses := true, named := ["loop.example/g00167/impl.errNotGood", "loop.example/g00167/impl.errNoWork", "errors.errorType", "loop.example/g00167/impl.errTwice", "loop.example/g00167/impl.errFull"], ifaces := true, apart := false, laid := [("errors.errorType", laid_errors_errorType), ("loop.example/g00167/impl.errNotGood", laid_loop_example_g00167_impl_errNotGood), ("loop.example/g00167/impl.errTwice", laid_loop_example_g00167_impl_errTwice), ("loop.example/g00167/impl.errNoWork", laid_loop_example_g00167_impl_errNoWork), ("loop.example/g00167/impl.errFull", laid_loop_example_g00167_impl_errFull)], narrowed := true }
def FnExactRevokeWorkUptoSaid : Prop := fnExactRevokeWorkUptoRow.holds Tryd.pinned (OpenSpec.upto fnExactRevokeWorkSpec)

end Rows
end Go.Proofs.YtfchmhcnejifhaaDoor
