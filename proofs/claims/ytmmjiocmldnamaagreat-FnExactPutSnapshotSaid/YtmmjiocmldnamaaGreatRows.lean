/-
  No cell of these rows narrows 'for every input' (looked for: loops, veiled, ifaces, maps, wideKeys, modest, calm, conditions, laid).
  DERIVED. THE GIVEN ROWS OF THIS SEAT. 3 by the template 'for every input the law returns true; each argument reads behind the call as it read before'; 0 by the template 'total and deterministic' (their statements: YtmmjiocmldnamaaGreatTotals.lean).
  GIVEN WITH THE SEED: the statements are not yours to turn. If you find one false, say at which input.
  Laid BY PROGRAM, IN A SANDBOX (cutbox-rows.mjs): the forced cells as the released guide's own fill.sh prints them over the translation 87d5b14069745cdd… (all of the seat's roots in one cut). By AI agents, Wed Nov 11 2026. No macro, syntax, notation, axiom, sorry.
-/
import Derived.Test.YtmmjiocmldnamaaGreatChecked
import GoSem.Claim
import GoSem.ClaimJoined
import GoSem.ClaimMapViews
import Derived.JoinedTies
import Derived.KernelRfl
namespace Go.Proofs.YtmmjiocmldnamaaGreat
/- THE CELL 'sum', in the pinned program and in every row, IS THE sha256 OF THE DUMP (.gsa) THAT YtmmjiocmldnamaaGreatProg.lean LOADS. Nothing in Lean hashes anything: it is a label: what it is worth is what the hold of that sum in a sandbox is worth. -/
noncomputable def Tryz.pinned : Pinned := { name := "ytmmjiocmldnamaagreat", sum := "87d5b14069745cddae63a7e18e1f287e8af20f09dbca531ce16f405d22dd1510", checked := Tryz.checked }
namespace Rows
def none {H : Type} : Left H := { results := [], args := [] }

/-- 'laws.FnExactPutSnapshot': WHATEVER THE INPUT: true; the input reads as it did. -/
def fnExactPutSnapshotSpec : ChangeSpec := { name := "fnExactPutSnapshot", fn := fun _ => fun
  | [d1, d2, d3] => { results := [.lit (.bool true)], args := [d1, d2, d3] }
  | _ => none }
def fnExactPutSnapshotRow : OpenClaim := { program := "ytmmjiocmldnamaagreat", sum := "87d5b14069745cddae63a7e18e1f287e8af20f09dbca531ce16f405d22dd1510", func := "loop.example/g00167/laws.FnExactPutSnapshot", spec := "fnExactPutSnapshot", inPlace := ["internal/bytealg.abigen_runtime_cmpstring"], unfollowed := true, recurses := true, apart := false }
def FnExactPutSnapshotSaid : Prop := fnExactPutSnapshotRow.holds Tryz.pinned (OpenSpec.ofChange fnExactPutSnapshotSpec)

/-- ITS FALSE NEIGHBOUR: 'it returns false'. Refute it at one input. -/
def fnExactPutSnapshotWrong : ChangeSpec := { name := "fnExactPutSnapshot", fn := fun _ => fun
  | [d1, d2, d3] => { results := [.lit (.bool false)], args := [d1, d2, d3] }
  | _ => none }
def FnExactPutSnapshotWrongFalsely : Prop := fnExactPutSnapshotRow.holds Tryz.pinned (OpenSpec.ofChange fnExactPutSnapshotWrong)

/-- 'laws.FnExactApplyDiff': WHATEVER THE INPUT: true; the input reads as it did. -/
def fnExactApplyDiffSpec : ChangeSpec := { name := "fnExactApplyDiff", fn := fun _ => fun
  | [d1, d2] => { results := [.lit (.bool true)], args := [d1, d2] }
  | _ => none }
def fnExactApplyDiffRow : OpenClaim := { program := "ytmmjiocmldnamaagreat", sum := "87d5b14069745cddae63a7e18e1f287e8af20f09dbca531ce16f405d22dd1510", func := "loop.example/g00167/laws.FnExactApplyDiff", spec := "fnExactApplyDiff", inPlace := ["internal/bytealg.abigen_runtime_cmpstring"], unfollowed := true, recurses := true, apart := false }
def FnExactApplyDiffSaid : Prop := fnExactApplyDiffRow.holds Tryz.pinned (OpenSpec.ofChange fnExactApplyDiffSpec)

/-- ITS FALSE NEIGHBOUR: 'it returns false'. Refute it at one input. -/
def fnExactApplyDiffWrong : ChangeSpec := { name := "fnExactApplyDiff", fn := fun _ => fun
  | [d1, d2] => { results := [.lit (.bool false)], args := [d1, d2] }
  | _ => none }
def FnExactApplyDiffWrongFalsely : Prop := fnExactApplyDiffRow.holds Tryz.pinned (OpenSpec.ofChange fnExactApplyDiffWrong)

/-- 'laws.FnExactCompactTo': WHATEVER THE INPUT: true; the input reads as it did. -/
def fnExactCompactToSpec : ChangeSpec := { name := "fnExactCompactTo", fn := fun _ => fun
  | [d1, d2] => { results := [.lit (.bool true)], args := [d1, d2] }
  | _ => none }
def fnExactCompactToRow : OpenClaim := { program := "ytmmjiocmldnamaagreat", sum := "87d5b14069745cddae63a7e18e1f287e8af20f09dbca531ce16f405d22dd1510", func := "loop.example/g00167/laws.FnExactCompactTo", spec := "fnExactCompactTo", inPlace := ["internal/bytealg.abigen_runtime_cmpstring"], unfollowed := true, recurses := true, apart := false }
def FnExactCompactToSaid : Prop := fnExactCompactToRow.holds Tryz.pinned (OpenSpec.ofChange fnExactCompactToSpec)

/-- ITS FALSE NEIGHBOUR: 'it returns false'. Refute it at one input. -/
def fnExactCompactToWrong : ChangeSpec := { name := "fnExactCompactTo", fn := fun _ => fun
  | [d1, d2] => { results := [.lit (.bool false)], args := [d1, d2] }
  | _ => none }
def FnExactCompactToWrongFalsely : Prop := fnExactCompactToRow.holds Tryz.pinned (OpenSpec.ofChange fnExactCompactToWrong)

/- THE SECOND FORM. 'bulk': how many values and letters a reading holds, each counted each time it is reached (what is shared counts as often as it is met; a slice's spare places count too). A statement '..UptoSaid' is the law's where the arguments, and the package variables that the reading takes, are together of bulk at most 1048576: NARROWER than '..Said'. Prove '..Said' where nothing that the law and all that it calls make is longer than what came in: it says more and counts as full. Else prove '..UptoSaid'. A law counts once. -/
mutual
def uptoBulk {H : Type} : DataW H → Nat
  | .lit (.string bytes) => bytes.length + 1
  | .lit _ => 1
  | .nil => 1
  | .ptr d => uptoBulk d + 1
  | .slice elems spare => uptoBulkAll elems + uptoBulkAll spare + 1
  | .agg parts => uptoBulkAll parts + 1
  | .iface _ d => uptoBulk d + 1
  | .map entries => uptoBulkEntries entries + 1
  | .held _ => 1
def uptoBulkAll {H : Type} : List (DataW H) → Nat
  | [] => 0
  | d :: r => uptoBulk d + uptoBulkAll r
def uptoBulkEntries {H : Type} : List (Lit × DataW H) → Nat
  | [] => 0
  | x :: r => uptoBulkEntry x + uptoBulkEntries r
def uptoBulkEntry {H : Type} : Lit × DataW H → Nat
  | (.string bytes, d) => bytes.length + uptoBulk d + 1
  | (_, d) => uptoBulk d + 1
 end
def uptoSmall : (H : Type) → List (DataW H) → Bool := fun _ ds => decide (uptoBulkAll ds ≤ 1048576)
def OpenSpec.upto (s : _root_.Go.ChangeSpec) : _root_.Go.OpenSpec := { _root_.Go.OpenSpec.ofChange s with cond := some uptoSmall }

/-- 'laws.FnExactPutSnapshot', WHERE WHAT IT READS IS OF BULK AT MOST 1048576: true; the input reads as it did. -/
def fnExactPutSnapshotUptoRow : OpenClaim := { program := "ytmmjiocmldnamaagreat", sum := "87d5b14069745cddae63a7e18e1f287e8af20f09dbca531ce16f405d22dd1510", func := "loop.example/g00167/laws.FnExactPutSnapshot", spec := "fnExactPutSnapshot", inPlace := ["internal/bytealg.abigen_runtime_cmpstring"], unfollowed := true, recurses := true, apart := false, narrowed := true }
def FnExactPutSnapshotUptoSaid : Prop := fnExactPutSnapshotUptoRow.holds Tryz.pinned (OpenSpec.upto fnExactPutSnapshotSpec)

/-- 'laws.FnExactApplyDiff', WHERE WHAT IT READS IS OF BULK AT MOST 1048576: true; the input reads as it did. -/
def fnExactApplyDiffUptoRow : OpenClaim := { program := "ytmmjiocmldnamaagreat", sum := "87d5b14069745cddae63a7e18e1f287e8af20f09dbca531ce16f405d22dd1510", func := "loop.example/g00167/laws.FnExactApplyDiff", spec := "fnExactApplyDiff", inPlace := ["internal/bytealg.abigen_runtime_cmpstring"], unfollowed := true, recurses := true, apart := false, narrowed := true }
def FnExactApplyDiffUptoSaid : Prop := fnExactApplyDiffUptoRow.holds Tryz.pinned (OpenSpec.upto fnExactApplyDiffSpec)

/-- 'laws.FnExactCompactTo', WHERE WHAT IT READS IS OF BULK AT MOST 1048576: true; the input reads as it did. -/
def fnExactCompactToUptoRow : OpenClaim := { program := "ytmmjiocmldnamaagreat", sum := "87d5b14069745cddae63a7e18e1f287e8af20f09dbca531ce16f405d22dd1510", func := "loop.example/g00167/laws.FnExactCompactTo", spec := "fnExactCompactTo", inPlace := ["internal/bytealg.abigen_runtime_cmpstring"], unfollowed := true, recurses := true, apart := false, narrowed := true }
def FnExactCompactToUptoSaid : Prop := fnExactCompactToUptoRow.holds Tryz.pinned (OpenSpec.upto fnExactCompactToSpec)

end Rows
end Go.Proofs.YtmmjiocmldnamaaGreat
