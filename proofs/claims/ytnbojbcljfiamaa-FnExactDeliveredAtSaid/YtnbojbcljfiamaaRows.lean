/-
  No cell of these rows narrows 'for every input' (looked for: loops, veiled, ifaces, maps, wideKeys, modest, calm, conditions, laid).
  DERIVED. THE GIVEN ROWS OF THIS SEAT. 2 by the template 'for every input the law returns true; each argument reads behind the call as it read before'; 0 by the template 'total and deterministic' (their statements: YtnbojbcljfiamaaTotals.lean).
  GIVEN WITH THE SEED: the statements are not yours to turn. If you find one false, say at which input.
  Laid BY PROGRAM, IN A SANDBOX (cutbox-rows.mjs): the forced cells as the released guide's own fill.sh prints them over the translation 3877278c43db8e33… (all of the seat's roots in one cut). By AI agents, Wed Nov 11 2026. No macro, syntax, notation, axiom, sorry.
-/
import Derived.Test.YtnbojbcljfiamaaChecked
import GoSem.Claim
import GoSem.ClaimJoined
import GoSem.ClaimMapViews
import Derived.JoinedTies
import Derived.KernelRfl
namespace Go.Proofs.Ytnbojbcljfiamaa
/- THE CELL 'sum', in the pinned program and in every row, IS THE sha256 OF THE DUMP (.gsa) THAT YtnbojbcljfiamaaProg.lean LOADS. Nothing in Lean hashes anything: it is a label: what it is worth is what the hold of that sum in a sandbox is worth. -/
noncomputable def Try.pinned : Pinned := { name := "ytnbojbcljfiamaa", sum := "3877278c43db8e33d3b832baebc725cd070c2104a4d57cfe928493b7c4fb0e5d", checked := Try.checked }
namespace Rows
def none {H : Type} : Left H := { results := [], args := [] }

/-- 'laws.FnExactNewMesh': WHATEVER THE INPUT: true; the input reads as it did. -/
def fnExactNewMeshSpec : ChangeSpec := { name := "fnExactNewMesh", fn := fun _ => fun
  | [] => { results := [.lit (.bool true)], args := [] }
  | _ => none }
def fnExactNewMeshRow : OpenClaim := { program := "ytnbojbcljfiamaa", sum := "3877278c43db8e33d3b832baebc725cd070c2104a4d57cfe928493b7c4fb0e5d", func := "loop.example/g00167/laws.FnExactNewMesh", spec := "fnExactNewMesh", apart := false }
def FnExactNewMeshSaid : Prop := fnExactNewMeshRow.holds Try.pinned (OpenSpec.ofChange fnExactNewMeshSpec)

/-- ITS FALSE NEIGHBOUR: 'it returns false'. Refute it at one input. -/
def fnExactNewMeshWrong : ChangeSpec := { name := "fnExactNewMesh", fn := fun _ => fun
  | [] => { results := [.lit (.bool false)], args := [] }
  | _ => none }
def FnExactNewMeshWrongFalsely : Prop := fnExactNewMeshRow.holds Try.pinned (OpenSpec.ofChange fnExactNewMeshWrong)

/-- 'laws.FnExactDeliveredAt': WHATEVER THE INPUT: true; the input reads as it did. -/
def fnExactDeliveredAtSpec : ChangeSpec := { name := "fnExactDeliveredAt", fn := fun _ => fun
  | [d1, d2] => { results := [.lit (.bool true)], args := [d1, d2] }
  | _ => none }
def fnExactDeliveredAtRow : OpenClaim := { program := "ytnbojbcljfiamaa", sum := "3877278c43db8e33d3b832baebc725cd070c2104a4d57cfe928493b7c4fb0e5d", func := "loop.example/g00167/laws.FnExactDeliveredAt", spec := "fnExactDeliveredAt", apart := false }
def FnExactDeliveredAtSaid : Prop := fnExactDeliveredAtRow.holds Try.pinned (OpenSpec.ofChange fnExactDeliveredAtSpec)

/-- ITS FALSE NEIGHBOUR: 'it returns false'. Refute it at one input. -/
def fnExactDeliveredAtWrong : ChangeSpec := { name := "fnExactDeliveredAt", fn := fun _ => fun
  | [d1, d2] => { results := [.lit (.bool false)], args := [d1, d2] }
  | _ => none }
def FnExactDeliveredAtWrongFalsely : Prop := fnExactDeliveredAtRow.holds Try.pinned (OpenSpec.ofChange fnExactDeliveredAtWrong)

/- THE SECOND FORM. 'bulk': how many values and letters a reading holds, each counted each time it is reached (what is shared counts as often as it is met; a slice's spare places count too). A statement '..UptoSaid' is the law's where the arguments, and the package variables that the reading takes, are together of bulk at most 1048576: NARROWER than '..Said'. Prove '..Said' where nothing that the law and all that it calls make is longer than what came in: it says more and counts as full. Else prove '..UptoSaid'. A law counts once. -/
mutual
def uptoBulk {H : Type} : DataW H → Nat
  | .lit (.string bytes) => bytes.length + 1
  | .lit _ => 1
  | .nil => 1
  | .ptr d => uptoBulk d + 1
  | .slice elems spare => uptoBulkAll elems + uptoBulkAll spare + 1
  | .agg parts => uptoBulkAll parts + 1
  | .iface _ d => uptoBulk d + 1
  | .map entries => uptoBulkEntries entries + 1
  | .held _ => 1
def uptoBulkAll {H : Type} : List (DataW H) → Nat
  | [] => 0
  | d :: r => uptoBulk d + uptoBulkAll r
def uptoBulkEntries {H : Type} : List (Lit × DataW H) → Nat
  | [] => 0
  | x :: r => uptoBulkEntry x + uptoBulkEntries r
def uptoBulkEntry {H : Type} : Lit × DataW H → Nat
  | (.string bytes, d) => bytes.length + uptoBulk d + 1
  | (_, d) => uptoBulk d + 1
 end
def uptoSmall : (H : Type) → List (DataW H) → Bool := fun _ ds => decide (uptoBulkAll ds ≤ 1048576)
def OpenSpec.upto (s : _root_.Go.ChangeSpec) : _root_.Go.OpenSpec := { _root_.Go.OpenSpec.ofChange s with cond := some uptoSmall }

/-- 'laws.FnExactNewMesh', WHERE WHAT IT READS IS OF BULK AT MOST 1048576: true; the input reads as it did. -/
def fnExactNewMeshUptoRow : OpenClaim := { program := "ytnbojbcljfiamaa", sum := "3877278c43db8e33d3b832baebc725cd070c2104a4d57cfe928493b7c4fb0e5d", func := "loop.example/g00167/laws.FnExactNewMesh", spec := "fnExactNewMesh", apart := false, narrowed := true }
def FnExactNewMeshUptoSaid : Prop := fnExactNewMeshUptoRow.holds Try.pinned (OpenSpec.upto fnExactNewMeshSpec)

/-- 'laws.FnExactDeliveredAt', WHERE WHAT IT READS IS OF BULK AT MOST 1048576: true; the input reads as it did. -/
def fnExactDeliveredAtUptoRow : OpenClaim := { program := "ytnbojbcljfiamaa", sum := "3877278c43db8e33d3b832baebc725cd070c2104a4d57cfe928493b7c4fb0e5d", func := "loop.example/g00167/laws.FnExactDeliveredAt", spec := "fnExactDeliveredAt", apart := false, narrowed := true }
def FnExactDeliveredAtUptoSaid : Prop := fnExactDeliveredAtUptoRow.holds Try.pinned (OpenSpec.upto fnExactDeliveredAtSpec)

end Rows
end Go.Proofs.Ytnbojbcljfiamaa
