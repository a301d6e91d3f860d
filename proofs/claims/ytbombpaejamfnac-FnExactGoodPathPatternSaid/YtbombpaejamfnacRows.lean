/-
  No cell of these rows narrows 'for every input' (looked for: loops, veiled, ifaces, maps, wideKeys, modest, calm, conditions, laid).
  DERIVED. THE GIVEN ROWS OF THIS SEAT. 6 by the template 'for every input the law returns true; each argument reads behind the call as it read before'; 0 by the template 'total and deterministic' (their statements: YtbombpaejamfnacTotals.lean).
  GIVEN WITH THE SEED: the statements are not yours to turn. If you find one false, say at which input.
  Laid BY PROGRAM, IN A SANDBOX (cutbox-rows.mjs): the forced cells as the released guide's own fill.sh prints them over the translation 5f371dd27abb84e7… (all of the seat's roots in one cut). By AI agents, Wed Nov 11 2026. No macro, syntax, notation, axiom, sorry.
-/
import Derived.Test.YtbombpaejamfnacChecked
import GoSem.Claim
import GoSem.ClaimJoined
import GoSem.ClaimMapViews
import Derived.JoinedTies
import Derived.KernelRfl
namespace Go.Proofs.Ytbombpaejamfnac
/- THE CELL 'sum', in the pinned program and in every row, IS THE sha256 OF THE DUMP (.gsa) THAT YtbombpaejamfnacProg.lean LOADS. Nothing in Lean hashes anything: it is a label: what it is worth is what the hold of that sum in a sandbox is worth. -/
noncomputable def Try.pinned : Pinned := { name := "ytbombpaejamfnac", sum := "5f371dd27abb84e7d8921adec7e054d68266aa4743b6ad89f8e37511137f6ec3", checked := Try.checked }
namespace Rows
def none {H : Type} : Left H := { results := [], args := [] }

/-- 'laws.FnExactGoodPath': WHATEVER THE INPUT: true; the input reads as it did. -/
def fnExactGoodPathSpec : ChangeSpec := { name := "fnExactGoodPath", fn := fun _ => fun
  | [d] => { results := [.lit (.bool true)], args := [d] }
  | _ => none }
def fnExactGoodPathRow : OpenClaim := { program := "ytbombpaejamfnac", sum := "5f371dd27abb84e7d8921adec7e054d68266aa4743b6ad89f8e37511137f6ec3", func := "loop.example/g00167/laws.FnExactGoodPath", spec := "fnExactGoodPath", unfollowed := true, recurses := true, apart := false }
def FnExactGoodPathSaid : Prop := fnExactGoodPathRow.holds Try.pinned (OpenSpec.ofChange fnExactGoodPathSpec)

/-- ITS FALSE NEIGHBOUR: 'it returns false'. Refute it at one input. -/
def fnExactGoodPathWrong : ChangeSpec := { name := "fnExactGoodPath", fn := fun _ => fun
  | [d] => { results := [.lit (.bool false)], args := [d] }
  | _ => none }
def FnExactGoodPathWrongFalsely : Prop := fnExactGoodPathRow.holds Try.pinned (OpenSpec.ofChange fnExactGoodPathWrong)

/-- 'laws.FnExactGoodName': WHATEVER THE INPUT: true; the input reads as it did. -/
def fnExactGoodNameSpec : ChangeSpec := { name := "fnExactGoodName", fn := fun _ => fun
  | [d] => { results := [.lit (.bool true)], args := [d] }
  | _ => none }
def fnExactGoodNameRow : OpenClaim := { program := "ytbombpaejamfnac", sum := "5f371dd27abb84e7d8921adec7e054d68266aa4743b6ad89f8e37511137f6ec3", func := "loop.example/g00167/laws.FnExactGoodName", spec := "fnExactGoodName", unfollowed := true, recurses := true, apart := false }
def FnExactGoodNameSaid : Prop := fnExactGoodNameRow.holds Try.pinned (OpenSpec.ofChange fnExactGoodNameSpec)

/-- ITS FALSE NEIGHBOUR: 'it returns false'. Refute it at one input. -/
def fnExactGoodNameWrong : ChangeSpec := { name := "fnExactGoodName", fn := fun _ => fun
  | [d] => { results := [.lit (.bool false)], args := [d] }
  | _ => none }
def FnExactGoodNameWrongFalsely : Prop := fnExactGoodNameRow.holds Try.pinned (OpenSpec.ofChange fnExactGoodNameWrong)

/-- 'laws.FnExactGoodPathPattern': WHATEVER THE INPUT: true; the input reads as it did. -/
def fnExactGoodPathPatternSpec : ChangeSpec := { name := "fnExactGoodPathPattern", fn := fun _ => fun
  | [d] => { results := [.lit (.bool true)], args := [d] }
  | _ => none }
def fnExactGoodPathPatternRow : OpenClaim := { program := "ytbombpaejamfnac", sum := "5f371dd27abb84e7d8921adec7e054d68266aa4743b6ad89f8e37511137f6ec3", func := "loop.example/g00167/laws.FnExactGoodPathPattern", spec := "fnExactGoodPathPattern", unfollowed := true, recurses := true, apart := false }
def FnExactGoodPathPatternSaid : Prop := fnExactGoodPathPatternRow.holds Try.pinned (OpenSpec.ofChange fnExactGoodPathPatternSpec)

/-- ITS FALSE NEIGHBOUR: 'it returns false'. Refute it at one input. -/
def fnExactGoodPathPatternWrong : ChangeSpec := { name := "fnExactGoodPathPattern", fn := fun _ => fun
  | [d] => { results := [.lit (.bool false)], args := [d] }
  | _ => none }
def FnExactGoodPathPatternWrongFalsely : Prop := fnExactGoodPathPatternRow.holds Try.pinned (OpenSpec.ofChange fnExactGoodPathPatternWrong)

/-- 'laws.FnExactGoodNamePattern': WHATEVER THE INPUT: true; the input reads as it did. -/
def fnExactGoodNamePatternSpec : ChangeSpec := { name := "fnExactGoodNamePattern", fn := fun _ => fun
  | [d] => { results := [.lit (.bool true)], args := [d] }
  | _ => none }
def fnExactGoodNamePatternRow : OpenClaim := { program := "ytbombpaejamfnac", sum := "5f371dd27abb84e7d8921adec7e054d68266aa4743b6ad89f8e37511137f6ec3", func := "loop.example/g00167/laws.FnExactGoodNamePattern", spec := "fnExactGoodNamePattern", unfollowed := true, recurses := true, apart := false }
def FnExactGoodNamePatternSaid : Prop := fnExactGoodNamePatternRow.holds Try.pinned (OpenSpec.ofChange fnExactGoodNamePatternSpec)

/-- ITS FALSE NEIGHBOUR: 'it returns false'. Refute it at one input. -/
def fnExactGoodNamePatternWrong : ChangeSpec := { name := "fnExactGoodNamePattern", fn := fun _ => fun
  | [d] => { results := [.lit (.bool false)], args := [d] }
  | _ => none }
def FnExactGoodNamePatternWrongFalsely : Prop := fnExactGoodNamePatternRow.holds Try.pinned (OpenSpec.ofChange fnExactGoodNamePatternWrong)

/-- 'laws.FnExactMatchPath': WHATEVER THE INPUT: true; the input reads as it did. -/
def fnExactMatchPathSpec : ChangeSpec := { name := "fnExactMatchPath", fn := fun _ => fun
  | [d1, d2] => { results := [.lit (.bool true)], args := [d1, d2] }
  | _ => none }
def fnExactMatchPathRow : OpenClaim := { program := "ytbombpaejamfnac", sum := "5f371dd27abb84e7d8921adec7e054d68266aa4743b6ad89f8e37511137f6ec3", func := "loop.example/g00167/laws.FnExactMatchPath", spec := "fnExactMatchPath", unfollowed := true, recurses := true, apart := false }
def FnExactMatchPathSaid : Prop := fnExactMatchPathRow.holds Try.pinned (OpenSpec.ofChange fnExactMatchPathSpec)

/-- ITS FALSE NEIGHBOUR: 'it returns false'. Refute it at one input. -/
def fnExactMatchPathWrong : ChangeSpec := { name := "fnExactMatchPath", fn := fun _ => fun
  | [d1, d2] => { results := [.lit (.bool false)], args := [d1, d2] }
  | _ => none }
def FnExactMatchPathWrongFalsely : Prop := fnExactMatchPathRow.holds Try.pinned (OpenSpec.ofChange fnExactMatchPathWrong)

/-- 'laws.FnExactMatchName': WHATEVER THE INPUT: true; the input reads as it did. -/
def fnExactMatchNameSpec : ChangeSpec := { name := "fnExactMatchName", fn := fun _ => fun
  | [d1, d2] => { results := [.lit (.bool true)], args := [d1, d2] }
  | _ => none }
def fnExactMatchNameRow : OpenClaim := { program := "ytbombpaejamfnac", sum := "5f371dd27abb84e7d8921adec7e054d68266aa4743b6ad89f8e37511137f6ec3", func := "loop.example/g00167/laws.FnExactMatchName", spec := "fnExactMatchName", unfollowed := true, recurses := true, apart := false }
def FnExactMatchNameSaid : Prop := fnExactMatchNameRow.holds Try.pinned (OpenSpec.ofChange fnExactMatchNameSpec)

/-- ITS FALSE NEIGHBOUR: 'it returns false'. Refute it at one input. -/
def fnExactMatchNameWrong : ChangeSpec := { name := "fnExactMatchName", fn := fun _ => fun
  | [d1, d2] => { results := [.lit (.bool false)], args := [d1, d2] }
  | _ => none }
def FnExactMatchNameWrongFalsely : Prop := fnExactMatchNameRow.holds Try.pinned (OpenSpec.ofChange fnExactMatchNameWrong)

/- THE SECOND FORM. 'bulk': how many values and letters a reading holds, each counted each time it is reached (what is shared counts as often as it is met; a slice's spare places count too). A statement '..UptoSaid' is the law's where the arguments, and the package variables that the reading takes, are together of bulk at most 1048576: NARROWER than '..Said'. Prove '..Said' where nothing that the law and all that it calls make is longer than what came in: it says more and counts as full. Else prove '..UptoSaid'. A law counts once. -/
mutual
def uptoBulk {H : Type} : DataW H → Nat
  | .lit (.string bytes) => bytes.length + 1
  | .lit _ => 1
  | .nil => 1
  | .ptr d => uptoBulk d + 1
  | .slice elems spare => uptoBulkAll elems + uptoBulkAll spare + 1
  | .agg parts => uptoBulkAll parts + 1
  | .iface _ d => uptoBulk d + 1
  | .map entries => uptoBulkEntries entries + 1
  | .held _ => 1
def uptoBulkAll {H : Type} : List (DataW H) → Nat
  | [] => 0
  | d :: r => uptoBulk d + uptoBulkAll r
def uptoBulkEntries {H : Type} : List (Lit × DataW H) → Nat
  | [] => 0
  | x :: r => uptoBulkEntry x + uptoBulkEntries r
def uptoBulkEntry {H : Type} : Lit × DataW H → Nat
  | (.string bytes, d) => bytes.length + uptoBulk d + 1
  | (_, d) => uptoBulk d + 1
 end
def uptoSmall : (H : Type) → List (DataW H) → Bool := fun _ ds => decide (uptoBulkAll ds ≤ 1048576)
def OpenSpec.upto (s : _root_.Go.ChangeSpec) : _root_.Go.OpenSpec := { _root_.Go.OpenSpec.ofChange s with cond := some uptoSmall }

/-- 'laws.FnExactGoodPath', WHERE WHAT IT READS IS OF BULK AT MOST 1048576: true; the input reads as it did. -/
def fnExactGoodPathUptoRow : OpenClaim := { program := "ytbombpaejamfnac", sum := "5f371dd27abb84e7d8921adec7e054d68266aa4743b6ad89f8e37511137f6ec3", func := "loop.example/g00167/laws.FnExactGoodPath", spec := "fnExactGoodPath", unfollowed := true, recurses := true, apart := false, narrowed := true }
def FnExactGoodPathUptoSaid : Prop := fnExactGoodPathUptoRow.holds Try.pinned (OpenSpec.upto fnExactGoodPathSpec)

/-- 'laws.FnExactGoodName', WHERE WHAT IT READS IS OF BULK AT MOST 1048576: true; the input reads as it did. -/
def fnExactGoodNameUptoRow : OpenClaim := { program := "ytbombpaejamfnac", sum := "5f371dd27abb84e7d8921adec7e054d68266aa4743b6ad89f8e37511137f6ec3", func := "loop.example/g00167/laws.FnExactGoodName", spec := "fnExactGoodName", unfollowed := true, recurses := true, apart := false, narrowed := true }
def FnExactGoodNameUptoSaid : Prop := fnExactGoodNameUptoRow.holds Try.pinned (OpenSpec.upto fnExactGoodNameSpec)

/-- 'laws.FnExactGoodPathPattern', WHERE WHAT IT READS IS OF BULK AT MOST 1048576: true; the input reads as it did. -/
def fnExactGoodPathPatternUptoRow : OpenClaim := { program := "ytbombpaejamfnac", sum := "5f371dd27abb84e7d8921adec7e054d68266aa4743b6ad89f8e37511137f6ec3", func := "loop.example/g00167/laws.FnExactGoodPathPattern", spec := "fnExactGoodPathPattern", unfollowed := true, recurses := true, apart := false, narrowed := true }
def FnExactGoodPathPatternUptoSaid : Prop := fnExactGoodPathPatternUptoRow.holds Try.pinned (OpenSpec.upto fnExactGoodPathPatternSpec)

/-- 'laws.FnExactGoodNamePattern', WHERE WHAT IT READS IS OF BULK AT MOST 1048576: true; the input reads as it did. -/
def fnExactGoodNamePatternUptoRow : OpenClaim := { program := "ytbombpaejamfnac", sum := "5f371dd27abb84e7d8921adec7e054d68266aa4743b6ad89f8e37511137f6ec3", func := "loop.example/g00167/laws.FnExactGoodNamePattern", spec := "fnExactGoodNamePattern", unfollowed := true, recurses := true, apart := false, narrowed := true }
def FnExactGoodNamePatternUptoSaid : Prop := fnExactGoodNamePatternUptoRow.holds Try.pinned (OpenSpec.upto fnExactGoodNamePatternSpec)

/-- 'laws.FnExactMatchPath', WHERE WHAT IT READS IS OF BULK AT MOST 1048576: true; the input reads as it did. -/
def fnExactMatchPathUptoRow : OpenClaim := { program := "ytbombpaejamfnac", sum := "5f371dd27abb84e7d8921adec7e054d68266aa4743b6ad89f8e37511137f6ec3", func := "loop.example/g00167/laws.FnExactMatchPath", spec := "fnExactMatchPath", unfollowed := true, recurses := true, apart := false, narrowed := true }
def FnExactMatchPathUptoSaid : Prop := fnExactMatchPathUptoRow.holds Try.pinned (OpenSpec.upto fnExactMatchPathSpec)

/-- 'laws.FnExactMatchName', WHERE WHAT IT READS IS OF BULK AT MOST 1048576: true; the input reads as it did. -/
def fnExactMatchNameUptoRow : OpenClaim := { program := "ytbombpaejamfnac", sum := "5f371dd27abb84e7d8921adec7e054d68266aa4743b6ad89f8e37511137f6ec3", func := "loop.example/g00167/laws.FnExactMatchName", spec := "fnExactMatchName", unfollowed := true, recurses := true, apart := false, narrowed := true }
def FnExactMatchNameUptoSaid : Prop := fnExactMatchNameUptoRow.holds Try.pinned (OpenSpec.upto fnExactMatchNameSpec)

end Rows
end Go.Proofs.Ytbombpaejamfnac
