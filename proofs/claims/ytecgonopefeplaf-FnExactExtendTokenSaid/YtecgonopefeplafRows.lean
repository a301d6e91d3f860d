/-
  No cell of these rows narrows 'for every input' (looked for: loops, veiled, ifaces, maps, wideKeys, modest, calm, conditions, laid).
  DERIVED. THE GIVEN ROWS OF THIS SEAT. 3 by the template 'for every input the law returns true; each argument reads behind the call as it read before'; 0 by the template 'total and deterministic' (their statements: YtecgonopefeplafTotals.lean).
  GIVEN WITH THE SEED: the statements are not yours to turn. If you find one false, say at which input.
  Laid BY PROGRAM, IN A SANDBOX (cutbox-rows.mjs): the forced cells as the released guide's own fill.sh prints them over the translation 4529690f55e0c728… (all of the seat's roots in one cut). By AI agents, Wed Nov 11 2026. No macro, syntax, notation, axiom, sorry.
-/
import Derived.Test.YtecgonopefeplafChecked
import GoSem.Claim
import GoSem.ClaimJoined
import GoSem.ClaimMapViews
import Derived.JoinedTies
import Derived.KernelRfl
namespace Go.Proofs.Ytecgonopefeplaf
/- THE CELL 'sum', in the pinned program and in every row, IS THE sha256 OF THE DUMP (.gsa) THAT YtecgonopefeplafProg.lean LOADS. Nothing in Lean hashes anything: it is a label: what it is worth is what the hold of that sum in a sandbox is worth. -/
noncomputable def Try.pinned : Pinned := { name := "ytecgonopefeplaf", sum := "4529690f55e0c7282b8f13286fd8e6ba6b50968f5cd6bf8ca42cad15c88e6e4d", checked := Try.checked }
namespace Rows
def none {H : Type} : Left H := { results := [], args := [] }

/-- 'laws.FnExactNeverCounts': WHATEVER THE INPUT: true; the input reads as it did. -/
def fnExactNeverCountsSpec : ChangeSpec := { name := "fnExactNeverCounts", fn := fun _ => fun
  | [d1, d2] => { results := [.lit (.bool true)], args := [d1, d2] }
  | _ => none }
def fnExactNeverCountsRow : OpenClaim := { program := "ytecgonopefeplaf", sum := "4529690f55e0c7282b8f13286fd8e6ba6b50968f5cd6bf8ca42cad15c88e6e4d", func := "loop.example/g00167/laws.FnExactNeverCounts", spec := "fnExactNeverCounts", unfollowed := true, recurses := true, apart := false }
def FnExactNeverCountsSaid : Prop := fnExactNeverCountsRow.holds Try.pinned (OpenSpec.ofChange fnExactNeverCountsSpec)

/-- ITS FALSE NEIGHBOUR: 'it returns false'. Refute it at one input. -/
def fnExactNeverCountsWrong : ChangeSpec := { name := "fnExactNeverCounts", fn := fun _ => fun
  | [d1, d2] => { results := [.lit (.bool false)], args := [d1, d2] }
  | _ => none }
def FnExactNeverCountsWrongFalsely : Prop := fnExactNeverCountsRow.holds Try.pinned (OpenSpec.ofChange fnExactNeverCountsWrong)

/-- 'laws.FnExactGoodToken': WHATEVER THE INPUT: true; the input reads as it did. -/
def fnExactGoodTokenSpec : ChangeSpec := { name := "fnExactGoodToken", fn := fun _ => fun
  | [d] => { results := [.lit (.bool true)], args := [d] }
  | _ => none }
def fnExactGoodTokenRow : OpenClaim := { program := "ytecgonopefeplaf", sum := "4529690f55e0c7282b8f13286fd8e6ba6b50968f5cd6bf8ca42cad15c88e6e4d", func := "loop.example/g00167/laws.FnExactGoodToken", spec := "fnExactGoodToken", unfollowed := true, recurses := true, apart := false }
def FnExactGoodTokenSaid : Prop := fnExactGoodTokenRow.holds Try.pinned (OpenSpec.ofChange fnExactGoodTokenSpec)

/-- ITS FALSE NEIGHBOUR: 'it returns false'. Refute it at one input. -/
def fnExactGoodTokenWrong : ChangeSpec := { name := "fnExactGoodToken", fn := fun _ => fun
  | [d] => { results := [.lit (.bool false)], args := [d] }
  | _ => none }
def FnExactGoodTokenWrongFalsely : Prop := fnExactGoodTokenRow.holds Try.pinned (OpenSpec.ofChange fnExactGoodTokenWrong)

/-- 'laws.FnExactExtendToken': WHATEVER THE INPUT: true; the input reads as it did. -/
def fnExactExtendTokenSpec : ChangeSpec := { name := "fnExactExtendToken", fn := fun _ => fun
  | [d1, d2, d3, d4, d5] => { results := [.lit (.bool true)], args := [d1, d2, d3, d4, d5] }
  | _ => none }
def fnExactExtendTokenRow : OpenClaim := { program := "ytecgonopefeplaf", sum := "4529690f55e0c7282b8f13286fd8e6ba6b50968f5cd6bf8ca42cad15c88e6e4d", func := "loop.example/g00167/laws.FnExactExtendToken", spec := "fnExactExtendToken", unfollowed := true, recurses := true, apart := false }
def FnExactExtendTokenSaid : Prop := fnExactExtendTokenRow.holds Try.pinned (OpenSpec.ofChange fnExactExtendTokenSpec)

/-- ITS FALSE NEIGHBOUR: 'it returns false'. Refute it at one input. -/
def fnExactExtendTokenWrong : ChangeSpec := { name := "fnExactExtendToken", fn := fun _ => fun
  | [d1, d2, d3, d4, d5] => { results := [.lit (.bool false)], args := [d1, d2, d3, d4, d5] }
  | _ => none }
def FnExactExtendTokenWrongFalsely : Prop := fnExactExtendTokenRow.holds Try.pinned (OpenSpec.ofChange fnExactExtendTokenWrong)

/- THE SECOND FORM. 'bulk': how many values and letters a reading holds, each counted each time it is reached (what is shared counts as often as it is met; a slice's spare places count too). A statement '..UptoSaid' is the law's where the arguments, and the package variables that the reading takes, are together of bulk at most 1048576: NARROWER than '..Said'. Prove '..Said' where nothing that the law and all that it calls make is longer than what came in: it says more and counts as full. Else prove '..UptoSaid'. A law counts once. -/
mutual
def uptoBulk {H : Type} : DataW H → Nat
  | .lit (.string bytes) => bytes.length + 1
  | .lit _ => 1
  | .nil => 1
  | .ptr d => uptoBulk d + 1
  | .slice elems spare => uptoBulkAll elems + uptoBulkAll spare + 1
  | .agg parts => uptoBulkAll parts + 1
  | .iface _ d => uptoBulk d + 1
  | .map entries => uptoBulkEntries entries + 1
  | .held _ => 1
def uptoBulkAll {H : Type} : List (DataW H) → Nat
  | [] => 0
  | d :: r => uptoBulk d + uptoBulkAll r
def uptoBulkEntries {H : Type} : List (Lit × DataW H) → Nat
  | [] => 0
  | x :: r => uptoBulkEntry x + uptoBulkEntries r
def uptoBulkEntry {H : Type} : Lit × DataW H → Nat
  | (.string bytes, d) => bytes.length + uptoBulk d + 1
  | (_, d) => uptoBulk d + 1
 end
def uptoSmall : (H : Type) → List (DataW H) → Bool := fun _ ds => decide (uptoBulkAll ds ≤ 1048576)
def OpenSpec.upto (s : _root_.Go.ChangeSpec) : _root_.Go.OpenSpec := { _root_.Go.OpenSpec.ofChange s with cond := some uptoSmall }

/-- 'laws.FnExactNeverCounts', WHERE WHAT IT READS IS OF BULK AT MOST 1048576: true; the input reads as it did. -/
def fnExactNeverCountsUptoRow : OpenClaim := { program := "ytecgonopefeplaf", sum := "4529690f55e0c7282b8f13286fd8e6ba6b50968f5cd6bf8ca42cad15c88e6e4d", func := "loop.example/g00167/laws.FnExactNeverCounts", spec := "fnExactNeverCounts", unfollowed := true, recurses := true, apart := false, narrowed := true }
def FnExactNeverCountsUptoSaid : Prop := fnExactNeverCountsUptoRow.holds Try.pinned (OpenSpec.upto fnExactNeverCountsSpec)

/-- 'laws.FnExactGoodToken', WHERE WHAT IT READS IS OF BULK AT MOST 1048576: true; the input reads as it did. -/
def fnExactGoodTokenUptoRow : OpenClaim := { program := "ytecgonopefeplaf", sum := "4529690f55e0c7282b8f13286fd8e6ba6b50968f5cd6bf8ca42cad15c88e6e4d", func := "loop.example/g00167/laws.FnExactGoodToken", spec := "fnExactGoodToken", unfollowed := true, recurses := true, apart := false, narrowed := true }
def FnExactGoodTokenUptoSaid : Prop := fnExactGoodTokenUptoRow.holds Try.pinned (OpenSpec.upto fnExactGoodTokenSpec)

/-- 'laws.FnExactExtendToken', WHERE WHAT IT READS IS OF BULK AT MOST 1048576: true; the input reads as it did. -/
def fnExactExtendTokenUptoRow : OpenClaim := { program := "ytecgonopefeplaf", sum := "4529690f55e0c7282b8f13286fd8e6ba6b50968f5cd6bf8ca42cad15c88e6e4d", func := "loop.example/g00167/laws.FnExactExtendToken", spec := "fnExactExtendToken", unfollowed := true, recurses := true, apart := false, narrowed := true }
def FnExactExtendTokenUptoSaid : Prop := fnExactExtendTokenUptoRow.holds Try.pinned (OpenSpec.upto fnExactExtendTokenSpec)

end Rows
end Go.Proofs.Ytecgonopefeplaf
