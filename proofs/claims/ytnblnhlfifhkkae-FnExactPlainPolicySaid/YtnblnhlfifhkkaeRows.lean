/-
  No cell of these rows narrows 'for every input' (looked for: loops, veiled, ifaces, maps, wideKeys, modest, calm, conditions, laid).
  DERIVED. THE GIVEN ROWS OF THIS SEAT. 5 by the template 'for every input the law returns true; each argument reads behind the call as it read before'; 0 by the template 'total and deterministic' (their statements: YtnblnhlfifhkkaeTotals.lean).
  GIVEN WITH THE SEED: the statements are not yours to turn. If you find one false, say at which input.
  Laid BY PROGRAM, IN A SANDBOX (cutbox-rows.mjs): the forced cells as the released guide's own fill.sh prints them over the translation dcd68c3a57c3251f… (all of the seat's roots in one cut). By AI agents, Wed Nov 11 2026. No macro, syntax, notation, axiom, sorry.
-/
import Derived.Test.YtnblnhlfifhkkaeChecked
import GoSem.Claim
import GoSem.ClaimJoined
import GoSem.ClaimMapViews
import Derived.JoinedTies
import Derived.KernelRfl
namespace Go.Proofs.Ytnblnhlfifhkkae
/- THE CELL 'sum', in the pinned program and in every row, IS THE sha256 OF THE DUMP (.gsa) THAT YtnblnhlfifhkkaeProg.lean LOADS. Nothing in Lean hashes anything: it is a label: what it is worth is what the hold of that sum in a sandbox is worth. -/
noncomputable def Try.pinned : Pinned := { name := "ytnblnhlfifhkkae", sum := "dcd68c3a57c3251f194cfeb55f24574070f177a5d413f482e6f91020cebaba76", checked := Try.checked }
namespace Rows
def none {H : Type} : Left H := { results := [], args := [] }

/-- 'laws.FnExactPolicyText': WHATEVER THE INPUT: true; the input reads as it did. -/
def fnExactPolicyTextSpec : ChangeSpec := { name := "fnExactPolicyText", fn := fun _ => fun
  | [d] => { results := [.lit (.bool true)], args := [d] }
  | _ => none }
def fnExactPolicyTextRow : OpenClaim := { program := "ytnblnhlfifhkkae", sum := "dcd68c3a57c3251f194cfeb55f24574070f177a5d413f482e6f91020cebaba76", func := "loop.example/g00167/laws.FnExactPolicyText", spec := "fnExactPolicyText", inPlace := ["internal/abi.NoEscape"], unfollowed := true, recurses := true, apart := false }
def FnExactPolicyTextSaid : Prop := fnExactPolicyTextRow.holds Try.pinned (OpenSpec.ofChange fnExactPolicyTextSpec)

/-- ITS FALSE NEIGHBOUR: 'it returns false'. Refute it at one input. -/
def fnExactPolicyTextWrong : ChangeSpec := { name := "fnExactPolicyText", fn := fun _ => fun
  | [d] => { results := [.lit (.bool false)], args := [d] }
  | _ => none }
def FnExactPolicyTextWrongFalsely : Prop := fnExactPolicyTextRow.holds Try.pinned (OpenSpec.ofChange fnExactPolicyTextWrong)

/-- 'laws.FnExactPlainPolicy': WHATEVER THE INPUT: true; the input reads as it did. -/
def fnExactPlainPolicySpec : ChangeSpec := { name := "fnExactPlainPolicy", fn := fun _ => fun
  | [d] => { results := [.lit (.bool true)], args := [d] }
  | _ => none }
def fnExactPlainPolicyRow : OpenClaim := { program := "ytnblnhlfifhkkae", sum := "dcd68c3a57c3251f194cfeb55f24574070f177a5d413f482e6f91020cebaba76", func := "loop.example/g00167/laws.FnExactPlainPolicy", spec := "fnExactPlainPolicy", inPlace := ["internal/bytealg.abigen_runtime_cmpstring"], unfollowed := true, recurses := true, apart := false }
def FnExactPlainPolicySaid : Prop := fnExactPlainPolicyRow.holds Try.pinned (OpenSpec.ofChange fnExactPlainPolicySpec)

/-- ITS FALSE NEIGHBOUR: 'it returns false'. Refute it at one input. -/
def fnExactPlainPolicyWrong : ChangeSpec := { name := "fnExactPlainPolicy", fn := fun _ => fun
  | [d] => { results := [.lit (.bool false)], args := [d] }
  | _ => none }
def FnExactPlainPolicyWrongFalsely : Prop := fnExactPlainPolicyRow.holds Try.pinned (OpenSpec.ofChange fnExactPlainPolicyWrong)

/-- 'laws.FnExactDecideCall': WHATEVER THE INPUT: true; the input reads as it did. -/
def fnExactDecideCallSpec : ChangeSpec := { name := "fnExactDecideCall", fn := fun _ => fun
  | [d1, d2] => { results := [.lit (.bool true)], args := [d1, d2] }
  | _ => none }
def fnExactDecideCallRow : OpenClaim := { program := "ytnblnhlfifhkkae", sum := "dcd68c3a57c3251f194cfeb55f24574070f177a5d413f482e6f91020cebaba76", func := "loop.example/g00167/laws.FnExactDecideCall", spec := "fnExactDecideCall", unfollowed := true, recurses := true, apart := false }
def FnExactDecideCallSaid : Prop := fnExactDecideCallRow.holds Try.pinned (OpenSpec.ofChange fnExactDecideCallSpec)

/-- ITS FALSE NEIGHBOUR: 'it returns false'. Refute it at one input. -/
def fnExactDecideCallWrong : ChangeSpec := { name := "fnExactDecideCall", fn := fun _ => fun
  | [d1, d2] => { results := [.lit (.bool false)], args := [d1, d2] }
  | _ => none }
def FnExactDecideCallWrongFalsely : Prop := fnExactDecideCallRow.holds Try.pinned (OpenSpec.ofChange fnExactDecideCallWrong)

/-- 'laws.FnExactIndexOf': WHATEVER THE INPUT: true; the input reads as it did. -/
def fnExactIndexOfSpec : ChangeSpec := { name := "fnExactIndexOf", fn := fun _ => fun
  | [d1, d2] => { results := [.lit (.bool true)], args := [d1, d2] }
  | _ => none }
def fnExactIndexOfRow : OpenClaim := { program := "ytnblnhlfifhkkae", sum := "dcd68c3a57c3251f194cfeb55f24574070f177a5d413f482e6f91020cebaba76", func := "loop.example/g00167/laws.FnExactIndexOf", spec := "fnExactIndexOf", inPlace := ["internal/bytealg.IndexByteString", "internal/bytealg.IndexString"], unfollowed := true, recurses := true, named := ["internal/bytealg.MaxLen"], apart := false }
def FnExactIndexOfSaid : Prop := fnExactIndexOfRow.holds Try.pinned (OpenSpec.ofChange fnExactIndexOfSpec)

/-- ITS FALSE NEIGHBOUR: 'it returns false'. Refute it at one input. -/
def fnExactIndexOfWrong : ChangeSpec := { name := "fnExactIndexOf", fn := fun _ => fun
  | [d1, d2] => { results := [.lit (.bool false)], args := [d1, d2] }
  | _ => none }
def FnExactIndexOfWrongFalsely : Prop := fnExactIndexOfRow.holds Try.pinned (OpenSpec.ofChange fnExactIndexOfWrong)

/-- 'laws.FnExactDecideByIndex': WHATEVER THE INPUT: true; the input reads as it did. -/
def fnExactDecideByIndexSpec : ChangeSpec := { name := "fnExactDecideByIndex", fn := fun _ => fun
  | [d1, d2] => { results := [.lit (.bool true)], args := [d1, d2] }
  | _ => none }
def fnExactDecideByIndexRow : OpenClaim := { program := "ytnblnhlfifhkkae", sum := "dcd68c3a57c3251f194cfeb55f24574070f177a5d413f482e6f91020cebaba76", func := "loop.example/g00167/laws.FnExactDecideByIndex", spec := "fnExactDecideByIndex", inPlace := ["internal/bytealg.IndexByteString", "internal/bytealg.IndexString"], unfollowed := true, recurses := true, named := ["internal/bytealg.MaxLen"], apart := false }
def FnExactDecideByIndexSaid : Prop := fnExactDecideByIndexRow.holds Try.pinned (OpenSpec.ofChange fnExactDecideByIndexSpec)

/-- ITS FALSE NEIGHBOUR: 'it returns false'. Refute it at one input. -/
def fnExactDecideByIndexWrong : ChangeSpec := { name := "fnExactDecideByIndex", fn := fun _ => fun
  | [d1, d2] => { results := [.lit (.bool false)], args := [d1, d2] }
  | _ => none }
def FnExactDecideByIndexWrongFalsely : Prop := fnExactDecideByIndexRow.holds Try.pinned (OpenSpec.ofChange fnExactDecideByIndexWrong)

/- THE SECOND FORM. 'bulk': how many values and letters a reading holds, each counted each time it is reached (what is shared counts as often as it is met; a slice's spare places count too). A statement '..UptoSaid' is the law's where the arguments, and the package variables that the reading takes, are together of bulk at most 1048576: NARROWER than '..Said'. Prove '..Said' where nothing that the law and all that it calls make is longer than what came in: it says more and counts as full. Else prove '..UptoSaid'. A law counts once. -/
mutual
def uptoBulk {H : Type} : DataW H → Nat
  | .lit (.string bytes) => bytes.length + 1
  | .lit _ => 1
  | .nil => 1
  | .ptr d => uptoBulk d + 1
  | .slice elems spare => uptoBulkAll elems + uptoBulkAll spare + 1
  | .agg parts => uptoBulkAll parts + 1
  | .iface _ d => uptoBulk d + 1
  | .map entries => uptoBulkEntries entries + 1
  | .held _ => 1
def uptoBulkAll {H : Type} : List (DataW H) → Nat
  | [] => 0
  | d :: r => uptoBulk d + uptoBulkAll r
def uptoBulkEntries {H : Type} : List (Lit × DataW H) → Nat
  | [] => 0
  | x :: r => uptoBulkEntry x + uptoBulkEntries r
def uptoBulkEntry {H : Type} : Lit × DataW H → Nat
  | (.string bytes, d) => bytes.length + uptoBulk d + 1
  | (_, d) => uptoBulk d + 1
 end
def uptoSmall : (H : Type) → List (DataW H) → Bool := fun _ ds => decide (uptoBulkAll ds ≤ 1048576)
def OpenSpec.upto (s : _root_.Go.ChangeSpec) : _root_.Go.OpenSpec := { _root_.Go.OpenSpec.ofChange s with cond := some uptoSmall }

/-- 'laws.FnExactPolicyText', WHERE WHAT IT READS IS OF BULK AT MOST 1048576: true; the input reads as it did. -/
def fnExactPolicyTextUptoRow : OpenClaim := { program := "ytnblnhlfifhkkae", sum := "dcd68c3a57c3251f194cfeb55f24574070f177a5d413f482e6f91020cebaba76", func := "loop.example/g00167/laws.FnExactPolicyText", spec := "fnExactPolicyText", inPlace := ["internal/abi.NoEscape"], unfollowed := true, recurses := true, apart := false, narrowed := true }
def FnExactPolicyTextUptoSaid : Prop := fnExactPolicyTextUptoRow.holds Try.pinned (OpenSpec.upto fnExactPolicyTextSpec)

/-- 'laws.FnExactPlainPolicy', WHERE WHAT IT READS IS OF BULK AT MOST 1048576: true; the input reads as it did. -/
def fnExactPlainPolicyUptoRow : OpenClaim := { program := "ytnblnhlfifhkkae", sum := "dcd68c3a57c3251f194cfeb55f24574070f177a5d413f482e6f91020cebaba76", func := "loop.example/g00167/laws.FnExactPlainPolicy", spec := "fnExactPlainPolicy", inPlace := ["internal/bytealg.abigen_runtime_cmpstring"], unfollowed := true, recurses := true, apart := false, narrowed := true }
def FnExactPlainPolicyUptoSaid : Prop := fnExactPlainPolicyUptoRow.holds Try.pinned (OpenSpec.upto fnExactPlainPolicySpec)

/-- 'laws.FnExactDecideCall', WHERE WHAT IT READS IS OF BULK AT MOST 1048576: true; the input reads as it did. -/
def fnExactDecideCallUptoRow : OpenClaim := { program := "ytnblnhlfifhkkae", sum := "dcd68c3a57c3251f194cfeb55f24574070f177a5d413f482e6f91020cebaba76", func := "loop.example/g00167/laws.FnExactDecideCall", spec := "fnExactDecideCall", unfollowed := true, recurses := true, apart := false, narrowed := true }
def FnExactDecideCallUptoSaid : Prop := fnExactDecideCallUptoRow.holds Try.pinned (OpenSpec.upto fnExactDecideCallSpec)

/-- 'laws.FnExactIndexOf', WHERE WHAT IT READS IS OF BULK AT MOST 1048576: true; the input reads as it did. -/
def fnExactIndexOfUptoRow : OpenClaim := { program := "ytnblnhlfifhkkae", sum := "dcd68c3a57c3251f194cfeb55f24574070f177a5d413f482e6f91020cebaba76", func := "loop.example/g00167/laws.FnExactIndexOf", spec := "fnExactIndexOf", inPlace := ["internal/bytealg.IndexByteString", "internal/bytealg.IndexString"], unfollowed := true, recurses := true, named := ["internal/bytealg.MaxLen"], apart := false, narrowed := true }
def FnExactIndexOfUptoSaid : Prop := fnExactIndexOfUptoRow.holds Try.pinned (OpenSpec.upto fnExactIndexOfSpec)

/-- 'laws.FnExactDecideByIndex', WHERE WHAT IT READS IS OF BULK AT MOST 1048576: true; the input reads as it did. -/
def fnExactDecideByIndexUptoRow : OpenClaim := { program := "ytnblnhlfifhkkae", sum := "dcd68c3a57c3251f194cfeb55f24574070f177a5d413f482e6f91020cebaba76", func := "loop.example/g00167/laws.FnExactDecideByIndex", spec := "fnExactDecideByIndex", inPlace := ["internal/bytealg.IndexByteString", "internal/bytealg.IndexString"], unfollowed := true, recurses := true, named := ["internal/bytealg.MaxLen"], apart := false, narrowed := true }
def FnExactDecideByIndexUptoSaid : Prop := fnExactDecideByIndexUptoRow.holds Try.pinned (OpenSpec.upto fnExactDecideByIndexSpec)

end Rows
end Go.Proofs.Ytnblnhlfifhkkae
