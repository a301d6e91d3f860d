/-
  How rules, calls and lists of rules that come in are read.
-/
import Derived.WalkKit
import Derived.ProofKit
import Derived.OpenShut
import Derived.Lib.SmallJoins
import Derived.Deep.Slices
import Derived.Test.YthpckiobfjdckaaGreatRule
namespace Go.Proofs.YthpckiobfjdckaaGreat
open Go.ChangeShapes Go.WideShapes Go.ChangeAt Go.RowKit Go.Joins Go.Deep

/-- Its texts are no longer than a text may be. -/
def Ru.fits (r : Ru) : Prop := r.who.size ≤ maxLen ∧ r.method.size ≤ maxLen ∧ r.path.size ≤ maxLen
def Ca.fits (r : Ca) : Prop := r.who.size ≤ maxLen ∧ r.method.size ≤ maxLen ∧ r.path.size ≤ maxLen

set_option maxRecDepth 100000 in
theorem cellsRule : Tryz.prog.cellsOf 83 = 4 := by kernel_rfl
set_option maxRecDepth 100000 in
theorem openRu {H : Type} {enc : TypeId × Value → H} {W : World} {base : Nat} {v : Value} {d : DataW H} {p : List MemPlace} (hv : Value.okWide Tryz.prog W .any base 83 v) (h : DataW.Trod enc Tryz.prog W 0 (fun _ => true) true 83 v d p) :
    ∃ r : Ru, v = r.val ∧ r.fits := by
  obtain ⟨c0, c1, c2, c3, y0, y1, y2, y3, m, rfl, _, _, h0, h1, h2, h3⟩ := open_agg4 Tryz.underlying83 (by kernel_rfl) cellsRule hv h
  obtain ⟨x0, e0, _⟩ := DataW.trod_bool Tryz.underlying4 h0
  obtain ⟨x1, e1, _, w1⟩ := DataW.trod_string Tryz.underlying9 h1
  obtain ⟨x2, e2, _, w2⟩ := DataW.trod_string Tryz.underlying9 h2
  obtain ⟨x3, e3, _, w3⟩ := DataW.trod_string Tryz.underlying9 h3
  simp only [List.cons.injEq, and_true] at e0 e1 e2 e3
  subst e0 e1 e2 e3
  exact ⟨⟨x0, x1, x2, x3⟩, rfl, w1, w2, w3⟩

end Go.Proofs.YthpckiobfjdckaaGreat
