/-
  A number among others, by the specification and by the library.
-/
import Derived.Shelf.Slices.Turned
import Derived.Test.YthpckiobfjdckaaListV
import Derived.Test.YthpckiobfjdckaaSrtM
import Derived.Test.YthpckiobfjdckaaShelf
namespace Go.Proofs.Ythpckiobfjdckaa
open Go.RowKit Go.Shelf

theorem contains_isI (zs : List Int) (z : Int) : zs.contains z = isI zs z := by
  rw [Bool.eq_iff_iff]
  unfold isI
  rw [List.any_eq_true, List.contains_iff_mem]
  constructor
  · intro h
    exact ⟨z, h, by simp⟩
  · rintro ⟨x, hx, he⟩
    have : x = z := by simpa using he
    rw [← this]
    exact hx

end Go.Proofs.Ythpckiobfjdckaa
