/-
  The library's table of powers of ten, and strconv.Itoa under it.
-/
import Derived.Lib.AppendIntMem
import Derived.Shelf.Strconv.Itoa3
import Derived.Test.YtepoamekeackkaaDoorShelf
import Derived.Test.YtepoamekeackkaaDoorGen
import Derived.Test.YtepoamekeackkaaDoorTokM
namespace Go.Proofs.YtepoamekeackkaaDoor
open Go.RowKit Go.Shelf

/-- The library's table of powers of ten is as its text lays it. -/
def Tab (w : World) : Prop := Lib.TabIs Tryd.prog w "internal/strconv.uint64pow10" .u64 Lib.pow10Tab
theorem Tab.on {w w' : World} (h : Tab w) (hB : Below w.heap.size w w') : Tab w' := Lib.tabBelow_of_tabIs h w' hB
theorem Tab.on' {w w' : World} (h : Tab w) (hB : Below w.heap.size w.drew w') : Tab w' := h.on (below_drew1 hB)

theorem itoa_any (n : Int) (w : World) (h0 : -9223372036854775808 ≤ n) (h1 : n ≤ 9223372036854775807) (ht : Tab w) :
    Calls Tryd.prog 49 #[.int .i64 n] w fun e w' => e = .returned (.string (numT n)) ∧ Below w.heap.size w w' := by
  have h := Any.strconv_Itoa Tryd.lays171 n h0 h1 w ht
  refine h.mono ?_
  rintro e w' ⟨rfl, k, os, rfl⟩
  exact ⟨rfl, Lib.below_grow _ _ (Nat.le_refl _) k os⟩

end Go.Proofs.YtepoamekeackkaaDoor
