/-
  Chapter 5: lists of versions by the specification: when one is good, copies, SnapshotAt.
-/
import Derived.Test.YthpckiobfjdckaaGreatSnS
import Derived.Test.YthpckiobfjdckaaGreatSnJ
import Derived.Test.YthpckiobfjdckaaGreatDfV
import Derived.Test.YthpckiobfjdckaaGreatTake
namespace Go.Proofs.YthpckiobfjdckaaGreat
open Go.RowKit Go.Shelf

end Go.Proofs.YthpckiobfjdckaaGreat
