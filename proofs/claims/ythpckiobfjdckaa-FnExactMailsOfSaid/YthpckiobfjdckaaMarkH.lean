/-
  Lists held against the laws' marks; lists of numbers marked, held and compared.
-/
import Derived.Deep.RegionHeld3
import Derived.Test.YthpckiobfjdckaaMarkS
namespace Go.Proofs.Ythpckiobfjdckaa
open Go.RowKit Go.Shelf

end Go.Proofs.Ythpckiobfjdckaa
