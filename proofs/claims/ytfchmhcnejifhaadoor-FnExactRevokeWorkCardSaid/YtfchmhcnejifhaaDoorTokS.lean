/-
  Chapter 3: good links and good tokens, by the specification.
-/
import Derived.Deep.RegionHeld3
import Derived.Test.YtfchmhcnejifhaaDoorLinkV
import Derived.Test.YtfchmhcnejifhaaDoorName
import Derived.Test.YtfchmhcnejifhaaDoorTake
namespace Go.Proofs.YtfchmhcnejifhaaDoor
open Go.RowKit Go.Shelf

end Go.Proofs.YtfchmhcnejifhaaDoor
