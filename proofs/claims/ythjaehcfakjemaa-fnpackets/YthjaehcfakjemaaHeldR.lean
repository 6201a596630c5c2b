/- The law's own helpers over a result with bytes, by contracts. -/
import Derived.Test.YthjaehcfakjemaaHeld
namespace Go.Proofs.Ythjaehcfakjemaa
open Go.RowKit

end Go.Proofs.Ythjaehcfakjemaa
