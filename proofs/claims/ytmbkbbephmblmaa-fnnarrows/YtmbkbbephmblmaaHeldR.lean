/- The law's own helpers over a result with bytes, by contracts. -/
import Derived.Test.YtmbkbbephmblmaaHeld
namespace Go.Proofs.Ytmbkbbephmblmaa
open Go.RowKit

end Go.Proofs.Ytmbkbbephmblmaa
