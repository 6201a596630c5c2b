/- The law's own helpers over a result with bytes, by contracts. -/
import Derived.Test.YtmbkbbephmblmabHeld
namespace Go.Proofs.Ytmbkbbephmblmab
open Go.RowKit

end Go.Proofs.Ytmbkbbephmblmab
