/- The law's own helpers over a result with bytes, by contracts. -/
import Derived.Test.YtmbkbbephmblmacHeld
namespace Go.Proofs.Ytmbkbbephmblmac
open Go.RowKit

end Go.Proofs.Ytmbkbbephmblmac
