/- The law's own helpers over a result with bytes, by contracts. -/
import Derived.Test.YtngkahchhioncaaDoorHeld
namespace Go.Proofs.YtngkahchhioncaaDoor
open Go.RowKit

end Go.Proofs.YtngkahchhioncaaDoor
