/- The law's own helpers over a result with bytes, by contracts. -/
import Derived.Test.YthkmoabkeblbjaaHeld
namespace Go.Proofs.Ythkmoabkeblbjaa
open Go.RowKit

end Go.Proofs.Ythkmoabkeblbjaa
