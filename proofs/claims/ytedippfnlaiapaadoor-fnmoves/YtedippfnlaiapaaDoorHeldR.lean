/- The law's own helpers over a result with bytes, by contracts. -/
import Derived.Test.YtedippfnlaiapaaDoorHeld
namespace Go.Proofs.YtedippfnlaiapaaDoor
open Go.RowKit

end Go.Proofs.YtedippfnlaiapaaDoor
