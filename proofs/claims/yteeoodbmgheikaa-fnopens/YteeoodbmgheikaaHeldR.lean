/- The law's own helpers over a result with bytes, by contracts. -/
import Derived.Test.YteeoodbmgheikaaHeld
namespace Go.Proofs.Yteeoodbmgheikaa
open Go.RowKit

end Go.Proofs.Yteeoodbmgheikaa
