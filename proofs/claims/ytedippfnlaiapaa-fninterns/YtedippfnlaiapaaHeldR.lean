/- The law's own helpers over a result with bytes, by contracts. -/
import Derived.Test.YtedippfnlaiapaaHeld
namespace Go.Proofs.Ytedippfnlaiapaa
open Go.RowKit

end Go.Proofs.Ytedippfnlaiapaa
