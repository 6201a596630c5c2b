/- The law's own helpers over a result with bytes, by contracts. -/
import Derived.Test.YtlkeeablmnfmdabHeld
namespace Go.Proofs.Ytlkeeablmnfmdab
open Go.RowKit

end Go.Proofs.Ytlkeeablmnfmdab
