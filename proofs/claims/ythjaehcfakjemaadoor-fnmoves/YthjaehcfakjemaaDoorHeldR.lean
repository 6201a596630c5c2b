/- The law's own helpers over a result with bytes, by contracts. -/
import Derived.Test.YthjaehcfakjemaaDoorHeld
namespace Go.Proofs.YthjaehcfakjemaaDoor
open Go.RowKit

end Go.Proofs.YthjaehcfakjemaaDoor
