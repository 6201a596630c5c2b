/- The law's own helpers over a result with bytes, by contracts. -/
import Derived.Test.YtfldgeokigcokaaGreatHeld
namespace Go.Proofs.YtfldgeokigcokaaGreat
open Go.RowKit

end Go.Proofs.YtfldgeokigcokaaGreat
