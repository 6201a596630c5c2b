/- The law's own helpers over a result with bytes, by contracts. -/
import Derived.Test.YtkpdbdcfimdnjaaHeld
namespace Go.Proofs.Ytkpdbdcfimdnjaa
open Go.RowKit

end Go.Proofs.Ytkpdbdcfimdnjaa
