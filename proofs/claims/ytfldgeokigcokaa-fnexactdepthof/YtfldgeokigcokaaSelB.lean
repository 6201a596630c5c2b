/- Faults of selectors: the model's side. -/
import Derived.Test.YtfldgeokigcokaaSelA
namespace Go.Proofs.Ytfldgeokigcokaa
open Go.RowKit

end Go.Proofs.Ytfldgeokigcokaa
