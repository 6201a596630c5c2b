/- Faults of selectors: the model's side. -/
import Derived.Test.YteeoodbmgheikaaSelA
namespace Go.Proofs.Yteeoodbmgheikaa
open Go.RowKit

end Go.Proofs.Yteeoodbmgheikaa
