/- Faults of selectors: the model's side. -/
import Derived.Test.YtedippfnlaiapaaDoorSelA
namespace Go.Proofs.YtedippfnlaiapaaDoor
open Go.RowKit

end Go.Proofs.YtedippfnlaiapaaDoor
