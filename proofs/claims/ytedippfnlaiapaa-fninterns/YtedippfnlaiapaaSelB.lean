/- Faults of selectors: the model's side. -/
import Derived.Test.YtedippfnlaiapaaSelA
namespace Go.Proofs.Ytedippfnlaiapaa
open Go.RowKit

end Go.Proofs.Ytedippfnlaiapaa
