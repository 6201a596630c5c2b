/- MoveTerm: the model. -/
import Derived.Test.YtfldgeokigcokaaMvE
import Derived.Test.YtfldgeokigcokaaMvD
namespace Go.Proofs.Ytfldgeokigcokaa
open Go.RowKit

end Go.Proofs.Ytfldgeokigcokaa
