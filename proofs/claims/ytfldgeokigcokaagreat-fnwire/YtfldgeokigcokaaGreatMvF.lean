/- MoveTerm: the model. -/
import Derived.Test.YtfldgeokigcokaaGreatMvE
import Derived.Test.YtfldgeokigcokaaGreatMvD
namespace Go.Proofs.YtfldgeokigcokaaGreat
open Go.RowKit

end Go.Proofs.YtfldgeokigcokaaGreat
