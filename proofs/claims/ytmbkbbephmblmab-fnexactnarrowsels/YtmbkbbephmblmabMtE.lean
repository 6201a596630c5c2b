/- What two selectors have in common: the model, where one has a fault. -/
import Derived.Test.YtmbkbbephmblmabMtA
import Derived.Test.YtmbkbbephmblmabSelG
import Derived.Test.YtmbkbbephmblmabSelR
namespace Go.Proofs.Ytmbkbbephmblmab
open Go.RowKit

end Go.Proofs.Ytmbkbbephmblmab
