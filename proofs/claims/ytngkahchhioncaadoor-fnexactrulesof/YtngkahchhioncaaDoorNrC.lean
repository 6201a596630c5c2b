/- Lists of selectors narrowed: the program's walk. -/
import Derived.Test.YtngkahchhioncaaDoorNrB
import Derived.Test.YtngkahchhioncaaDoorNewC
import Derived.WalkMore
namespace Go.Proofs.YtngkahchhioncaaDoor
open Go.RowKit

end Go.Proofs.YtngkahchhioncaaDoor
