/- The draws of two selectors. -/
import Derived.Test.YtngkahchhioncaaDoorDSel2
import Derived.BigRegion
namespace Go.Proofs.YtngkahchhioncaaDoor
open Go.RowKit

theorem extractP0 (u v : Value) (w : World) : (Instr.extract (.tuple #[u, v]) 0).run Tryd.prog w = .ok u w := by kernel_rfl

theorem extractP1 (u v : Value) (w : World) : (Instr.extract (.tuple #[u, v]) 1).run Tryd.prog w = .ok v w := by kernel_rfl

end Go.Proofs.YtngkahchhioncaaDoor
