/- The law's own helpers over a result with bytes, by contracts. -/
import Derived.Test.YtlkeeablmnfmdabDoorHeld
namespace Go.Proofs.YtlkeeablmnfmdabDoor
open Go.RowKit

end Go.Proofs.YtlkeeablmnfmdabDoor
