/- 'IntResult' held against one another. -/
import Derived.Test.YthkmoabkeblbjaaHeldR
namespace Go.Proofs.Ythkmoabkeblbjaa
open Go.RowKit

set_option maxRecDepth 20000 in
set_option maxHeartbeats 4000000 in
theorem eqIntResult_ok (k a : Int) (w : World) :
    Calls Try.prog 50 #[.agg #[.int .i64 k, .int .i64 a], .agg #[.int .i64 k, .int .i64 a]] w fun e w' => e = .returned (.bool true) ∧ Below w.heap.size w w' := by
  go_enter Try.func50, Try.ntmps50
  go_wp2
  go_ret
  exact ⟨rfl, belowA2 _ _ _⟩

end Go.Proofs.Ythkmoabkeblbjaa
