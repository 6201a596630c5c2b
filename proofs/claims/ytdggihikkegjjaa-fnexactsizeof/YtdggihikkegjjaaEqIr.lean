/- 'IntResult' held against one another. -/
import Derived.Test.YtdggihikkegjjaaHeldR
namespace Go.Proofs.Ytdggihikkegjjaa
open Go.RowKit

set_option maxRecDepth 20000 in
set_option maxHeartbeats 4000000 in
theorem eqIntResult_ok (k a : Int) (w : World) :
    Calls Try.prog 35 #[.agg #[.int .i64 k, .int .i64 a], .agg #[.int .i64 k, .int .i64 a]] w fun e w' => e = .returned (.bool true) ∧ Below w.heap.size w w' := by
  go_enter Try.func35, Try.ntmps35
  go_wp2
  go_ret
  exact ⟨rfl, belowA2 _ _ _⟩

end Go.Proofs.Ytdggihikkegjjaa
