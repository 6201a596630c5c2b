/- Faults of selectors: the model's side. -/
import Derived.Test.YtngkahchhioncaaDoorSelA
namespace Go.Proofs.YtngkahchhioncaaDoor
open Go.RowKit

set_option maxHeartbeats 400000 in
theorem l3Range_ok (l h t : Int) (w : World) :
    Calls Tryd.prog 118 #[.agg #[.int .i64 l, .int .i64 h], .int .i64 t] w fun e w' => e = .returned (.bool (rngB l h t)) ∧ Below w.heap.size w w' := by
  unfold rngB
  rcases rng_cases l h t with h1 | ⟨h1, h2⟩ | ⟨h1, h2, h3⟩ | ⟨h1, h2, h3⟩
  all_goals
    go_enter Tryd.func118, Tryd.ntmps118
    go_wp2
    go_ret
    refine ⟨?_, belowA _ _⟩
    simp [*]

set_option maxHeartbeats 400000 in
theorem l3All_ok (w : World) :
    Calls Tryd.prog 120 #[] w fun e w' => e = .returned (.agg #[.int .i64 0, .int .i64 65535]) ∧ Below w.heap.size w w' := by
  go_enter Tryd.func120, Tryd.ntmps120
  go_wp2
  refine bodyPost_ret (v := .agg #[.int .i64 0, .int .i64 65535]) (by simp [results, Tryd.results120, go_sem]) rfl ⟨rfl, ?_⟩
  repeat' (first | exact Below.refl _ _ | refine Below.alloc ?_ (by simp) _ | refine Below.setCell ?_ (by simp) _ | refine Below.drew ?_)

end Go.Proofs.YtngkahchhioncaaDoor
