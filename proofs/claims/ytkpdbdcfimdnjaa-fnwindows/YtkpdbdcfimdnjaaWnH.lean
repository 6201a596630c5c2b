/- The laws' own helpers over 'Window' and 'WindowResult', by contract. -/
import Derived.Test.YtkpdbdcfimdnjaaWnA
import Derived.Test.YtkpdbdcfimdnjaaIntH
import Derived.Test.YtkpdbdcfimdnjaaVar
namespace Go.Proofs.Ytkpdbdcfimdnjaa
open Go.RowKit

set_option maxHeartbeats 2000000 in
theorem toWindow_ok (x : Wn) (w : World) :
    Calls Try.prog 27 #[.agg #[.int .i64 x.t, .int .i64 x.b]] w fun e w' => e = .returned (.agg #[.int .i64 x.t, .int .i64 x.b]) ∧ Below w.heap.size w w' := by
  go_enter Try.func27, Try.ntmps27
  have B := Below.refl w.heap.size w
  go_wp2
  refine bodyPost_ret (v := .agg #[.int .i64 x.t, .int .i64 x.b]) (by simp [results, Try.results27, go_sem]) rfl ⟨rfl, ?_⟩
  repeat' first | with_reducible exact B | with_reducible refine Below.setCell ?_ ?_ _ | with_reducible refine Below.alloc ?_ ?_ _ | (simp; try omega)

set_option maxHeartbeats 2000000 in
theorem eqWindow_ok (x : Wn) (w : World) :
    Calls Try.prog 54 #[.agg #[.int .i64 x.t, .int .i64 x.b], .agg #[.int .i64 x.t, .int .i64 x.b]] w fun e w' => e = .returned (.bool true) ∧ Below w.heap.size w w' := by
  go_enter Try.func54, Try.ntmps54
  have B := Below.refl w.heap.size w
  go_wp2
  go_ret
  exact ⟨rfl, belowA2 _ _ _⟩

set_option maxHeartbeats 1000000 in
theorem eqWindowResult_ok (k s : Int) (x : Wn) (w : World) :
    Calls Try.prog 29 #[.agg #[.int .i64 k, .int .i64 s, .int .i64 x.t, .int .i64 x.b], .agg #[.int .i64 k, .int .i64 s, .int .i64 x.t, .int .i64 x.b]] w fun e w' => e = .returned (.bool true) ∧ Below w.heap.size w w' := by
  go_enter Try.func29, Try.ntmps29
  go_wp2_with fail
  refine (eqWindow_ok x _).mono ?_
  rintro e w1 ⟨rfl, b1⟩
  have B1 := thenB (belowA2 _ _ _) b1
  go_wp2
  go_ret
  exact ⟨rfl, B1⟩

set_option maxHeartbeats 1000000 in
theorem eqIntResult_ok9 (k s : Int) (w : World) :
    Calls Try.prog 30 #[.agg #[.int .i64 k, .int .i64 s], .agg #[.int .i64 k, .int .i64 s]] w fun e w' => e = .returned (.bool true) ∧ Below w.heap.size w w' := by
  go_enter Try.func30, Try.ntmps30
  go_wp2
  go_ret
  exact ⟨rfl, belowA2 _ _ _⟩

end Go.Proofs.Ytkpdbdcfimdnjaa
