/- The law on 'HasPorts': its walk. -/
import Derived.Test.YtlkeeablmnfmdabPkt
namespace Go.Proofs.Ytlkeeablmnfmdab
open Go.RowKit

set_option maxHeartbeats 1000000 in
theorem xPorts_walk (r : Int) (w : World) :
    Calls Try.prog 3 #[.int .i64 r] w fun e w' => e = .returned (.bool true) ∧ Below w.heap.size w w' := by
  have CS := Hid.mk (fun w => specHasPorts_ok r w)
  have CI := Hid.mk (fun w => implHasPorts_ok r w)
  generalize portsP r = v at *
  cases v
  all_goals
    go_enter Try.func3, Try.ntmps3
    go_wp2_with fail
    refine (CS.out _).mono ?_
    rintro e w1 ⟨rfl, rfl⟩
    go_wp2_with fail
    refine (CI.out _).mono ?_
    rintro e w2 ⟨rfl, rfl⟩
    go_wp2
    go_ret
    exact ⟨rfl, Below.refl _ _⟩

end Go.Proofs.Ytlkeeablmnfmdab
