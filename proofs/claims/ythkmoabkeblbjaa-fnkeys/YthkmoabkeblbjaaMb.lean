/- Put together: TmV, TmW. -/
import Derived.Test.YthkmoabkeblbjaaTmE
import Derived.Test.YthkmoabkeblbjaaTmQ
import Derived.Test.YthkmoabkeblbjaaMinM

/- Sizes: the model. -/
namespace Go.Proofs.Ythkmoabkeblbjaa
open Go.RowKit

theorem own_some {k : IntKind} {e : TypeId} {w : World} {base : Nat} {a : Option Addr} {cap : Nat} {zs : List Int} (h : Own k e w base a cap zs) (h0 : 0 < zs.length) : ∃ g, a = some ⟨g, 0, none⟩ := by
  rcases h.2 with ⟨_, h1⟩ | ⟨g, cap', cur, hv, _⟩
  · omega
  · simp only [Value.slice.injEq, true_and] at hv; exact ⟨g, hv.1⟩

end Go.Proofs.Ythkmoabkeblbjaa

/- SizeOf of the model; the fault of a place (SizeOf of the program: RkA). -/
namespace Go.Proofs.Ythkmoabkeblbjaa
open Go.RowKit

set_option maxHeartbeats 1000000 in
theorem l5At_ok (a : Option Addr) (n ca : Nat) (q : Int) (w : World) (hx : n ≤ maxLen) :
    Calls Try.prog 93 #[.slice a n ca, .int .i64 q] w fun e w' => e = .returned (.bool (btw q 0 ((n : Int) - 1))) ∧ w' = w := by
  unfold maxLen at hx
  have CI := Hid.mk (l1In_ok q 0 ((n : Int) - 1))
  go_enter Try.func93, Try.ntmps93
  go_wp2_with fail
  refine (CI.out _).mono ?_
  rintro e wq ⟨rfl, rfl⟩
  go_wp2
  go_ret
  exact ⟨rfl, rfl⟩

theorem plsOk_one (m : Nat) (q : Int) : plsOk m [q] = btw q 0 ((m : Int) - 1) := by unfold plsOk; simp

end Go.Proofs.Ythkmoabkeblbjaa
