/- SizeOf: both sides. -/
import Derived.Test.YteeoodbmgheikaaTmV
namespace Go.Proofs.Yteeoodbmgheikaa
open Go.RowKit

set_option maxHeartbeats 1000000 in
theorem l5At_ok (a : Option Addr) (n ca : Nat) (q : Int) (w : World) (hx : n ≤ maxLen) :
    Calls Try.prog 49 #[.slice a n ca, .int .i64 q] w fun e w' => e = .returned (.bool (btw q 0 ((n : Int) - 1))) ∧ w' = w := by
  unfold maxLen at hx
  have CI := Hid.mk (l1In_ok q 0 ((n : Int) - 1))
  go_enter Try.func49, Try.ntmps49
  go_wp2_with fail
  refine (CI.out _).mono ?_
  rintro e wq ⟨rfl, rfl⟩
  go_wp2
  go_ret
  exact ⟨rfl, rfl⟩

theorem plsOk_one (m : Nat) (q : Int) : plsOk m [q] = btw q 0 ((m : Int) - 1) := by unfold plsOk; simp

theorem fill_at' (xs : List Int) (k n : Nat) (h : xs.length = n) (hk : k ≤ n) (i : Nat) (hi : i < k) : (fill xs k n).getD i 0 = xs.getD i 0 := by
  unfold fill
  simp only [List.getD]
  rw [List.getElem?_append_left (by rw [List.length_take]; omega), List.getElem?_take_of_lt hi]

end Go.Proofs.Yteeoodbmgheikaa
