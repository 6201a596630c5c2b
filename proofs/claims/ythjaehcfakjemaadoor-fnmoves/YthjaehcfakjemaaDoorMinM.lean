/- The lesser and the greater of two, the model's. -/
import Derived.Test.YthjaehcfakjemaaDoorHeld
namespace Go.Proofs.YthjaehcfakjemaaDoor
open Go.RowKit

theorem l3Min_ok (x y : Int) (w : World) : Calls Tryd.prog 64 #[.int .i64 x, .int .i64 y] w fun e w' => e = .returned (.int .i64 (min x y)) ∧ w' = w := by
  rcases (by omega : x < y ∨ y ≤ x) with h | h
  · have e : min x y = x := by omega
    have E := Hid.mk e
    clear e
    go_enter Tryd.func64, Tryd.ntmps64
    go_wp2
    go_ret
    exact ⟨ret_int E.out.symm, rfl⟩
  · have e : min x y = y := by omega
    have E := Hid.mk e
    clear e
    go_enter Tryd.func64, Tryd.ntmps64
    go_wp2
    go_ret
    exact ⟨ret_int E.out.symm, rfl⟩

theorem l3Max_ok (x y : Int) (w : World) : Calls Tryd.prog 43 #[.int .i64 x, .int .i64 y] w fun e w' => e = .returned (.int .i64 (max x y)) ∧ w' = w := by
  rcases (by omega : y < x ∨ x ≤ y) with h | h
  · have e : max x y = x := by omega
    have E := Hid.mk e
    clear e
    go_enter Tryd.func43, Tryd.ntmps43
    go_wp2
    go_ret
    exact ⟨ret_int E.out.symm, rfl⟩
  · have e : max x y = y := by omega
    have E := Hid.mk e
    clear e
    go_enter Tryd.func43, Tryd.ntmps43
    go_wp2
    go_ret
    exact ⟨ret_int E.out.symm, rfl⟩

end Go.Proofs.YthjaehcfakjemaaDoor
