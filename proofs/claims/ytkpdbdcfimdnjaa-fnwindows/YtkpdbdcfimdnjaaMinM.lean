/- The lesser and the greater of two, the model's. -/
import Derived.Test.YtkpdbdcfimdnjaaHeld
namespace Go.Proofs.Ytkpdbdcfimdnjaa
open Go.RowKit

theorem l3Max_ok (x y : Int) (w : World) : Calls Try.prog 42 #[.int .i64 x, .int .i64 y] w fun e w' => e = .returned (.int .i64 (max x y)) ∧ w' = w := by
  rcases (by omega : y < x ∨ x ≤ y) with h | h
  · have e : max x y = x := by omega
    have E := Hid.mk e
    clear e
    go_enter Try.func42, Try.ntmps42
    go_wp2
    go_ret
    exact ⟨ret_int E.out.symm, rfl⟩
  · have e : max x y = y := by omega
    have E := Hid.mk e
    clear e
    go_enter Try.func42, Try.ntmps42
    go_wp2
    go_ret
    exact ⟨ret_int E.out.symm, rfl⟩

end Go.Proofs.Ytkpdbdcfimdnjaa
