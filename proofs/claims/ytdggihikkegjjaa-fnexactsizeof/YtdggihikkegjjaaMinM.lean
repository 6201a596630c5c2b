/- The lesser and the greater of two, the model's. -/
import Derived.Test.YtdggihikkegjjaaHeld
namespace Go.Proofs.Ytdggihikkegjjaa
open Go.RowKit

theorem l3Min_ok (x y : Int) (w : World) : Calls Try.prog 86 #[.int .i64 x, .int .i64 y] w fun e w' => e = .returned (.int .i64 (min x y)) ∧ w' = w := by
  rcases (by omega : x < y ∨ y ≤ x) with h | h
  · have e : min x y = x := by omega
    have E := Hid.mk e
    clear e
    go_enter Try.func86, Try.ntmps86
    go_wp2
    go_ret
    exact ⟨ret_int E.out.symm, rfl⟩
  · have e : min x y = y := by omega
    have E := Hid.mk e
    clear e
    go_enter Try.func86, Try.ntmps86
    go_wp2
    go_ret
    exact ⟨ret_int E.out.symm, rfl⟩

end Go.Proofs.Ytdggihikkegjjaa
