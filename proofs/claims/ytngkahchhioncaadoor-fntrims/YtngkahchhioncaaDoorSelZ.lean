/- A selector holds a packet: the model's side. -/
import Derived.Test.YtngkahchhioncaaDoorSelG
import Derived.Test.YtngkahchhioncaaDoorSelY
namespace Go.Proofs.YtngkahchhioncaaDoor
open Go.RowKit

set_option maxHeartbeats 400000 in
theorem l3Has_ok (a b m : Int) (w : World) :
    Calls Tryd.prog 133 #[.agg #[.int .i64 a, .int .i64 b], .int .i64 m] w fun e w' => e = .returned (.bool (btw m a b)) ∧ Below w.heap.size w w' := by
  go_enter Tryd.func133, Tryd.ntmps133
  go_wp2_with fail
  refine (l1In_ok _ _ _ _).mono ?_
  rintro e w1 ⟨rfl, rfl⟩
  go_wp2
  go_ret
  exact ⟨rfl, belowA _ _⟩

theorem inP_ways (x : S9) (f t r u v : Int) : (btw f x.a x.b = false ∧ Hid (inP x f t r u v = false)) ∨ (btw f x.a x.b = true ∧ btw t x.c x.d = false ∧ Hid (inP x f t r u v = false)) ∨ (btw f x.a x.b = true ∧ btw t x.c x.d = true ∧ btw u x.e x.f = false ∧ Hid (inP x f t r u v = false)) ∨ (btw f x.a x.b = true ∧ btw t x.c x.d = true ∧ btw u x.e x.f = true ∧ btw v x.g x.h = false ∧ Hid (inP x f t r u v = false)) ∨ (btw f x.a x.b = true ∧ btw t x.c x.d = true ∧ btw u x.e x.f = true ∧ btw v x.g x.h = true ∧ (x.r == 0) = true ∧ Hid (inP x f t r u v = true)) ∨ (btw f x.a x.b = true ∧ btw t x.c x.d = true ∧ btw u x.e x.f = true ∧ btw v x.g x.h = true ∧ (x.r == 0) = false ∧ Hid (inP x f t r u v = (x.r == r))) := by
  have e : inP x f t r u v = (btw f x.a x.b && (btw t x.c x.d && (btw u x.e x.f && (btw v x.g x.h && ((x.r == 0) || (x.r == r)))))) := by
    rw [Bool.eq_iff_iff]
    simp only [Bool.and_eq_true, Bool.or_eq_true, beq_iff_eq, inP_iff, btw_iff]
  unfold Hid
  rw [e]
  cases btw f x.a x.b <;> cases btw t x.c x.d <;> cases btw u x.e x.f <;> cases btw v x.g x.h <;> cases (x.r == 0) <;> simp

set_option maxHeartbeats 2000000 in
theorem l3Holds_ok (x : S9) (f t r l u v : Int) (s : Option Addr) (n ca : Nat) (w : World) :
    Calls Tryd.prog 103 #[.agg #[.int .i64 x.a, .int .i64 x.b, .int .i64 x.c, .int .i64 x.d, .int .i64 x.e, .int .i64 x.f, .int .i64 x.g, .int .i64 x.h, .int .i64 x.r], .agg #[.int .i64 f, .int .i64 t, .int .i64 r, .int .i64 l, .int .i64 u, .int .i64 v, .slice s n ca]] w fun e w' => e = .returned (.bool (inP x f t r u v)) ∧ Below w.heap.size w w' := by
  have VX := (V.new w [.int .i64 x.a, .int .i64 x.b, .int .i64 x.c, .int .i64 x.d, .int .i64 x.e, .int .i64 x.f, .int .i64 x.g, .int .i64 x.h, .int .i64 x.r] 32).kept (belowA _ (.cells #[.int .i64 f, .int .i64 t, .int .i64 r, .int .i64 l, .int .i64 u, .int .i64 v, .slice s n ca] 26))
  have VY : V ((w.alloc (.cells #[.int .i64 x.a, .int .i64 x.b, .int .i64 x.c, .int .i64 x.d, .int .i64 x.e, .int .i64 x.f, .int .i64 x.g, .int .i64 x.h, .int .i64 x.r] 32)).alloc (.cells #[.int .i64 f, .int .i64 t, .int .i64 r, .int .i64 l, .int .i64 u, .int .i64 v, .slice s n ca] 26)) (w.heap.size + 1) [.int .i64 f, .int .i64 t, .int .i64 r, .int .i64 l, .int .i64 u, .int .i64 v, .slice s n ca] := V.newAt _ _ _ _ (by simp)
  have B := belowA2 w (.cells #[.int .i64 x.a, .int .i64 x.b, .int .i64 x.c, .int .i64 x.d, .int .i64 x.e, .int .i64 x.f, .int .i64 x.g, .int .i64 x.h, .int .i64 x.r] 32) (.cells #[.int .i64 f, .int .i64 t, .int .i64 r, .int .i64 l, .int .i64 u, .int .i64 v, .slice s n ca] 26)
  rcases inP_ways x f t r u v with ⟨h1, hr⟩ | ⟨h1, h2, hr⟩ | ⟨h1, h2, h3, hr⟩ | ⟨h1, h2, h3, h4, hr⟩ | ⟨h1, h2, h3, h4, h5, hr⟩ | ⟨h1, h2, h3, h4, h5, hr⟩
  all_goals
    rw [hr.out]
    clear hr
    go_enter Tryd.func103, Tryd.ntmps103
    obtain ⟨_, fX, zX⟩ := VX.open
    obtain ⟨_, fY, zY⟩ := VY.open
    go_wp2_with (first | (go_at_call 133; refine (l3Has_ok _ _ _ _).mono ?_; rintro e w2 ⟨rfl, b2⟩; replace VX := VX.kept b2; replace VY := VY.kept b2; replace B := thenB B b2; clear b2 fX zX fY zY; obtain ⟨_, fX, zX⟩ := VX.open; obtain ⟨_, fY, zY⟩ := VY.open) | fail)
    go_ret
    exact ⟨rfl, B⟩

theorem hoP_model (x : S9) (f t r l u v : Int) (n : Nat) :
    ((sfC x == 0) = false ∧ Hid (hoP x f t r l u v n = false)) ∨
    ((sfC x == 0) = true ∧ (pfC f t r l u v n == 0) = false ∧ Hid (hoP x f t r l u v n = false)) ∨
    ((sfC x == 0) = true ∧ (pfC f t r l u v n == 0) = true ∧ Hid (hoP x f t r l u v n = inP x f t r u v)) := by
  unfold Hid hoP
  generalize (sfC x == 0) = p
  generalize (pfC f t r l u v n == 0) = q
  cases p <;> cases q <;> simp

end Go.Proofs.YtngkahchhioncaaDoor
