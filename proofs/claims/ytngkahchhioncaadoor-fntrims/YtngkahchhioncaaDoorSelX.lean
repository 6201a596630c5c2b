/- One selector within another one: the model. -/
import Derived.Test.YtngkahchhioncaaDoorSelG
import Derived.Test.YtngkahchhioncaaDoorSelW
import Derived.Test.YtngkahchhioncaaDoorSelI
namespace Go.Proofs.YtngkahchhioncaaDoor
open Go.RowKit

@[irreducible] def inR (l h k g : Int) : Bool := decide (k ≤ l) && decide (h ≤ g)

theorem inR_iff {l h k g : Int} : inR l h k g = true ↔ k ≤ l ∧ h ≤ g := by unfold inR; simp

set_option maxHeartbeats 400000 in
theorem l3In_ok (l h k g : Int) (w : World) :
    Calls Tryd.prog 135 #[.agg #[.int .i64 l, .int .i64 h], .agg #[.int .i64 k, .int .i64 g]] w fun e w' => e = .returned (.bool (inR l h k g)) ∧ Below w.heap.size w w' := by
  unfold inR
  cases h1 : decide (k ≤ l)
  all_goals
    go_enter Tryd.func135, Tryd.ntmps135
    go_wp2
    go_ret
    exact ⟨rfl, belowA2 _ _ _⟩

theorem within_ways (x y : S9) :
    (inR x.a x.b y.a y.b = false ∧ Hid (inW x y = false)) ∨
    (inR x.a x.b y.a y.b = true ∧ inR x.c x.d y.c y.d = false ∧ Hid (inW x y = false)) ∨
    (inR x.a x.b y.a y.b = true ∧ inR x.c x.d y.c y.d = true ∧ inR x.e x.f y.e y.f = false ∧ Hid (inW x y = false)) ∨
    (inR x.a x.b y.a y.b = true ∧ inR x.c x.d y.c y.d = true ∧ inR x.e x.f y.e y.f = true ∧ inR x.g x.h y.g y.h = false ∧ Hid (inW x y = false)) ∨
    (inR x.a x.b y.a y.b = true ∧ inR x.c x.d y.c y.d = true ∧ inR x.e x.f y.e y.f = true ∧ inR x.g x.h y.g y.h = true ∧ (y.r == 0) = true ∧ Hid (inW x y = true)) ∨
    (inR x.a x.b y.a y.b = true ∧ inR x.c x.d y.c y.d = true ∧ inR x.e x.f y.e y.f = true ∧ inR x.g x.h y.g y.h = true ∧ (y.r == 0) = false ∧ Hid (inW x y = (y.r == x.r))) := by
  have e : inW x y = (inR x.a x.b y.a y.b && (inR x.c x.d y.c y.d && (inR x.e x.f y.e y.f && (inR x.g x.h y.g y.h && ((y.r == 0) || (y.r == x.r)))))) := by
    unfold inW
    rw [Bool.eq_iff_iff]
    simp only [Bool.and_eq_true, Bool.or_eq_true, beq_iff_eq, inS_iff, inR_iff, tkP_iff]
    omega
  unfold Hid
  rw [e]
  cases inR x.a x.b y.a y.b <;> cases inR x.c x.d y.c y.d <;> cases inR x.e x.f y.e y.f <;> cases inR x.g x.h y.g y.h <;> cases (y.r == 0) <;> simp

set_option maxHeartbeats 2000000 in
theorem l3Within_ok (x y : S9) (w : World) :
    Calls Tryd.prog 112 #[.agg #[.int .i64 x.a, .int .i64 x.b, .int .i64 x.c, .int .i64 x.d, .int .i64 x.e, .int .i64 x.f, .int .i64 x.g, .int .i64 x.h, .int .i64 x.r], .agg #[.int .i64 y.a, .int .i64 y.b, .int .i64 y.c, .int .i64 y.d, .int .i64 y.e, .int .i64 y.f, .int .i64 y.g, .int .i64 y.h, .int .i64 y.r]] w fun e w' => e = .returned (.bool (inW x y)) ∧ Below w.heap.size w w' := by
  have VX := (V.new w [.int .i64 x.a, .int .i64 x.b, .int .i64 x.c, .int .i64 x.d, .int .i64 x.e, .int .i64 x.f, .int .i64 x.g, .int .i64 x.h, .int .i64 x.r] 32).kept (belowA _ (.cells #[.int .i64 y.a, .int .i64 y.b, .int .i64 y.c, .int .i64 y.d, .int .i64 y.e, .int .i64 y.f, .int .i64 y.g, .int .i64 y.h, .int .i64 y.r] 32))
  have VY : V ((w.alloc (.cells #[.int .i64 x.a, .int .i64 x.b, .int .i64 x.c, .int .i64 x.d, .int .i64 x.e, .int .i64 x.f, .int .i64 x.g, .int .i64 x.h, .int .i64 x.r] 32)).alloc (.cells #[.int .i64 y.a, .int .i64 y.b, .int .i64 y.c, .int .i64 y.d, .int .i64 y.e, .int .i64 y.f, .int .i64 y.g, .int .i64 y.h, .int .i64 y.r] 32)) (w.heap.size + 1) [.int .i64 y.a, .int .i64 y.b, .int .i64 y.c, .int .i64 y.d, .int .i64 y.e, .int .i64 y.f, .int .i64 y.g, .int .i64 y.h, .int .i64 y.r] := V.newAt _ _ _ _ (by simp)
  have B := belowA2 w (.cells #[.int .i64 x.a, .int .i64 x.b, .int .i64 x.c, .int .i64 x.d, .int .i64 x.e, .int .i64 x.f, .int .i64 x.g, .int .i64 x.h, .int .i64 x.r] 32) (.cells #[.int .i64 y.a, .int .i64 y.b, .int .i64 y.c, .int .i64 y.d, .int .i64 y.e, .int .i64 y.f, .int .i64 y.g, .int .i64 y.h, .int .i64 y.r] 32)
  rcases within_ways x y with ⟨h1, hr⟩ | ⟨h1, h2, hr⟩ | ⟨h1, h2, h3, hr⟩ | ⟨h1, h2, h3, h4, hr⟩ | ⟨h1, h2, h3, h4, h5, hr⟩ | ⟨h1, h2, h3, h4, h5, hr⟩
  all_goals
    rw [hr.out]
    clear hr
    go_enter Tryd.func112, Tryd.ntmps112
    obtain ⟨_, fX, zX⟩ := VX.open
    obtain ⟨_, fY, zY⟩ := VY.open
    go_wp2_with (first | (go_at_call 135; refine (l3In_ok _ _ _ _ _).mono ?_; rintro e w2 ⟨rfl, b2⟩; replace VX := VX.kept b2; replace VY := VY.kept b2; replace B := thenB B b2; clear b2 fX zX fY zY; obtain ⟨_, fX, zX⟩ := VX.open; obtain ⟨_, fY, zY⟩ := VY.open) | fail)
    go_ret
    exact ⟨rfl, B⟩

theorem wiP_model (x y : S9) :
    ((sfC x == 0) = false ∧ Hid (wiP x y = false)) ∨
    ((sfC x == 0) = true ∧ (sfC y == 0) = false ∧ Hid (wiP x y = false)) ∨
    ((sfC x == 0) = true ∧ (sfC y == 0) = true ∧ Hid (wiP x y = inW x y)) := by
  unfold Hid wiP
  generalize (sfC x == 0) = p
  generalize (sfC y == 0) = q
  cases p <;> cases q <;> simp

end Go.Proofs.YtngkahchhioncaaDoor
