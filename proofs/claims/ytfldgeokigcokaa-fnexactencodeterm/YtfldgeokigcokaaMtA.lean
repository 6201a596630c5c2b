/- What two selectors have in common: numbers. -/
import Derived.Test.YtfldgeokigcokaaSelI
namespace Go.Proofs.Ytfldgeokigcokaa
open Go.RowKit

/-- What two right selectors have in common, as it stands. -/
@[irreducible] def cmS (x y : S9) : S9 := ⟨max x.a y.a, min x.b y.b, max x.c y.c, min x.d y.d, max x.e y.e, min x.f y.f, max x.g y.g, min x.h y.h, nwP x.r y.r⟩

/-- The same, with the whole ports where the protocol has none. -/
@[irreducible] def wcS (z : S9) : S9 := if bareP z.r = true then ⟨z.a, z.b, z.c, z.d, 0, 65535, 0, 65535, z.r⟩ else z

/-- The code of what two right selectors have in common. -/
@[irreducible] def cmC (p : Bool) (z : S9) : Int := if upS z.a z.b z.c z.d z.e z.f z.g z.h && p then (if bareP z.r && !((z.e == 0) && (z.g == 0)) then 4 else 0) else 4

/-- The code of 'MeetSels'. -/
@[irreducible] def mtC (x y : S9) : Int := if sfC x = 0 then (if sfC y = 0 then cmC (tkP x.r y.r || tkP y.r x.r) (cmS x y) else sfC y) else sfC x

/-- A selector of noughts. -/
@[irreducible] def zeroS : S9 := ⟨0, 0, 0, 0, 0, 0, 0, 0, 0⟩

/-- The selector of 'MeetSels'. -/
@[irreducible] def mtS (x y : S9) : S9 := if mtC x y = 0 then wcS (cmS x y) else zeroS

theorem cmS_is (x y : S9) : cmS x y = ⟨max x.a y.a, min x.b y.b, max x.c y.c, min x.d y.d, max x.e y.e, min x.f y.f, max x.g y.g, min x.h y.h, nwP x.r y.r⟩ := by unfold cmS; rfl

theorem zeroS_is : zeroS = ⟨0, 0, 0, 0, 0, 0, 0, 0, 0⟩ := by unfold zeroS; rfl

theorem wcS_bare {z : S9} (h : bareP z.r = true) : wcS z = ⟨z.a, z.b, z.c, z.d, 0, 65535, 0, 65535, z.r⟩ := by unfold wcS; rw [if_pos h]

theorem wcS_else {z : S9} (h : bareP z.r = false) : wcS z = z := by unfold wcS; rw [if_neg (by rw [h]; simp)]

theorem cmC_ways (p : Bool) (z : S9) :
    (upS z.a z.b z.c z.d z.e z.f z.g z.h = false ∧ cmC p z = 4) ∨
    (upS z.a z.b z.c z.d z.e z.f z.g z.h = true ∧ p = false ∧ cmC p z = 4) ∨
    (upS z.a z.b z.c z.d z.e z.f z.g z.h = true ∧ p = true ∧ bareP z.r = false ∧ cmC p z = 0) ∨
    (upS z.a z.b z.c z.d z.e z.f z.g z.h = true ∧ p = true ∧ bareP z.r = true ∧ ((z.e == 0) && (z.g == 0)) = false ∧ cmC p z = 4) ∨
    (upS z.a z.b z.c z.d z.e z.f z.g z.h = true ∧ p = true ∧ bareP z.r = true ∧ ((z.e == 0) && (z.g == 0)) = true ∧ cmC p z = 0) := by
  unfold cmC
  generalize ((z.e == 0) && (z.g == 0)) = q
  cases upS z.a z.b z.c z.d z.e z.f z.g z.h <;> cases p <;> cases bareP z.r <;> cases q <;> simp

theorem mt_ways (x y : S9) :
    ((sfC x != 0) = true ∧ Hid (mtC x y = sfC x ∧ mtS x y = zeroS)) ∨
    ((sfC x != 0) = false ∧ (sfC y != 0) = true ∧ Hid (mtC x y = sfC y ∧ mtS x y = zeroS)) ∨
    ((sfC x != 0) = false ∧ (sfC y != 0) = false ∧ Hid (mtC x y = cmC (tkP x.r y.r || tkP y.r x.r) (cmS x y) ∧ mtS x y = if cmC (tkP x.r y.r || tkP y.r x.r) (cmS x y) = 0 then wcS (cmS x y) else zeroS)) := by
  by_cases h1 : sfC x = 0
  · by_cases h2 : sfC y = 0
    · have e : mtC x y = cmC (tkP x.r y.r || tkP y.r x.r) (cmS x y) := by unfold mtC; rw [if_pos h1, if_pos h2]
      refine .inr (.inr ⟨by simp [h1], by simp [h2], e, ?_⟩)
      unfold mtS; rw [e]
    · have e : mtC x y = sfC y := by unfold mtC; rw [if_pos h1, if_neg h2]
      refine .inr (.inl ⟨by simp [h1], by simp [h2], e, ?_⟩)
      unfold mtS; rw [e, if_neg h2]
  · have e : mtC x y = sfC x := by unfold mtC; rw [if_neg h1]
    refine .inl ⟨by simp [h1], e, ?_⟩
    unfold mtS; rw [e, if_neg h1]

theorem V.fill8 {w : World} {B : Nat} {z0 z1 z2 z3 z4 z5 z6 z7 : Value} (h : V w B [z0, z1, z2, z3, z4, z5, z6, z7]) (u0 u1 u2 u3 u4 u5 u6 u7 : Value) :
    V ((((((((w.setCell ⟨B, 0, none⟩ u0).setCell ⟨B, 1, none⟩ u1).setCell ⟨B, 2, none⟩ u2).setCell ⟨B, 3, none⟩ u3).setCell ⟨B, 4, none⟩ u4).setCell ⟨B, 5, none⟩ u5).setCell ⟨B, 6, none⟩ u6).setCell ⟨B, 7, none⟩ u7) B [u0, u1, u2, u3, u4, u5, u6, u7] := by
  have h8 := ((((((((h.set (i := 0) (by simp) u0).set (i := 1) (by simp) u1).set (i := 2) (by simp) u2).set (i := 3) (by simp) u3).set (i := 4) (by simp) u4).set (i := 5) (by simp) u5).set (i := 6) (by simp) u6).set (i := 7) (by simp) u7)
  simpa only [List.set_cons_zero, List.set_cons_succ] using h8

theorem V.fill9 {w : World} {B : Nat} {z0 z1 z2 z3 z4 z5 z6 z7 z8 : Value} (h : V w B [z0, z1, z2, z3, z4, z5, z6, z7, z8]) (u0 u1 u2 u3 u4 u5 u6 u7 u8 : Value) :
    V (((((((((w.setCell ⟨B, 0, none⟩ u0).setCell ⟨B, 1, none⟩ u1).setCell ⟨B, 2, none⟩ u2).setCell ⟨B, 3, none⟩ u3).setCell ⟨B, 4, none⟩ u4).setCell ⟨B, 5, none⟩ u5).setCell ⟨B, 6, none⟩ u6).setCell ⟨B, 7, none⟩ u7).setCell ⟨B, 8, none⟩ u8) B [u0, u1, u2, u3, u4, u5, u6, u7, u8] := by
  have h8 := (((((((((h.set (i := 0) (by simp) u0).set (i := 1) (by simp) u1).set (i := 2) (by simp) u2).set (i := 3) (by simp) u3).set (i := 4) (by simp) u4).set (i := 5) (by simp) u5).set (i := 6) (by simp) u6).set (i := 7) (by simp) u7).set (i := 8) (by simp) u8)
  simpa only [List.set_cons_zero, List.set_cons_succ] using h8

theorem V.fill10 {w : World} {B : Nat} {z0 z1 z2 z3 z4 z5 z6 z7 z8 z9 : Value} (h : V w B [z0, z1, z2, z3, z4, z5, z6, z7, z8, z9]) (u0 u1 u2 u3 u4 u5 u6 u7 u8 u9 : Value) :
    V ((((((((((w.setCell ⟨B, 0, none⟩ u0).setCell ⟨B, 1, none⟩ u1).setCell ⟨B, 2, none⟩ u2).setCell ⟨B, 3, none⟩ u3).setCell ⟨B, 4, none⟩ u4).setCell ⟨B, 5, none⟩ u5).setCell ⟨B, 6, none⟩ u6).setCell ⟨B, 7, none⟩ u7).setCell ⟨B, 8, none⟩ u8).setCell ⟨B, 9, none⟩ u9) B [u0, u1, u2, u3, u4, u5, u6, u7, u8, u9] := by
  have h8 := ((((((((((h.set (i := 0) (by simp) u0).set (i := 1) (by simp) u1).set (i := 2) (by simp) u2).set (i := 3) (by simp) u3).set (i := 4) (by simp) u4).set (i := 5) (by simp) u5).set (i := 6) (by simp) u6).set (i := 7) (by simp) u7).set (i := 8) (by simp) u8).set (i := 9) (by simp) u9)
  simpa only [List.set_cons_zero, List.set_cons_succ] using h8


end Go.Proofs.Ytfldgeokigcokaa
