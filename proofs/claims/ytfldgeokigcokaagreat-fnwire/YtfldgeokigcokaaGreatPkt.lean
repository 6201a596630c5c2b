/- Packets as values: what fits, and the faults, of both sides. -/
import Derived.Test.YtfldgeokigcokaaGreatProg
import Derived.Test.YtfldgeokigcokaaGreatHeldR
namespace Go.Proofs.YtfldgeokigcokaaGreat
open Go.RowKit

/-- A number from a least to a greatest one. -/
@[irreducible] def btw (n a b : Int) : Bool := decide (a ≤ n) && decide (n ≤ b)

theorem btw_iff {n a b : Int} : btw n a b = true ↔ a ≤ n ∧ n ≤ b := by unfold btw; simp

/-- A protocol with ports. -/
@[irreducible] def portsP (r : Int) : Bool := (r == 6) || (r == 17)

/-- The numbers of a packet are in their bounds. -/
@[irreducible] def fitP (f t r l x y : Int) : Bool := btw f 0 4294967295 && (btw t 0 4294967295 && (btw r 1 255 && (btw l 1 255 && (btw x 0 65535 && btw y 0 65535))))

/-- The fault of a packet. -/
@[irreducible] def pfC (f t r l x y : Int) (n : Nat) : Int :=
  if fitP f t r l x y = true then (if portsP r = false ∧ (x ≠ 0 ∨ y ≠ 0) then 1 else if 200 < n then 2 else 0) else 3

set_option maxHeartbeats 400000 in
theorem isBetween_ok (n a b : Int) (w : World) :
    Calls Tryz.prog 69 #[.int .i64 n, .int .i64 a, .int .i64 b] w fun e w' => e = .returned (.bool (btw n a b)) ∧ w' = w := by
  unfold btw
  by_cases h1 : a ≤ n
  · have d1 : decide (a ≤ n) = true := by simp [h1]
    by_cases h2 : n ≤ b
    · have d2 : decide (n ≤ b) = true := by simp [h2]
      go_enter Tryz.func69, Tryz.ntmps69
      go_wp2
      go_ret
      simp [h1, h2]
    · have d2 : decide (n ≤ b) = false := by simp [h2]
      go_enter Tryz.func69, Tryz.ntmps69
      go_wp2
      go_ret
      simp
  · have d1 : decide (a ≤ n) = false := by simp [h1]
    go_enter Tryz.func69, Tryz.ntmps69
    go_wp2
    go_ret
    simp

set_option maxHeartbeats 400000 in
theorem l1In_ok (n a b : Int) (w : World) :
    Calls Tryz.prog 50 #[.int .i64 n, .int .i64 a, .int .i64 b] w fun e w' => e = .returned (.bool (btw n a b)) ∧ w' = w := by
  unfold btw
  by_cases h1 : a ≤ n
  · have d1 : decide (a ≤ n) = true := by simp [h1]
    by_cases h2 : n ≤ b
    · have d2 : decide (n ≤ b) = true := by simp [h2]
      go_enter Tryz.func50, Tryz.ntmps50
      go_wp2
      go_ret
      simp [h1, h2]
    · have d2 : decide (n ≤ b) = false := by simp [h2]
      go_enter Tryz.func50, Tryz.ntmps50
      go_wp2
      go_ret
      simp
  · have d1 : decide (a ≤ n) = false := by simp [h1]
    go_enter Tryz.func50, Tryz.ntmps50
    go_wp2
    go_ret
    simp

theorem At.seven {w : World} {B : Nat} {f t r l x y s : Value} (h : At w B [f, t, r, l, x, y, s]) : w.cell? ⟨B, 0, none⟩ = some f ∧ w.cell? ⟨B, 1, none⟩ = some t ∧ w.cell? ⟨B, 2, none⟩ = some r ∧ w.cell? ⟨B, 3, none⟩ = some l ∧ w.cell? ⟨B, 4, none⟩ = some x ∧ w.cell? ⟨B, 5, none⟩ = some y ∧ w.cell? ⟨B, 6, none⟩ = some s ∧ B < w.heap.size :=
  ⟨h.2 0 f rfl, h.2 1 t rfl, h.2 2 r rfl, h.2 3 l rfl, h.2 4 x rfl, h.2 5 y rfl, h.2 6 s rfl, h.1⟩

end Go.Proofs.YtfldgeokigcokaaGreat
