/- Packets as values: what fits, and the faults, of both sides. -/
import Derived.Test.YthjaehcfakjemaaDoorProg
import Derived.Test.YthjaehcfakjemaaDoorHeldR
namespace Go.Proofs.YthjaehcfakjemaaDoor
open Go.RowKit

/-- A number from a least to a greatest one. -/
@[irreducible] def btw (n a b : Int) : Bool := decide (a ≤ n) && decide (n ≤ b)

theorem btw_iff {n a b : Int} : btw n a b = true ↔ a ≤ n ∧ n ≤ b := by unfold btw; simp

/-- A protocol with ports. -/
@[irreducible] def portsP (r : Int) : Bool := (r == 6) || (r == 17)

theorem portsP_iff {r : Int} : portsP r = true ↔ r = 6 ∨ r = 17 := by unfold portsP; simp

/-- The numbers of a packet are in their bounds. -/
@[irreducible] def fitP (f t r l x y : Int) : Bool := btw f 0 4294967295 && (btw t 0 4294967295 && (btw r 1 255 && (btw l 1 255 && (btw x 0 65535 && btw y 0 65535))))

/-- The fault of a packet. -/
@[irreducible] def pfC (f t r l x y : Int) (n : Nat) : Int :=
  if fitP f t r l x y = true then (if portsP r = false ∧ (x ≠ 0 ∨ y ≠ 0) then 1 else if 200 < n then 2 else 0) else 3

theorem fitP_iff {f t r l x y : Int} : fitP f t r l x y = true ↔ (0 ≤ f ∧ f ≤ 4294967295) ∧ (0 ≤ t ∧ t ≤ 4294967295) ∧ (1 ≤ r ∧ r ≤ 255) ∧ (1 ≤ l ∧ l ≤ 255) ∧ (0 ≤ x ∧ x ≤ 65535) ∧ (0 ≤ y ∧ y ≤ 65535) := by
  unfold fitP; simp only [Bool.and_eq_true, btw_iff]

theorem pfC_zero {f t r l x y : Int} {n : Nat} (h : pfC f t r l x y n = 0) : fitP f t r l x y = true ∧ (portsP r = false → x = 0 ∧ y = 0) ∧ n ≤ 200 := by
  unfold pfC at h
  split at h
  · rename_i h1
    split at h
    · omega
    · rename_i h2
      split at h
      · omega
      · rename_i h3
        refine ⟨h1, fun hp => ?_, by omega⟩
        have h4 : ¬ (x ≠ 0 ∨ y ≠ 0) := fun hx => h2 ⟨hp, hx⟩
        omega
  · omega

set_option maxHeartbeats 400000 in
theorem isBetween_ok (n a b : Int) (w : World) :
    Calls Tryd.prog 46 #[.int .i64 n, .int .i64 a, .int .i64 b] w fun e w' => e = .returned (.bool (btw n a b)) ∧ w' = w := by
  unfold btw
  by_cases h1 : a ≤ n
  · have d1 : decide (a ≤ n) = true := by simp [h1]
    by_cases h2 : n ≤ b
    · have d2 : decide (n ≤ b) = true := by simp [h2]
      go_enter Tryd.func46, Tryd.ntmps46
      go_wp2
      go_ret
      simp [h1, h2]
    · have d2 : decide (n ≤ b) = false := by simp [h2]
      go_enter Tryd.func46, Tryd.ntmps46
      go_wp2
      go_ret
      simp
  · have d1 : decide (a ≤ n) = false := by simp [h1]
    go_enter Tryd.func46, Tryd.ntmps46
    go_wp2
    go_ret
    simp

set_option maxHeartbeats 400000 in
theorem l1In_ok (n a b : Int) (w : World) :
    Calls Tryd.prog 51 #[.int .i64 n, .int .i64 a, .int .i64 b] w fun e w' => e = .returned (.bool (btw n a b)) ∧ w' = w := by
  unfold btw
  by_cases h1 : a ≤ n
  · have d1 : decide (a ≤ n) = true := by simp [h1]
    by_cases h2 : n ≤ b
    · have d2 : decide (n ≤ b) = true := by simp [h2]
      go_enter Tryd.func51, Tryd.ntmps51
      go_wp2
      go_ret
      simp [h1, h2]
    · have d2 : decide (n ≤ b) = false := by simp [h2]
      go_enter Tryd.func51, Tryd.ntmps51
      go_wp2
      go_ret
      simp
  · have d1 : decide (a ≤ n) = false := by simp [h1]
    go_enter Tryd.func51, Tryd.ntmps51
    go_wp2
    go_ret
    simp

theorem portsP_cases (r : Int) : (r = 6) ∨ ((r == 6) = false ∧ r = 17) ∨ ((r == 6) = false ∧ (r == 17) = false) := by
  simp only [beq_eq_false_iff_ne]; omega

theorem At.newP (w : World) (f t r l x y s : Value) (e : TypeId) : At (w.alloc (.cells #[f, t, r, l, x, y, s] e)) w.heap.size [f, t, r, l, x, y, s] := by
  refine ⟨by simp, fun i v hi => ?_⟩
  rw [World.cell?_alloc_at _ _ _ _ rfl]
  match i, hi with
  | 0, hi => simpa using hi
  | 1, hi => simpa using hi
  | 2, hi => simpa using hi
  | 3, hi => simpa using hi
  | 4, hi => simpa using hi
  | 5, hi => simpa using hi
  | 6, hi => simpa using hi

theorem At.seven {w : World} {B : Nat} {f t r l x y s : Value} (h : At w B [f, t, r, l, x, y, s]) : w.cell? ⟨B, 0, none⟩ = some f ∧ w.cell? ⟨B, 1, none⟩ = some t ∧ w.cell? ⟨B, 2, none⟩ = some r ∧ w.cell? ⟨B, 3, none⟩ = some l ∧ w.cell? ⟨B, 4, none⟩ = some x ∧ w.cell? ⟨B, 5, none⟩ = some y ∧ w.cell? ⟨B, 6, none⟩ = some s ∧ B < w.heap.size :=
  ⟨h.2 0 f rfl, h.2 1 t rfl, h.2 2 r rfl, h.2 3 l rfl, h.2 4 x rfl, h.2 5 y rfl, h.2 6 s rfl, h.1⟩

theorem bool_cases {p : Bool} : p = true ∨ p = false := by cases p <;> simp

theorem six_cases (a b c d e f : Bool) : (a = false) ∨ (a = true ∧ b = false) ∨ (a = true ∧ b = true ∧ c = false) ∨ (a = true ∧ b = true ∧ c = true ∧ d = false) ∨ (a = true ∧ b = true ∧ c = true ∧ d = true ∧ e = false) ∨ (a = true ∧ b = true ∧ c = true ∧ d = true ∧ e = true ∧ f = false) ∨ (a = true ∧ b = true ∧ c = true ∧ d = true ∧ e = true ∧ f = true) := by
  cases a <;> cases b <;> cases c <;> cases d <;> cases e <;> cases f <;> simp

theorem pf_cases (f t r l x y : Int) (n : Nat) :
    (fitP f t r l x y = false ∧ Hid (pfC f t r l x y n = 3)) ∨
    (fitP f t r l x y = true ∧ portsP r = true ∧ decide (200 < (n : Int)) = true ∧ Hid (pfC f t r l x y n = 2)) ∨
    (fitP f t r l x y = true ∧ portsP r = true ∧ decide (200 < (n : Int)) = false ∧ Hid (pfC f t r l x y n = 0)) ∨
    (fitP f t r l x y = true ∧ portsP r = false ∧ (x != 0) = true ∧ Hid (pfC f t r l x y n = 1)) ∨
    (fitP f t r l x y = true ∧ portsP r = false ∧ (x != 0) = false ∧ (y != 0) = true ∧ Hid (pfC f t r l x y n = 1)) ∨
    (fitP f t r l x y = true ∧ portsP r = false ∧ (x != 0) = false ∧ (y != 0) = false ∧ decide (200 < (n : Int)) = true ∧ Hid (pfC f t r l x y n = 2)) ∨
    (fitP f t r l x y = true ∧ portsP r = false ∧ (x != 0) = false ∧ (y != 0) = false ∧ decide (200 < (n : Int)) = false ∧ Hid (pfC f t r l x y n = 0)) := by
  unfold pfC Hid
  by_cases h1 : fitP f t r l x y = true
  · by_cases h2 : portsP r = true
    · by_cases h3 : 200 < n
      · have h4 : decide (200 < (n : Int)) = true := by simp; omega
        simp [h1, h2, h3, h4]
      · have h4 : decide (200 < (n : Int)) = false := by simp; omega
        simp [h1, h2, h3, h4]
    · simp only [Bool.not_eq_true] at h2
      by_cases hx : x = 0 <;> by_cases hy : y = 0 <;> by_cases h3 : 200 < n
      all_goals
        have h4 : decide (200 < (n : Int)) = decide (200 < n) := decide_eq_decide.mpr (by omega)
        simp [h1, h2, h3, h4, hx, hy]
  · simp only [Bool.not_eq_true] at h1
    simp [h1]

theorem fitP_no {f t r l x y : Int} (h : (btw f 0 4294967295 && (btw t 0 4294967295 && (btw r 1 255 && (btw l 1 255 && (btw x 0 65535 && btw y 0 65535))))) = false) (n : Nat) : pfC f t r l x y n = 3 := by
  unfold pfC
  rw [if_neg]
  rw [Bool.not_eq_true]
  unfold fitP
  exact h

theorem fitP_yes {f t r l x y : Int} (h1 : btw f 0 4294967295 = true) (h2 : btw t 0 4294967295 = true) (h3 : btw r 1 255 = true) (h4 : btw l 1 255 = true) (h5 : btw x 0 65535 = true) (h6 : btw y 0 65535 = true) : fitP f t r l x y = true := by
  unfold fitP; simp [h1, h2, h3, h4, h5, h6]

end Go.Proofs.YthjaehcfakjemaaDoor
