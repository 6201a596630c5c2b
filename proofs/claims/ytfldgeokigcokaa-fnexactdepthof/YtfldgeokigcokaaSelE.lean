/- Arrays of ranges: rising, within. -/
import Derived.Test.YtfldgeokigcokaaSelD
import Derived.Deep.RegionHeld3
namespace Go.Proofs.Ytfldgeokigcokaa
open Go.RowKit

theorem At.new8 (w : World) (v0 v1 v2 v3 v4 v5 v6 v7 : Value) (e : TypeId) : At (w.alloc (.cells #[v0, v1, v2, v3, v4, v5, v6, v7] e)) w.heap.size [v0, v1, v2, v3, v4, v5, v6, v7] := by
  refine ⟨by simp, fun i v hi => ?_⟩
  rw [World.cell?_alloc_at _ _ _ _ rfl]
  match i, hi with
  | 0, hi => simpa using hi
  | 1, hi => simpa using hi
  | 2, hi => simpa using hi
  | 3, hi => simpa using hi
  | 4, hi => simpa using hi
  | 5, hi => simpa using hi
  | 6, hi => simpa using hi
  | 7, hi => simpa using hi

theorem At.ate {w : World} {B : Nat} {v0 v1 v2 v3 v4 v5 v6 v7 : Value} (h : At w B [v0, v1, v2, v3, v4, v5, v6, v7]) : w.cell? ⟨B, 0, none⟩ = some v0 ∧ w.cell? ⟨B, 1, none⟩ = some v1 ∧ w.cell? ⟨B, 2, none⟩ = some v2 ∧ w.cell? ⟨B, 3, none⟩ = some v3 ∧ w.cell? ⟨B, 4, none⟩ = some v4 ∧ w.cell? ⟨B, 5, none⟩ = some v5 ∧ w.cell? ⟨B, 6, none⟩ = some v6 ∧ w.cell? ⟨B, 7, none⟩ = some v7 :=
  ⟨h.2 0 v0 rfl, h.2 1 v1 rfl, h.2 2 v2 rfl, h.2 3 v3 rfl, h.2 4 v4 rfl, h.2 5 v5 rfl, h.2 6 v6 rfl, h.2 7 v7 rfl⟩

/-- Each range rises. -/
@[irreducible] def upS (a0 a1 a2 a3 a4 a5 a6 a7 : Int) : Bool := decide (a0 ≤ a1) && (decide (a2 ≤ a3) && (decide (a4 ≤ a5) && decide (a6 ≤ a7)))

theorem upS_iff {a0 a1 a2 a3 a4 a5 a6 a7 : Int} : upS a0 a1 a2 a3 a4 a5 a6 a7 = true ↔ a0 ≤ a1 ∧ a2 ≤ a3 ∧ a4 ≤ a5 ∧ a6 ≤ a7 := by unfold upS; simp

/-- Each range is in the other array's. -/
@[irreducible] def inS (a0 a1 a2 a3 a4 a5 a6 a7 b0 b1 b2 b3 b4 b5 b6 b7 : Int) : Bool := (((max a0 b0 == a0) && (min a1 b1 == a1)) && (((max a2 b2 == a2) && (min a3 b3 == a3)) && (((max a4 b4 == a4) && (min a5 b5 == a5)) && ((max a6 b6 == a6) && (min a7 b7 == a7)))))

theorem inS_iff {a0 a1 a2 a3 a4 a5 a6 a7 b0 b1 b2 b3 b4 b5 b6 b7 : Int} : inS a0 a1 a2 a3 a4 a5 a6 a7 b0 b1 b2 b3 b4 b5 b6 b7 = true ↔ (b0 ≤ a0 ∧ a1 ≤ b1) ∧ (b2 ≤ a2 ∧ a3 ≤ b3) ∧ (b4 ≤ a4 ∧ a5 ≤ b5) ∧ (b6 ≤ a6 ∧ a7 ≤ b7) := by
  unfold inS; simp only [Bool.and_eq_true, beq_iff_eq]; omega

theorem upS_no {a0 a1 a2 a3 a4 a5 a6 a7 : Int} (h : a1 < a0 ∨ a3 < a2 ∨ a5 < a4 ∨ a7 < a6) : upS a0 a1 a2 a3 a4 a5 a6 a7 = false := by
  rw [← Bool.not_eq_true, upS_iff]; omega

end Go.Proofs.Ytfldgeokigcokaa
