/- Arrays of ranges: rising, within. -/
import Derived.Test.YtngkahchhioncaaDoorSelD
import Derived.Deep.RegionHeld3
namespace Go.Proofs.YtngkahchhioncaaDoor
open Go.RowKit

theorem At.new8 (w : World) (v0 v1 v2 v3 v4 v5 v6 v7 : Value) (e : TypeId) : At (w.alloc (.cells #[v0, v1, v2, v3, v4, v5, v6, v7] e)) w.heap.size [v0, v1, v2, v3, v4, v5, v6, v7] := by
  refine ⟨by simp, fun i v hi => ?_⟩
  rw [World.cell?_alloc_at _ _ _ _ rfl]
  match i, hi with
  | 0, hi => simpa using hi
  | 1, hi => simpa using hi
  | 2, hi => simpa using hi
  | 3, hi => simpa using hi
  | 4, hi => simpa using hi
  | 5, hi => simpa using hi
  | 6, hi => simpa using hi
  | 7, hi => simpa using hi

theorem At.ate {w : World} {B : Nat} {v0 v1 v2 v3 v4 v5 v6 v7 : Value} (h : At w B [v0, v1, v2, v3, v4, v5, v6, v7]) : w.cell? ⟨B, 0, none⟩ = some v0 ∧ w.cell? ⟨B, 1, none⟩ = some v1 ∧ w.cell? ⟨B, 2, none⟩ = some v2 ∧ w.cell? ⟨B, 3, none⟩ = some v3 ∧ w.cell? ⟨B, 4, none⟩ = some v4 ∧ w.cell? ⟨B, 5, none⟩ = some v5 ∧ w.cell? ⟨B, 6, none⟩ = some v6 ∧ w.cell? ⟨B, 7, none⟩ = some v7 :=
  ⟨h.2 0 v0 rfl, h.2 1 v1 rfl, h.2 2 v2 rfl, h.2 3 v3 rfl, h.2 4 v4 rfl, h.2 5 v5 rfl, h.2 6 v6 rfl, h.2 7 v7 rfl⟩

/-- Each range rises. -/
@[irreducible] def upS (a0 a1 a2 a3 a4 a5 a6 a7 : Int) : Bool := decide (a0 ≤ a1) && (decide (a2 ≤ a3) && (decide (a4 ≤ a5) && decide (a6 ≤ a7)))

theorem upS_iff {a0 a1 a2 a3 a4 a5 a6 a7 : Int} : upS a0 a1 a2 a3 a4 a5 a6 a7 = true ↔ a0 ≤ a1 ∧ a2 ≤ a3 ∧ a4 ≤ a5 ∧ a6 ≤ a7 := by unfold upS; simp

/-- Each range is in the other array's. -/
@[irreducible] def inS (a0 a1 a2 a3 a4 a5 a6 a7 b0 b1 b2 b3 b4 b5 b6 b7 : Int) : Bool := (((max a0 b0 == a0) && (min a1 b1 == a1)) && (((max a2 b2 == a2) && (min a3 b3 == a3)) && (((max a4 b4 == a4) && (min a5 b5 == a5)) && ((max a6 b6 == a6) && (min a7 b7 == a7)))))

theorem inS_iff {a0 a1 a2 a3 a4 a5 a6 a7 b0 b1 b2 b3 b4 b5 b6 b7 : Int} : inS a0 a1 a2 a3 a4 a5 a6 a7 b0 b1 b2 b3 b4 b5 b6 b7 = true ↔ (b0 ≤ a0 ∧ a1 ≤ b1) ∧ (b2 ≤ a2 ∧ a3 ≤ b3) ∧ (b4 ≤ a4 ∧ a5 ≤ b5) ∧ (b6 ≤ a6 ∧ a7 ≤ b7) := by
  unfold inS; simp only [Bool.and_eq_true, beq_iff_eq]; omega

theorem upS_no {a0 a1 a2 a3 a4 a5 a6 a7 : Int} (h : a1 < a0 ∨ a3 < a2 ∨ a5 < a4 ∨ a7 < a6) : upS a0 a1 a2 a3 a4 a5 a6 a7 = false := by
  rw [← Bool.not_eq_true, upS_iff]; omega

theorem index_spans0 (a0 a1 a2 a3 a4 a5 a6 a7 : Int) (w : World) : (Instr.index 92 (.agg #[.int .i64 a0, .int .i64 a1, .int .i64 a2, .int .i64 a3, .int .i64 a4, .int .i64 a5, .int .i64 a6, .int .i64 a7]) (.int .i64 0)).run Tryd.prog w = .ok (.agg #[.int .i64 a0, .int .i64 a1]) w := by kernel_rfl

theorem index_spans1 (a0 a1 a2 a3 a4 a5 a6 a7 : Int) (w : World) : (Instr.index 92 (.agg #[.int .i64 a0, .int .i64 a1, .int .i64 a2, .int .i64 a3, .int .i64 a4, .int .i64 a5, .int .i64 a6, .int .i64 a7]) (.int .i64 1)).run Tryd.prog w = .ok (.agg #[.int .i64 a2, .int .i64 a3]) w := by kernel_rfl

theorem index_spans2 (a0 a1 a2 a3 a4 a5 a6 a7 : Int) (w : World) : (Instr.index 92 (.agg #[.int .i64 a0, .int .i64 a1, .int .i64 a2, .int .i64 a3, .int .i64 a4, .int .i64 a5, .int .i64 a6, .int .i64 a7]) (.int .i64 2)).run Tryd.prog w = .ok (.agg #[.int .i64 a4, .int .i64 a5]) w := by kernel_rfl

theorem index_spans3 (a0 a1 a2 a3 a4 a5 a6 a7 : Int) (w : World) : (Instr.index 92 (.agg #[.int .i64 a0, .int .i64 a1, .int .i64 a2, .int .i64 a3, .int .i64 a4, .int .i64 a5, .int .i64 a6, .int .i64 a7]) (.int .i64 3)).run Tryd.prog w = .ok (.agg #[.int .i64 a6, .int .i64 a7]) w := by kernel_rfl


set_option maxHeartbeats 1000000 in
theorem areRising_ok (a0 a1 a2 a3 a4 a5 a6 a7 : Int) (w : World) :
    Calls Tryd.prog 105 #[.agg #[.int .i64 a0, .int .i64 a1, .int .i64 a2, .int .i64 a3, .int .i64 a4, .int .i64 a5, .int .i64 a6, .int .i64 a7]] w fun e w' => e = .returned (.bool (upS a0 a1 a2 a3 a4 a5 a6 a7)) ∧ Below w.heap.size w w' := by
  go_enter Tryd.func105, Tryd.ntmps105
  go_wp2
  go_loopw [6] (fun i wr => Below w.heap.size w wr ∧ ((i = .int .i64 0) ∨ (i = .int .i64 1 ∧ a0 ≤ a1) ∨ (i = .int .i64 2 ∧ a0 ≤ a1 ∧ a2 ≤ a3) ∨ (i = .int .i64 3 ∧ a0 ≤ a1 ∧ a2 ≤ a3 ∧ a4 ≤ a5) ∨ (i = .int .i64 4 ∧ a0 ≤ a1 ∧ a2 ≤ a3 ∧ a4 ≤ a5 ∧ a6 ≤ a7))) (fun i _ => 4 - (intOf i).toNat)
  case atStart => exact ⟨belowA _ _, .inl rfl⟩
  case round =>
    obtain ⟨B, hrel⟩ := hrel
    replace B := Hid.mk B
    rcases hrel with rfl | ⟨rfl, h0⟩ | ⟨rfl, h0, h1⟩ | ⟨rfl, h0, h1, h2⟩ | ⟨rfl, h0, h1, h2, h3⟩
    · have HH := Hid.mk (And.intro trivial trivial)
      skip
      by_cases hc : a0 ≤ a1
      · replace B := Hid.mk (B.out.alloc B.out.size (.cells #[.int .i64 a0, .int .i64 a1] 90))
        have qi := index_spans0 a0 a1 a2 a3 a4 a5 a6 a7
        have hd : decide (a1 < a0) = false := by simp; omega
        have HC := Hid.mk hc
        clear hc
        go_wp2
        go_roundw
        case rel => exact ⟨B.out, .inr (.inl ⟨rfl, HC.out⟩)⟩
        case measure => simp [intOf]
      · replace B := Hid.mk (B.out.alloc B.out.size (.cells #[.int .i64 a0, .int .i64 a1] 90))
        have qi := index_spans0 a0 a1 a2 a3 a4 a5 a6 a7
        have hd : decide (a1 < a0) = true := by simp; omega
        have HC := Hid.mk hc
        clear hc
        go_wp2
        go_ret
        exact ⟨ret_bool (upS_no (by have := HC.out; omega)).symm, B.out⟩
    · have HH := Hid.mk h0
      clear h0
      by_cases hc : a2 ≤ a3
      · replace B := Hid.mk (B.out.alloc B.out.size (.cells #[.int .i64 a2, .int .i64 a3] 90))
        have qi := index_spans1 a0 a1 a2 a3 a4 a5 a6 a7
        have hd : decide (a3 < a2) = false := by simp; omega
        have HC := Hid.mk hc
        clear hc
        go_wp2
        go_roundw
        case rel => exact ⟨B.out, .inr (.inr (.inl ⟨rfl, HH.out, HC.out⟩))⟩
        case measure => simp [intOf]
      · replace B := Hid.mk (B.out.alloc B.out.size (.cells #[.int .i64 a2, .int .i64 a3] 90))
        have qi := index_spans1 a0 a1 a2 a3 a4 a5 a6 a7
        have hd : decide (a3 < a2) = true := by simp; omega
        have HC := Hid.mk hc
        clear hc
        go_wp2
        go_ret
        exact ⟨ret_bool (upS_no (by have := HC.out; omega)).symm, B.out⟩
    · have HH := Hid.mk (show a0 ≤ a1 ∧ a2 ≤ a3 from ⟨h0, h1⟩)
      clear h0 h1
      by_cases hc : a4 ≤ a5
      · replace B := Hid.mk (B.out.alloc B.out.size (.cells #[.int .i64 a4, .int .i64 a5] 90))
        have qi := index_spans2 a0 a1 a2 a3 a4 a5 a6 a7
        have hd : decide (a5 < a4) = false := by simp; omega
        have HC := Hid.mk hc
        clear hc
        go_wp2
        go_roundw
        case rel => exact ⟨B.out, .inr (.inr (.inr (.inl ⟨rfl, HH.out.1, HH.out.2, HC.out⟩)))⟩
        case measure => simp [intOf]
      · replace B := Hid.mk (B.out.alloc B.out.size (.cells #[.int .i64 a4, .int .i64 a5] 90))
        have qi := index_spans2 a0 a1 a2 a3 a4 a5 a6 a7
        have hd : decide (a5 < a4) = true := by simp; omega
        have HC := Hid.mk hc
        clear hc
        go_wp2
        go_ret
        exact ⟨ret_bool (upS_no (by have := HC.out; omega)).symm, B.out⟩
    · have HH := Hid.mk (show a0 ≤ a1 ∧ a2 ≤ a3 ∧ a4 ≤ a5 from ⟨h0, h1, h2⟩)
      clear h0 h1 h2
      by_cases hc : a6 ≤ a7
      · replace B := Hid.mk (B.out.alloc B.out.size (.cells #[.int .i64 a6, .int .i64 a7] 90))
        have qi := index_spans3 a0 a1 a2 a3 a4 a5 a6 a7
        have hd : decide (a7 < a6) = false := by simp; omega
        have HC := Hid.mk hc
        clear hc
        go_wp2
        go_roundw
        case rel => exact ⟨B.out, .inr (.inr (.inr (.inr (⟨rfl, HH.out.1, HH.out.2.1, HH.out.2.2, HC.out⟩))))⟩
        case measure => simp [intOf]
      · replace B := Hid.mk (B.out.alloc B.out.size (.cells #[.int .i64 a6, .int .i64 a7] 90))
        have qi := index_spans3 a0 a1 a2 a3 a4 a5 a6 a7
        have hd : decide (a7 < a6) = true := by simp; omega
        have HC := Hid.mk hc
        clear hc
        go_wp2
        go_ret
        exact ⟨ret_bool (upS_no (by have := HC.out; omega)).symm, B.out⟩
    · have HH := Hid.mk (upS_iff.2 ⟨h0, h1, h2, h3⟩)
      clear h0 h1 h2 h3
      go_wp2
      go_ret
      exact ⟨ret_bool HH.out.symm, B.out⟩

set_option maxHeartbeats 1000000 in
theorem areWithin_ok (a0 a1 a2 a3 a4 a5 a6 a7 b0 b1 b2 b3 b4 b5 b6 b7 : Int) (w : World) :
    Calls Tryd.prog 58 #[.agg #[.int .i64 a0, .int .i64 a1, .int .i64 a2, .int .i64 a3, .int .i64 a4, .int .i64 a5, .int .i64 a6, .int .i64 a7], .agg #[.int .i64 b0, .int .i64 b1, .int .i64 b2, .int .i64 b3, .int .i64 b4, .int .i64 b5, .int .i64 b6, .int .i64 b7]] w fun e w' => e = .returned (.bool (inS a0 a1 a2 a3 a4 a5 a6 a7 b0 b1 b2 b3 b4 b5 b6 b7)) ∧ Below w.heap.size w w' := by
  have q := eql_spans
  have hE : (((max a0 b0 == a0) && (min a1 b1 == a1)) && (((max a2 b2 == a2) && (min a3 b3 == a3)) && (((max a4 b4 == a4) && (min a5 b5 == a5)) && ((max a6 b6 == a6) && (min a7 b7 == a7))))) = inS a0 a1 a2 a3 a4 a5 a6 a7 b0 b1 b2 b3 b4 b5 b6 b7 := by unfold inS; rfl
  have AA := (At.new8 w (.int .i64 a0) (.int .i64 a1) (.int .i64 a2) (.int .i64 a3) (.int .i64 a4) (.int .i64 a5) (.int .i64 a6) (.int .i64 a7) 92).kept (belowA _ (.cells #[.int .i64 b0, .int .i64 b1, .int .i64 b2, .int .i64 b3, .int .i64 b4, .int .i64 b5, .int .i64 b6, .int .i64 b7] 92))
  have AB := At.new8 (w.alloc (.cells #[.int .i64 a0, .int .i64 a1, .int .i64 a2, .int .i64 a3, .int .i64 a4, .int .i64 a5, .int .i64 a6, .int .i64 a7] 92)) (.int .i64 b0) (.int .i64 b1) (.int .i64 b2) (.int .i64 b3) (.int .i64 b4) (.int .i64 b5) (.int .i64 b6) (.int .i64 b7) 92
  rw [World.size_alloc] at AB
  have K : ∀ w' : World, Below ((w.alloc (.cells #[.int .i64 a0, .int .i64 a1, .int .i64 a2, .int .i64 a3, .int .i64 a4, .int .i64 a5, .int .i64 a6, .int .i64 a7] 92)).alloc (.cells #[.int .i64 b0, .int .i64 b1, .int .i64 b2, .int .i64 b3, .int .i64 b4, .int .i64 b5, .int .i64 b6, .int .i64 b7] 92)).heap.size ((w.alloc (.cells #[.int .i64 a0, .int .i64 a1, .int .i64 a2, .int .i64 a3, .int .i64 a4, .int .i64 a5, .int .i64 a6, .int .i64 a7] 92)).alloc (.cells #[.int .i64 b0, .int .i64 b1, .int .i64 b2, .int .i64 b3, .int .i64 b4, .int .i64 b5, .int .i64 b6, .int .i64 b7] 92)) w' → (w'.cell? ⟨w.heap.size, 0, none⟩ = some (.int .i64 a0) ∧ w'.cell? ⟨w.heap.size, 1, none⟩ = some (.int .i64 a1) ∧ w'.cell? ⟨w.heap.size, 2, none⟩ = some (.int .i64 a2) ∧ w'.cell? ⟨w.heap.size, 3, none⟩ = some (.int .i64 a3) ∧ w'.cell? ⟨w.heap.size, 4, none⟩ = some (.int .i64 a4) ∧ w'.cell? ⟨w.heap.size, 5, none⟩ = some (.int .i64 a5) ∧ w'.cell? ⟨w.heap.size, 6, none⟩ = some (.int .i64 a6) ∧ w'.cell? ⟨w.heap.size, 7, none⟩ = some (.int .i64 a7) ∧ w'.cell? ⟨w.heap.size + 1, 0, none⟩ = some (.int .i64 b0) ∧ w'.cell? ⟨w.heap.size + 1, 1, none⟩ = some (.int .i64 b1) ∧ w'.cell? ⟨w.heap.size + 1, 2, none⟩ = some (.int .i64 b2) ∧ w'.cell? ⟨w.heap.size + 1, 3, none⟩ = some (.int .i64 b3) ∧ w'.cell? ⟨w.heap.size + 1, 4, none⟩ = some (.int .i64 b4) ∧ w'.cell? ⟨w.heap.size + 1, 5, none⟩ = some (.int .i64 b5) ∧ w'.cell? ⟨w.heap.size + 1, 6, none⟩ = some (.int .i64 b6) ∧ w'.cell? ⟨w.heap.size + 1, 7, none⟩ = some (.int .i64 b7)) := fun w' h => by
    obtain ⟨f0, f1, f2, f3, f4, f5, f6, f7⟩ := (AA.kept h).ate
    obtain ⟨g0, g1, g2, g3, g4, g5, g6, g7⟩ := (AB.kept h).ate
    exact ⟨f0, f1, f2, f3, f4, f5, f6, f7, g0, g1, g2, g3, g4, g5, g6, g7⟩
  have K := Hid.mk K
  clear AA AB
  go_enter Tryd.func58, Tryd.ntmps58
  go_wp2_with fail
  go_region_held3 (fun w' => w'.cell? ⟨w.heap.size, 0, none⟩ = some (.int .i64 a0) ∧ w'.cell? ⟨w.heap.size, 1, none⟩ = some (.int .i64 a1) ∧ w'.cell? ⟨w.heap.size, 2, none⟩ = some (.int .i64 a2) ∧ w'.cell? ⟨w.heap.size, 3, none⟩ = some (.int .i64 a3) ∧ w'.cell? ⟨w.heap.size, 4, none⟩ = some (.int .i64 a4) ∧ w'.cell? ⟨w.heap.size, 5, none⟩ = some (.int .i64 a5) ∧ w'.cell? ⟨w.heap.size, 6, none⟩ = some (.int .i64 a6) ∧ w'.cell? ⟨w.heap.size, 7, none⟩ = some (.int .i64 a7) ∧ w'.cell? ⟨w.heap.size + 1, 0, none⟩ = some (.int .i64 b0) ∧ w'.cell? ⟨w.heap.size + 1, 1, none⟩ = some (.int .i64 b1) ∧ w'.cell? ⟨w.heap.size + 1, 2, none⟩ = some (.int .i64 b2) ∧ w'.cell? ⟨w.heap.size + 1, 3, none⟩ = some (.int .i64 b3) ∧ w'.cell? ⟨w.heap.size + 1, 4, none⟩ = some (.int .i64 b4) ∧ w'.cell? ⟨w.heap.size + 1, 5, none⟩ = some (.int .i64 b5) ∧ w'.cell? ⟨w.heap.size + 1, 6, none⟩ = some (.int .i64 b6) ∧ w'.cell? ⟨w.heap.size + 1, 7, none⟩ = some (.int .i64 b7)) (first | exact K.out _ (thenB (Below.refl _ _).drew b1) | exact K.out _ (Below.refl _ _).drew) ((go_at_call 108; refine (commonSpans_ok a0 a1 a2 a3 a4 a5 a6 a7 b0 b1 b2 b3 b4 b5 b6 b7 _).mono ?_; rintro e w1 ⟨rfl, b1⟩))
  go_wp2
  go_ret
  exact ⟨rfl, thenB (belowA2 _ _ _) (thenB (Below.refl _ _).drew b1)⟩

end Go.Proofs.YtngkahchhioncaaDoor
