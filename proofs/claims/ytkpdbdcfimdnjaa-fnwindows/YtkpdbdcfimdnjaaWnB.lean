/- Windows: small functions of both sides. -/
import Derived.Test.YtkpdbdcfimdnjaaWnA
import Derived.Test.YtkpdbdcfimdnjaaVar
import Derived.Test.YtkpdbdcfimdnjaaFill
import Derived.Test.YtkpdbdcfimdnjaaMinM
namespace Go.Proofs.Ytkpdbdcfimdnjaa
open Go.RowKit

set_option maxHeartbeats 2000000 in
theorem firstIn_ok (x : Wn) (hi : inW x) (w : World) :
    Calls Try.prog 45 #[.agg #[.int .i64 x.t, .int .i64 x.b]] w fun e w' => e = .returned (.int .i64 (frW x)) ∧ Below w.heap.size w w' := by
  obtain ⟨i1, i2, _, _⟩ := hi
  have e : max 1 (x.t - 32 + 1) = frW x := by unfold frW; omega
  have E := Hid.mk e
  clear e
  go_enter Try.func45, Try.ntmps45
  go_wp2
  · go_ret
    exact ⟨ret_int (by have := E.out; omega), belowA _ _⟩
  · go_ret
    exact ⟨ret_int (by have := E.out; omega), belowA _ _⟩

set_option maxHeartbeats 2000000 in
theorem wasTaken_ok (x : Wn) (hi : inW x) (s : Int) (hs : 0 ≤ s) (w : World) :
    Calls Try.prog 46 #[.agg #[.int .i64 x.t, .int .i64 x.b], .int .i64 s] w fun e w' => e = .returned (.bool (had x s)) ∧ Below w.heap.size w w' := by
  obtain ⟨i1, i2, i3, i4⟩ := hi
  by_cases h : s ≤ x.t
  · have h1 : decide (s ≤ x.t) = true := by simp [h]
    have h2 : 0 ≤ x.t - s := by omega
    have h3 : x.t - s ≤ 1099511627776 := by omega
    have e : had x s = bt x.b (x.t - s).toNat := by unfold had; rw [h1, Bool.true_and]
    have hB := shr_bt i3 i4 (x.t - s).toNat
    have hS : Op.shift .shr .i64 x.b .i64 (x.t - s) = pure (.int .i64 (x.b / 2 ^ min (x.t - s).toNat 64)) := shift_shr_any _ _ _ _ h2
    generalize x.b / 2 ^ min (x.t - s).toNat 64 = q at *
    rw [e]
    clear e h
    cases hb : bt x.b (x.t - s).toNat
    · rw [hb, if_neg (by simp)] at hB
      clear hb
      go_enter Try.func46, Try.ntmps46
      go_wp2
      go_ret
      exact ⟨rfl, belowA _ _⟩
    · rw [hb, if_pos rfl] at hB
      clear hb
      go_enter Try.func46, Try.ntmps46
      go_wp2
      go_ret
      exact ⟨rfl, belowA _ _⟩
  · have h1 : decide (s ≤ x.t) = false := by simp [h]
    have e : had x s = false := by unfold had; rw [h1, Bool.false_and]
    rw [e]
    clear e h
    go_enter Try.func46, Try.ntmps46
    go_wp2
    go_ret
    exact ⟨rfl, belowA _ _⟩

set_option maxHeartbeats 2000000 in
theorem l10Had_ok (x : Wn) (hi : inW x) (s : Int) (hs : 0 ≤ s) (w : World) :
    Calls Try.prog 53 #[.agg #[.int .i64 x.t, .int .i64 x.b], .int .i64 s] w fun e w' => e = .returned (.bool (had x s)) ∧ Below w.heap.size w w' := by
  obtain ⟨i1, i2, i3, i4⟩ := hi
  by_cases h : s ≤ x.t
  · have h1 : decide (s ≤ x.t) = true := by simp [h]
    have h2 : 0 ≤ x.t - s := by omega
    have h3 : x.t - s ≤ 1099511627776 := by omega
    have e : had x s = bt x.b (x.t - s).toNat := by unfold had; rw [h1, Bool.true_and]
    have hB := shr_bt i3 i4 (x.t - s).toNat
    have hS : Op.shift .shr .i64 x.b .u64 (x.t - s) = pure (.int .i64 (x.b / 2 ^ min (x.t - s).toNat 64)) := shift_shr_any _ _ _ _ h2
    generalize x.b / 2 ^ min (x.t - s).toNat 64 = q at *
    rw [e]
    clear e h
    cases hb : bt x.b (x.t - s).toNat
    · rw [hb, if_neg (by simp)] at hB
      clear hb
      go_enter Try.func53, Try.ntmps53
      go_wp2
      go_ret
      exact ⟨rfl, belowA _ _⟩
    · rw [hb, if_pos rfl] at hB
      clear hb
      go_enter Try.func53, Try.ntmps53
      go_wp2
      go_ret
      exact ⟨rfl, belowA _ _⟩
  · have h1 : decide (s ≤ x.t) = false := by simp [h]
    have e : had x s = false := by unfold had; rw [h1, Bool.false_and]
    rw [e]
    clear e h
    go_enter Try.func53, Try.ntmps53
    go_wp2
    go_ret
    exact ⟨rfl, belowA _ _⟩

set_option maxHeartbeats 2000000 in
theorem l10Old_ok (x : Wn) (hi : inW x) (s : Int) (w : World) :
    Calls Try.prog 52 #[.agg #[.int .i64 x.t, .int .i64 x.b], .int .i64 s] w fun e w' => e = .returned (.bool (decide (s ≤ x.t - 32))) ∧ Below w.heap.size w w' := by
  obtain ⟨i1, i2, i3, i4⟩ := hi
  go_enter Try.func52, Try.ntmps52
  go_wp2
  go_ret
  exact ⟨rfl, belowA _ _⟩

end Go.Proofs.Ytkpdbdcfimdnjaa
