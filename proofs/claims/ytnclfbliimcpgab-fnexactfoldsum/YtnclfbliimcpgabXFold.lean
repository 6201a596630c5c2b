/- 'FoldSum' and 'CheckWords': the contracts, and the laws' walks. -/
import Derived.Test.YtnclfbliimcpgabHeld
import Derived.Test.YtnclfbliimcpgabSum
namespace Go.Proofs.Ytnclfbliimcpgab
open Go.RowKit

def fsCode (n : Int) : Int := if 0 ≤ n ∧ n ≤ 281474976710656 then 0 else 3
def fsVal (n : Int) : Int := if 0 ≤ n ∧ n ≤ 281474976710656 then fold n else 0

set_option maxHeartbeats 400000 in
theorem specFoldSum_ok (n : Int) (w : World) :
    Calls Try.prog 12 #[.int .i64 n] w fun e w' => e = .returned (.agg #[.int .i64 (fsCode n), .int .i64 (fsVal n)]) ∧ Below w.heap.size w w' := by
  by_cases h : 0 ≤ n ∧ n ≤ 281474976710656
  · have e1 := Hid.mk (show fsCode n = 0 from if_pos h)
    have e2 := Hid.mk (show fsVal n = fold n from if_pos h)
    have hd : decide (n ≤ 281474976710656) = true := by simp only [decide_eq_true_iff]; exact h.2
    obtain ⟨h1, h2⟩ := h
    go_enter Try.func12, Try.ntmps12
    go_wp2_with (first | (go_at_call 36; refine (l1Fold_ok n _ h1 (by omega)).mono ?_; rintro e w1 ⟨rfl, rfl⟩) | go_in)
    refine bodyPost_ret (v := .agg #[.int .i64 0, .int .i64 (fold n)]) (by simp [results, Try.results12, go_sem]) rfl ⟨by rw [e1.out, e2.out], belowA _ _⟩
  · have e1 := Hid.mk (show fsCode n = 3 from if_neg h)
    have e2 := Hid.mk (show fsVal n = 0 from if_neg h)
    rcases (by simp only [decide_eq_false_iff_not]; omega : n < 0 ∨ (0 ≤ n ∧ decide (n ≤ 281474976710656) = false)) with h5 | ⟨h5, h6⟩
    all_goals
      clear h
      go_enter Try.func12, Try.ntmps12
      go_wp2
      refine bodyPost_ret (v := .agg #[.int .i64 3, .int .i64 0]) (by simp [results, Try.results12, go_sem]) rfl ⟨by rw [e1.out, e2.out], belowA _ _⟩

set_option maxHeartbeats 400000 in
theorem implFoldSum_ok (n : Int) (w : World) :
    Calls Try.prog 13 #[.int .i64 n] w fun e w' => e = .returned (.agg #[.int .i64 (fsCode n), .int .i64 (fsVal n)]) ∧ Below w.heap.size w w' := by
  by_cases h : 0 ≤ n ∧ n ≤ 281474976710656
  · have e1 := Hid.mk (show fsCode n = 0 from if_pos h)
    have e2 := Hid.mk (show fsVal n = fold n from if_pos h)
    have hd1 : decide (n < 0) = false := by simp only [decide_eq_false_iff_not]; omega
    have hd2 : decide (281474976710656 < n) = false := by simp only [decide_eq_false_iff_not]; omega
    obtain ⟨h1, h2⟩ := h
    obtain ⟨hb1, hb2⟩ := fold_bound n
    go_enter Try.func13, Try.ntmps13
    go_wp2_with (first | (go_at_call 37; refine (foldWords_ok n _ h1 (by omega)).mono ?_; rintro e w1 ⟨rfl, rfl⟩) | go_in)
    refine bodyPost_ret (v := .agg #[.int .i64 0, .int .i64 (fold n)]) (by simp [results, Try.results13, go_sem]) rfl ⟨by rw [e1.out, e2.out], belowA _ _⟩
  · have e1 := Hid.mk (show fsCode n = 3 from if_neg h)
    have e2 := Hid.mk (show fsVal n = 0 from if_neg h)
    rcases (by simp only [decide_eq_true_iff, decide_eq_false_iff_not]; omega : decide (n < 0) = true ∨ (decide (n < 0) = false ∧ decide (281474976710656 < n) = true)) with h5 | ⟨h5, h6⟩
    all_goals
      clear h
      go_enter Try.func13, Try.ntmps13
      go_wp2
      refine bodyPost_ret (v := .agg #[.int .i64 3, .int .i64 0]) (by simp [results, Try.results13, go_sem]) rfl ⟨by rw [e1.out, e2.out], belowA _ _⟩

set_option maxHeartbeats 400000 in
theorem xFold_walk (n : Int) (w : World) :
    Calls Try.prog 4 #[.int .i64 n] w fun e w' => e = .returned (.bool true) ∧ Below w.heap.size w w' := by
  have CS := Hid.mk (fun w => specFoldSum_ok n w)
  have CI := Hid.mk (fun w => implFoldSum_ok n w)
  generalize fsCode n = k at *
  generalize fsVal n = v at *
  go_enter Try.func4, Try.ntmps4
  go_wp2_with fail
  refine (CS.out _).mono ?_
  rintro e w1 ⟨rfl, b1⟩
  have A0 := At.new2 w1 (.int .i64 k) (.int .i64 v) 27
  go_wp2_with fail
  refine (CI.out _).mono ?_
  rintro e w2 ⟨rfl, b2⟩
  obtain ⟨f1, f2, f3⟩ := (A0.kept b2).two
  go_wp2
  go_ret
  exact ⟨rfl, thenB (thenB (thenB b1 (belowA _ _)) b2) (belowA3 _ _ _ _)⟩

set_option maxHeartbeats 400000 in
theorem specCheckWords_ok (a : Option Addr) (n ca : Nat) (zs : List Int) (w : World) (ha : Rd .u8 w a zs) (hb : Bytes zs) (hn : zs.length = n) (hx : n ≤ 281474976710656) :
    Calls Try.prog 8 #[.slice a n ca] w fun e w' => e = .returned (.bool (sumWords zs == 0)) ∧ Below w.heap.size w w' := by
  go_enter Try.func8, Try.ntmps8
  go_wp2_with fail
  refine (specSumWords_ok a n ca zs _ ha hb hn hx).mono ?_
  rintro e w1 ⟨rfl, b1⟩
  go_wp2
  go_ret
  exact ⟨rfl, b1⟩

set_option maxHeartbeats 400000 in
theorem implCheckWords_ok (a : Option Addr) (n ca : Nat) (zs : List Int) (w : World) (ha : Rd .u8 w a zs) (hb : Bytes zs) (hn : zs.length = n) (hx : n ≤ 281474976710656) :
    Calls Try.prog 10 #[.slice a n ca] w fun e w' => e = .returned (.bool (sumWords zs == 0)) ∧ Below w.heap.size w w' := by
  go_enter Try.func10, Try.ntmps10
  go_wp2_with fail
  refine (implSumWords_ok a n ca zs _ ha hb hn hx).mono ?_
  rintro e w1 ⟨rfl, b1⟩
  go_wp2
  go_ret
  exact ⟨rfl, b1⟩

set_option maxHeartbeats 1000000 in
theorem xCheck_walk (a : Option Addr) (n ca : Nat) (xs : List Int) (w : World) (hR : Rd .u8 w a xs) (hB : Bytes xs) (hn : xs.length = n) :
    Calls Try.prog 3 #[.slice a n ca] w fun e w' => e = .returned (.bool true) ∧ Below w.heap.size w w' := by
  by_cases hbig : (n : Int) ≤ 1048576
  · have hx : n ≤ 281474976710656 := by omega
    have hx' : n ≤ maxLen := by unfold maxLen; omega
    have CS := Hid.mk (fun c d w h => specCheckWords_ok c n d xs w h hB hn hx)
    have CI := Hid.mk (fun c d w h => implCheckWords_ok c n d xs w h hB hn hx)
    generalize (sumWords xs == 0) = v at *
    go_enter Try.func3, Try.ntmps3
    go_wp2_with fail
    refine (toByteS_ok a n ca xs _ hR hn hx).mono ?_
    rintro e w1 ⟨c1, d1, rfl, o1, b1⟩
    have hR1 := hR.kept b1
    go_wp2_with fail
    refine (CS.out _ _ _ o1.rd).mono ?_
    rintro e w2 ⟨rfl, b2⟩
    have hR2 := hR1.kept b2
    go_wp2_with fail
    refine (toByteS_ok a n ca xs _ hR2 hn hx).mono ?_
    rintro e w3 ⟨c3, d3, rfl, o3, b3⟩
    have hR3 := hR2.kept b3
    go_wp2_with fail
    refine (CI.out _ _ _ o3.rd).mono ?_
    rintro e w4 ⟨rfl, b4⟩
    have hR4 := hR3.kept b4
    have o4 := o3.kept b4
    cases v
    all_goals
      go_wp2_with fail
      refine (toByteS_ok a n ca xs _ hR4 hn hx).mono ?_
      rintro e w5 ⟨c5, d5, rfl, o5, b5⟩
      have o4' := o4.kept b5
      go_wp2_with fail
      refine (eqByteS_ok c3 c5 n n d3 d5 xs xs _ o4'.rd o5.rd hn hn hx' hx').mono ?_
      rintro e w6 ⟨rfl, b6⟩
      have hT : decide (xs = xs) = true := by simp
      go_wp2
      go_ret
      exact ⟨rfl, thenB (thenB (thenB (thenB (thenB b1 b2) b3) b4) b5) b6⟩
  · go_enter Try.func3, Try.ntmps3
    go_wp2
    go_ret
    exact ⟨rfl, Below.refl _ _⟩

end Go.Proofs.Ytnclfbliimcpgab
