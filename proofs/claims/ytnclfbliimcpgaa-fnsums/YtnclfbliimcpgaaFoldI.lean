/- The program's 'FoldSum' and 'CheckWords', by contracts. -/
import Derived.Test.YtnclfbliimcpgaaHeld
import Derived.Test.YtnclfbliimcpgaaSum
namespace Go.Proofs.Ytnclfbliimcpgaa
open Go.RowKit

def fsCode (n : Int) : Int := if 0 ≤ n ∧ n ≤ 281474976710656 then 0 else 3
def fsVal (n : Int) : Int := if 0 ≤ n ∧ n ≤ 281474976710656 then fold n else 0

set_option maxHeartbeats 400000 in
theorem implFoldSum_ok (n : Int) (w : World) :
    Calls Try.prog 16 #[.int .i64 n] w fun e w' => e = .returned (.agg #[.int .i64 (fsCode n), .int .i64 (fsVal n)]) ∧ Below w.heap.size w w' := by
  by_cases h : 0 ≤ n ∧ n ≤ 281474976710656
  · have e1 := Hid.mk (show fsCode n = 0 from if_pos h)
    have e2 := Hid.mk (show fsVal n = fold n from if_pos h)
    have hd1 : decide (n < 0) = false := by simp only [decide_eq_false_iff_not]; omega
    have hd2 : decide (281474976710656 < n) = false := by simp only [decide_eq_false_iff_not]; omega
    obtain ⟨h1, h2⟩ := h
    obtain ⟨hb1, hb2⟩ := fold_bound n
    go_enter Try.func16, Try.ntmps16
    go_wp2_with (first | (go_at_call 43; refine (foldWords_ok n _ h1 (by omega)).mono ?_; rintro e w1 ⟨rfl, rfl⟩) | go_in)
    refine bodyPost_ret (v := .agg #[.int .i64 0, .int .i64 (fold n)]) (by simp [results, Try.results16, go_sem]) rfl ⟨by rw [e1.out, e2.out], belowA _ _⟩
  · have e1 := Hid.mk (show fsCode n = 3 from if_neg h)
    have e2 := Hid.mk (show fsVal n = 0 from if_neg h)
    rcases (by simp only [decide_eq_true_iff, decide_eq_false_iff_not]; omega : decide (n < 0) = true ∨ (decide (n < 0) = false ∧ decide (281474976710656 < n) = true)) with h5 | ⟨h5, h6⟩
    all_goals
      clear h
      go_enter Try.func16, Try.ntmps16
      go_wp2
      refine bodyPost_ret (v := .agg #[.int .i64 3, .int .i64 0]) (by simp [results, Try.results16, go_sem]) rfl ⟨by rw [e1.out, e2.out], belowA _ _⟩

set_option maxHeartbeats 400000 in
theorem implCheckWords_ok (a : Option Addr) (n ca : Nat) (zs : List Int) (w : World) (ha : Rd .u8 w a zs) (hb : Bytes zs) (hn : zs.length = n) (hx : n ≤ 281474976710656) :
    Calls Try.prog 18 #[.slice a n ca] w fun e w' => e = .returned (.bool (sumWords zs == 0)) ∧ Below w.heap.size w w' := by
  go_enter Try.func18, Try.ntmps18
  go_wp2_with fail
  refine (implSumWords_ok a n ca zs _ ha hb hn hx).mono ?_
  rintro e w1 ⟨rfl, b1⟩
  go_wp2
  go_ret
  exact ⟨rfl, b1⟩

end Go.Proofs.Ytnclfbliimcpgaa
