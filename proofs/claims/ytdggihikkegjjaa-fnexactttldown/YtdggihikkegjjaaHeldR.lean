/- The law's own helpers over a result with bytes, by contracts. -/
import Derived.Test.YtdggihikkegjjaaHeld
namespace Go.Proofs.Ytdggihikkegjjaa
open Go.RowKit

set_option maxHeartbeats 400000 in
theorem eqBytesResult_ok (k : Int) (a b : Option Addr) (n ca cb : Nat) (xs : List Int) (w : World) (ha : Rd .u8 w a xs) (hb : Rd .u8 w b xs) (hn : xs.length = n) (hx : n ≤ maxLen) :
    Calls Try.prog 28 #[.agg #[.int .i64 k, .slice a n ca], .agg #[.int .i64 k, .slice b n cb]] w fun e w' => e = .returned (.bool true) ∧ Below w.heap.size w w' := by
  have hT : decide (xs = xs) = true := by simp
  go_enter Try.func28, Try.ntmps28
  go_wp2_with fail
  refine (eqByteS_ok a b n n ca cb xs xs _ (ha.kept (belowA2 _ _ _)) (hb.kept (belowA2 _ _ _)) hn hn hx hx).mono ?_
  rintro e w1 ⟨rfl, b1⟩
  go_wp2
  go_ret
  exact ⟨rfl, thenB (belowA2 _ _ _) b1⟩

set_option maxHeartbeats 400000 in
theorem markBytesResult_ok (k : Int) (a : Option Addr) (n ca base : Nat) (xs : List Int) (q : Int) (w : World) (ha : Own .u8 5 w base a ca xs) (hn : xs.length = n) (h0 : 0 ≤ q) (hx : q + (n : Int) ≤ 9223372036854775807) :
    Calls Try.prog 29 #[.agg #[.int .i64 k, .slice a n ca], .int .i64 q] w fun e w' => e = .returned (.int .i64 (q + (n : Int))) ∧ Own .u8 5 w' base a ca (marks q n) ∧ w.grownBy w' (a.map Addr.block) := by
  go_enter Try.func29, Try.ntmps29
  go_wp2_with fail
  refine (markByteS_ok a n ca base xs q _ (ha.kept (belowA _ _)) hn h0 hx).mono ?_
  rintro e w1 ⟨rfl, o1, g1⟩
  go_wp2
  go_ret
  exact ⟨rfl, o1, grownBy_trans (Below.grownBy (belowA _ _) _) g1⟩

set_option maxHeartbeats 400000 in
theorem heldBytesResult_ok (k : Int) (a : Option Addr) (n ca : Nat) (q : Int) (w : World) (ha : Rd .u8 w a (marks q n)) (h0 : 0 ≤ q) (hx : q + (n : Int) ≤ 9223372036854775807) :
    Calls Try.prog 30 #[.agg #[.int .i64 k, .slice a n ca], .int .i64 q] w fun e w' => e = .returned (.int .i64 (q + (n : Int))) ∧ Below w.heap.size w w' := by
  go_enter Try.func30, Try.ntmps30
  go_wp2_with fail
  refine (heldByteS_ok a n ca q _ (ha.kept (belowA _ _)) h0 hx).mono ?_
  rintro e w1 ⟨rfl, b1⟩
  have hq : 0 ≤ q + (n : Int) := by omega
  go_wp2
  go_ret
  exact ⟨rfl, thenB (belowA _ _) b1⟩

end Go.Proofs.Ytdggihikkegjjaa
