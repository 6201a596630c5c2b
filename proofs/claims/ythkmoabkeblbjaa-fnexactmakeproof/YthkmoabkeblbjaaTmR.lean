/- 'TermResult' held against one another and marked. -/
import Derived.Test.YthkmoabkeblbjaaTermH
namespace Go.Proofs.Ythkmoabkeblbjaa
open Go.RowKit

set_option maxHeartbeats 1000000 in
theorem eqTermResult_ok (k u : Int) (a b : Option Addr) (n ca cb : Nat) (xs : List T4) (w : World) (ha : RdTerm w a xs) (hb : RdTerm w b xs) (hn : xs.length = n) (hx : n ≤ maxLen) :
    Calls Try.prog 40 #[.agg #[.int .i64 k, .int .i64 u, .slice a n ca], .agg #[.int .i64 k, .int .i64 u, .slice b n cb]] w fun e w' => e = .returned (.bool true) ∧ Below w.heap.size w w' := by
  go_enter Try.func40, Try.ntmps40
  have B := Below.refl w.heap.size w
  replace ha := ha.kept (belowA w (.cells #[.int .i64 k, .int .i64 u, .slice a n ca] 33))
  replace hb := hb.kept (belowA w (.cells #[.int .i64 k, .int .i64 u, .slice a n ca] 33))
  replace B := thenB B (belowA w (.cells #[.int .i64 k, .int .i64 u, .slice a n ca] 33))
  have VX := V.new w [.int .i64 k, .int .i64 u, .slice a n ca] 33
  replace VX := VX.kept (belowA (w.alloc (.cells #[.int .i64 k, .int .i64 u, .slice a n ca] 33)) (.cells #[.int .i64 k, .int .i64 u, .slice b n cb] 33))
  replace ha := ha.kept (belowA (w.alloc (.cells #[.int .i64 k, .int .i64 u, .slice a n ca] 33)) (.cells #[.int .i64 k, .int .i64 u, .slice b n cb] 33))
  replace hb := hb.kept (belowA (w.alloc (.cells #[.int .i64 k, .int .i64 u, .slice a n ca] 33)) (.cells #[.int .i64 k, .int .i64 u, .slice b n cb] 33))
  replace B := thenB B (belowA (w.alloc (.cells #[.int .i64 k, .int .i64 u, .slice a n ca] 33)) (.cells #[.int .i64 k, .int .i64 u, .slice b n cb] 33))
  have VY : V ((w.alloc (.cells #[.int .i64 k, .int .i64 u, .slice a n ca] 33)).alloc (.cells #[.int .i64 k, .int .i64 u, .slice b n cb] 33)) (w.heap.size + 1) [.int .i64 k, .int .i64 u, .slice b n cb] := V.newAt _ _ _ _ (by simp)
  obtain ⟨s_VX, f_VX, z_VX⟩ := VX.open
  obtain ⟨s_VY, f_VY, z_VY⟩ := VY.open
  have Bo := B
  go_wp2_with fail
  refine (eqTermS_ok a b n ca cb xs _ ha hb hn hx).mono ?_
  rintro e w1 ⟨rfl, b1⟩
  clear s_VX f_VX z_VX s_VY f_VY z_VY
  have S1 := b1.size
  simp only [World.size_alloc] at S1
  replace VX := VX.kept b1
  replace VY := VY.kept b1
  replace ha := ha.kept b1
  replace hb := hb.kept b1
  replace B := thenB B b1
  clear b1
  obtain ⟨s_VX, f_VX, z_VX⟩ := VX.open
  obtain ⟨s_VY, f_VY, z_VY⟩ := VY.open
  have Bo := B
  go_wp2
  go_ret
  exact ⟨rfl, Bo⟩

set_option maxHeartbeats 1000000 in
theorem markTermResult_ok (k u : Int) (a : Option Addr) (n ca base : Nat) (xs : List T4) (q : Int) (w : World) (ha : OwnTerm w base a ca xs) (hn : xs.length = n) (h0 : 0 ≤ q) (hx : q + 4 * (n : Int) ≤ 1099511627776) :
    Calls Try.prog 41 #[.agg #[.int .i64 k, .int .i64 u, .slice a n ca], .int .i64 q] w fun e w' => e = .returned (.int .i64 (q + 4 * (n : Int))) ∧ OwnTerm w' base a ca (marksTerm q n) ∧ w.grownBy w' (a.map Addr.block) := by
  have VX := V.new w [.int .i64 k, .int .i64 u, .slice a n ca] 33
  replace ha := ha.kept (belowA w (.cells #[.int .i64 k, .int .i64 u, .slice a n ca] 33))
  obtain ⟨s_VX, f_VX, z_VX⟩ := VX.open
  go_enter Try.func41, Try.ntmps41
  go_wp2_with fail
  refine (markTermS_ok a n ca base xs q _ ha hn h0 hx).mono ?_
  rintro e w1 ⟨rfl, O, b1⟩
  go_wp2
  go_ret
  exact ⟨rfl, O, grownBy_trans (Below.grownBy (belowA w _) _) b1⟩

set_option maxHeartbeats 1000000 in
theorem heldTermResult_ok (k u : Int) (a : Option Addr) (n ca : Nat) (q : Int) (w : World) (ha : RdTerm w a (marksTerm q n)) (h0 : 0 ≤ q) (hx : q + 4 * (n : Int) ≤ 1099511627776) :
    Calls Try.prog 42 #[.agg #[.int .i64 k, .int .i64 u, .slice a n ca], .int .i64 q] w fun e w' => e = .returned (.int .i64 (q + 4 * (n : Int))) ∧ Below w.heap.size w w' := by
  have VX := V.new w [.int .i64 k, .int .i64 u, .slice a n ca] 33
  have B := belowA w (.cells #[.int .i64 k, .int .i64 u, .slice a n ca] 33)
  replace ha := ha.kept B
  obtain ⟨s_VX, f_VX, z_VX⟩ := VX.open
  have hneg : ¬ (q + 4 * (n : Int)) < 0 := by omega
  go_enter Try.func42, Try.ntmps42
  go_wp2_with fail
  refine (heldTermS_ok a n ca q _ ha h0 hx).mono ?_
  rintro e w1 ⟨rfl, b1⟩
  go_wp2
  go_ret
  exact ⟨rfl, thenB B b1⟩

end Go.Proofs.Ythkmoabkeblbjaa
