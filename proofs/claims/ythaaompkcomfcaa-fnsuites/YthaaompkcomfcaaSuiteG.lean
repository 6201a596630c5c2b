/- 'SuitesResult' and 'SuiteResult' held against one another and marked. -/
import Derived.Test.YthaaompkcomfcaaSuiteH
import Derived.Test.YthaaompkcomfcaaVar
namespace Go.Proofs.Ythaaompkcomfcaa
open Go.RowKit

set_option maxHeartbeats 1000000 in
theorem eqSuitesResult_ok (k : Int) (a b : Option Addr) (n ca cb : Nat) (xs : List Su) (w : World) (ha : RdSuite w a xs) (hb : RdSuite w b xs) (hn : xs.length = n) (hx : n ≤ maxLen) :
    Calls Try.prog 31 #[.agg #[.int .i64 k, .slice a n ca], .agg #[.int .i64 k, .slice b n cb]] w fun e w' => e = .returned (.bool true) ∧ Below w.heap.size w w' := by
  go_enter Try.func31, Try.ntmps31
  have B := Below.refl w.heap.size w
  replace ha := ha.kept (belowA w (.cells #[.int .i64 k, .slice a n ca] 33))
  replace hb := hb.kept (belowA w (.cells #[.int .i64 k, .slice a n ca] 33))
  replace B := thenB B (belowA w (.cells #[.int .i64 k, .slice a n ca] 33))
  have VX := V.new w [.int .i64 k, .slice a n ca] 33
  replace VX := VX.kept (belowA (w.alloc (.cells #[.int .i64 k, .slice a n ca] 33)) (.cells #[.int .i64 k, .slice b n cb] 33))
  replace ha := ha.kept (belowA (w.alloc (.cells #[.int .i64 k, .slice a n ca] 33)) (.cells #[.int .i64 k, .slice b n cb] 33))
  replace hb := hb.kept (belowA (w.alloc (.cells #[.int .i64 k, .slice a n ca] 33)) (.cells #[.int .i64 k, .slice b n cb] 33))
  replace B := thenB B (belowA (w.alloc (.cells #[.int .i64 k, .slice a n ca] 33)) (.cells #[.int .i64 k, .slice b n cb] 33))
  have VY : V ((w.alloc (.cells #[.int .i64 k, .slice a n ca] 33)).alloc (.cells #[.int .i64 k, .slice b n cb] 33)) (w.heap.size + 1) [.int .i64 k, .slice b n cb] := V.newAt _ _ _ _ (by simp)
  obtain ⟨s_VX, f_VX, z_VX⟩ := VX.open
  obtain ⟨s_VY, f_VY, z_VY⟩ := VY.open
  have Bo := B
  go_wp2_with fail
  refine (eqSuiteS_ok a b n ca cb xs _ ha hb hn hx).mono ?_
  rintro e w1 ⟨rfl, b1⟩
  clear s_VX f_VX z_VX s_VY f_VY z_VY
  have S1 := b1.size
  simp only [World.size_alloc] at S1
  replace VX := VX.kept b1
  replace VY := VY.kept b1
  replace ha := ha.kept b1
  replace hb := hb.kept b1
  replace B := thenB B b1
  clear b1
  obtain ⟨s_VX, f_VX, z_VX⟩ := VX.open
  obtain ⟨s_VY, f_VY, z_VY⟩ := VY.open
  have Bo := B
  go_wp2
  go_ret
  exact ⟨rfl, Bo⟩

set_option maxHeartbeats 1000000 in
theorem markSuitesResult_ok (k : Int) (a : Option Addr) (n ca base : Nat) (xs : List Su) (q : Int) (w : World) (ha : OwnSuite w base a ca xs) (hn : xs.length = n) (h0 : 0 ≤ q) (hx : q + 4 * (n : Int) ≤ 1099511627776) :
    Calls Try.prog 33 #[.agg #[.int .i64 k, .slice a n ca], .int .i64 q] w fun e w' => e = .returned (.int .i64 (q + 4 * (n : Int))) ∧ OwnSuite w' base a ca (marksSuite q n) ∧ w.grownBy w' (a.map Addr.block) := by
  have VX := V.new w [.int .i64 k, .slice a n ca] 33
  replace ha := ha.kept (belowA w (.cells #[.int .i64 k, .slice a n ca] 33))
  obtain ⟨s_VX, f_VX, z_VX⟩ := VX.open
  go_enter Try.func33, Try.ntmps33
  go_wp2_with fail
  refine (markSuiteS_ok a n ca base xs q _ ha hn h0 hx).mono ?_
  rintro e w1 ⟨rfl, O, b1⟩
  go_wp2
  go_ret
  exact ⟨rfl, O, grownBy_trans (Below.grownBy (belowA w _) _) b1⟩

set_option maxHeartbeats 1000000 in
theorem heldSuitesResult_ok (k : Int) (a : Option Addr) (n ca : Nat) (q : Int) (w : World) (ha : RdSuite w a (marksSuite q n)) (h0 : 0 ≤ q) (hx : q + 4 * (n : Int) ≤ 1099511627776) :
    Calls Try.prog 34 #[.agg #[.int .i64 k, .slice a n ca], .int .i64 q] w fun e w' => e = .returned (.int .i64 (q + 4 * (n : Int))) ∧ Below w.heap.size w w' := by
  have VX := V.new w [.int .i64 k, .slice a n ca] 33
  have B := belowA w (.cells #[.int .i64 k, .slice a n ca] 33)
  replace ha := ha.kept B
  obtain ⟨s_VX, f_VX, z_VX⟩ := VX.open
  have hneg : ¬ (q + 4 * (n : Int)) < 0 := by omega
  go_enter Try.func34, Try.ntmps34
  go_wp2_with fail
  refine (heldSuiteS_ok a n ca q _ ha h0 hx).mono ?_
  rintro e w1 ⟨rfl, b1⟩
  go_wp2
  go_ret
  exact ⟨rfl, thenB B b1⟩

set_option maxHeartbeats 1000000 in
theorem eqSuiteResult_ok (k at' : Int) (x : Su) (w : World) :
    Calls Try.prog 29 #[.agg #[.int .i64 k, .int .i64 at', .int .i64 x.c, .int .i64 x.b, .int .i64 x.m, .int .i64 x.g], .agg #[.int .i64 k, .int .i64 at', .int .i64 x.c, .int .i64 x.b, .int .i64 x.m, .int .i64 x.g]] w fun e w' => e = .returned (.bool true) ∧ Below w.heap.size w w' := by
  go_enter Try.func29, Try.ntmps29
  go_wp2_with fail
  refine (eqSuite_ok x _).mono ?_
  rintro e w1 ⟨rfl, b1⟩
  have B1 := thenB (belowA2 _ _ _) b1
  go_wp2
  go_ret
  exact ⟨rfl, B1⟩

end Go.Proofs.Ythaaompkcomfcaa
