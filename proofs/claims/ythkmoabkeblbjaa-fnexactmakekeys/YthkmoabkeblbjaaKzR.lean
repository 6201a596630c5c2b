/- 'KeysResult' and 'PairResult' held against one another and marked. -/
import Derived.Test.YthkmoabkeblbjaaTermH
namespace Go.Proofs.Ythkmoabkeblbjaa
open Go.RowKit

set_option maxHeartbeats 1000000 in
theorem eqKeys_ok (ks kd ko kb : Int) (w : World) :
    Calls Try.prog 97 #[.agg #[.int .i64 ks, .int .i64 kd, .int .i64 ko, .int .i64 kb], .agg #[.int .i64 ks, .int .i64 kd, .int .i64 ko, .int .i64 kb]] w fun e w' => e = .returned (.bool true) ∧ Below w.heap.size w w' := by
  go_enter Try.func97, Try.ntmps97
  have B := Below.refl w.heap.size w
  replace B := thenB B (belowA w (.cells #[.int .i64 ks, .int .i64 kd, .int .i64 ko, .int .i64 kb] 28))
  have VX := V.new w [.int .i64 ks, .int .i64 kd, .int .i64 ko, .int .i64 kb] 28
  replace VX := VX.kept (belowA (w.alloc (.cells #[.int .i64 ks, .int .i64 kd, .int .i64 ko, .int .i64 kb] 28)) (.cells #[.int .i64 ks, .int .i64 kd, .int .i64 ko, .int .i64 kb] 28))
  replace B := thenB B (belowA (w.alloc (.cells #[.int .i64 ks, .int .i64 kd, .int .i64 ko, .int .i64 kb] 28)) (.cells #[.int .i64 ks, .int .i64 kd, .int .i64 ko, .int .i64 kb] 28))
  have VY : V ((w.alloc (.cells #[.int .i64 ks, .int .i64 kd, .int .i64 ko, .int .i64 kb] 28)).alloc (.cells #[.int .i64 ks, .int .i64 kd, .int .i64 ko, .int .i64 kb] 28)) (w.heap.size + 1) [.int .i64 ks, .int .i64 kd, .int .i64 ko, .int .i64 kb] := V.newAt _ _ _ _ (by simp)
  obtain ⟨s_VX, f_VX, z_VX⟩ := VX.open
  obtain ⟨s_VY, f_VY, z_VY⟩ := VY.open
  have Bo := B
  go_wp2
  go_ret
  exact ⟨rfl, Bo⟩

set_option maxHeartbeats 2000000 in
theorem eqKeysResult_ok (k ks kd ko kb : Int) (a b : Option Addr) (n ca cb : Nat) (xs : List T4) (w : World) (ha : RdTerm w a xs) (hb : RdTerm w b xs) (hn : xs.length = n) (hx : n ≤ maxLen) :
    Calls Try.prog 35 #[.agg #[.int .i64 k, .int .i64 ks, .int .i64 kd, .int .i64 ko, .int .i64 kb, .slice a n ca], .agg #[.int .i64 k, .int .i64 ks, .int .i64 kd, .int .i64 ko, .int .i64 kb, .slice b n cb]] w fun e w' => e = .returned (.bool true) ∧ Below w.heap.size w w' := by
  go_enter Try.func35, Try.ntmps35
  have B := Below.refl w.heap.size w
  replace ha := ha.kept (belowA w (.cells #[.int .i64 k, .int .i64 ks, .int .i64 kd, .int .i64 ko, .int .i64 kb, .slice a n ca] 30))
  replace hb := hb.kept (belowA w (.cells #[.int .i64 k, .int .i64 ks, .int .i64 kd, .int .i64 ko, .int .i64 kb, .slice a n ca] 30))
  replace B := thenB B (belowA w (.cells #[.int .i64 k, .int .i64 ks, .int .i64 kd, .int .i64 ko, .int .i64 kb, .slice a n ca] 30))
  have VX := V.new w [.int .i64 k, .int .i64 ks, .int .i64 kd, .int .i64 ko, .int .i64 kb, .slice a n ca] 30
  replace VX := VX.kept (belowA (w.alloc (.cells #[.int .i64 k, .int .i64 ks, .int .i64 kd, .int .i64 ko, .int .i64 kb, .slice a n ca] 30)) (.cells #[.int .i64 k, .int .i64 ks, .int .i64 kd, .int .i64 ko, .int .i64 kb, .slice b n cb] 30))
  replace ha := ha.kept (belowA (w.alloc (.cells #[.int .i64 k, .int .i64 ks, .int .i64 kd, .int .i64 ko, .int .i64 kb, .slice a n ca] 30)) (.cells #[.int .i64 k, .int .i64 ks, .int .i64 kd, .int .i64 ko, .int .i64 kb, .slice b n cb] 30))
  replace hb := hb.kept (belowA (w.alloc (.cells #[.int .i64 k, .int .i64 ks, .int .i64 kd, .int .i64 ko, .int .i64 kb, .slice a n ca] 30)) (.cells #[.int .i64 k, .int .i64 ks, .int .i64 kd, .int .i64 ko, .int .i64 kb, .slice b n cb] 30))
  replace B := thenB B (belowA (w.alloc (.cells #[.int .i64 k, .int .i64 ks, .int .i64 kd, .int .i64 ko, .int .i64 kb, .slice a n ca] 30)) (.cells #[.int .i64 k, .int .i64 ks, .int .i64 kd, .int .i64 ko, .int .i64 kb, .slice b n cb] 30))
  have VY : V ((w.alloc (.cells #[.int .i64 k, .int .i64 ks, .int .i64 kd, .int .i64 ko, .int .i64 kb, .slice a n ca] 30)).alloc (.cells #[.int .i64 k, .int .i64 ks, .int .i64 kd, .int .i64 ko, .int .i64 kb, .slice b n cb] 30)) (w.heap.size + 1) [.int .i64 k, .int .i64 ks, .int .i64 kd, .int .i64 ko, .int .i64 kb, .slice b n cb] := V.newAt _ _ _ _ (by simp)
  obtain ⟨s_VX, f_VX, z_VX⟩ := VX.open
  obtain ⟨s_VY, f_VY, z_VY⟩ := VY.open
  have Bo := B
  go_wp2_with fail
  refine (eqKeys_ok ks kd ko kb _).mono ?_
  rintro e w1 ⟨rfl, b1⟩
  clear s_VX f_VX z_VX s_VY f_VY z_VY
  have S1 := b1.size
  simp only [World.size_alloc] at S1
  replace VX := VX.kept b1
  replace VY := VY.kept b1
  replace ha := ha.kept b1
  replace hb := hb.kept b1
  replace B := thenB B b1
  clear b1
  obtain ⟨s_VX, f_VX, z_VX⟩ := VX.open
  obtain ⟨s_VY, f_VY, z_VY⟩ := VY.open
  have Bo := B
  clear s_VX f_VX z_VX s_VY f_VY z_VY
  obtain ⟨s_VX, f_VX, z_VX⟩ := VX.open
  obtain ⟨s_VY, f_VY, z_VY⟩ := VY.open
  have Bo := B
  go_wp2_with fail
  refine (eqTermS_ok a b n ca cb xs _ ha hb hn hx).mono ?_
  rintro e w2 ⟨rfl, b2⟩
  clear s_VX f_VX z_VX s_VY f_VY z_VY
  have S2 := b2.size
  replace VX := VX.kept b2
  replace VY := VY.kept b2
  replace ha := ha.kept b2
  replace hb := hb.kept b2
  replace B := thenB B b2
  clear b2
  obtain ⟨s_VX, f_VX, z_VX⟩ := VX.open
  obtain ⟨s_VY, f_VY, z_VY⟩ := VY.open
  have Bo := B
  clear s_VX f_VX z_VX s_VY f_VY z_VY
  obtain ⟨s_VX, f_VX, z_VX⟩ := VX.open
  obtain ⟨s_VY, f_VY, z_VY⟩ := VY.open
  have Bo := B
  go_wp2
  go_ret
  exact ⟨rfl, Bo⟩

set_option maxHeartbeats 1000000 in
theorem markKeysResult_ok (k ks kd ko kb : Int) (a : Option Addr) (n ca base : Nat) (xs : List T4) (q : Int) (w : World) (ha : OwnTerm w base a ca xs) (hn : xs.length = n) (h0 : 0 ≤ q) (hx : q + 4 * (n : Int) ≤ 1099511627776) :
    Calls Try.prog 38 #[.agg #[.int .i64 k, .int .i64 ks, .int .i64 kd, .int .i64 ko, .int .i64 kb, .slice a n ca], .int .i64 q] w fun e w' => e = .returned (.int .i64 (q + 4 * (n : Int))) ∧ OwnTerm w' base a ca (marksTerm q n) ∧ w.grownBy w' (a.map Addr.block) := by
  have VX := V.new w [.int .i64 k, .int .i64 ks, .int .i64 kd, .int .i64 ko, .int .i64 kb, .slice a n ca] 30
  replace ha := ha.kept (belowA w (.cells #[.int .i64 k, .int .i64 ks, .int .i64 kd, .int .i64 ko, .int .i64 kb, .slice a n ca] 30))
  obtain ⟨s_VX, f_VX, z_VX⟩ := VX.open
  go_enter Try.func38, Try.ntmps38
  go_wp2_with fail
  refine (markTermS_ok a n ca base xs q _ ha hn h0 hx).mono ?_
  rintro e w1 ⟨rfl, O, b1⟩
  go_wp2
  go_ret
  exact ⟨rfl, O, grownBy_trans (Below.grownBy (belowA w _) _) b1⟩

set_option maxHeartbeats 1000000 in
theorem heldKeysResult_ok (k ks kd ko kb : Int) (a : Option Addr) (n ca : Nat) (q : Int) (w : World) (ha : RdTerm w a (marksTerm q n)) (h0 : 0 ≤ q) (hx : q + 4 * (n : Int) ≤ 1099511627776) :
    Calls Try.prog 39 #[.agg #[.int .i64 k, .int .i64 ks, .int .i64 kd, .int .i64 ko, .int .i64 kb, .slice a n ca], .int .i64 q] w fun e w' => e = .returned (.int .i64 (q + 4 * (n : Int))) ∧ Below w.heap.size w w' := by
  have VX := V.new w [.int .i64 k, .int .i64 ks, .int .i64 kd, .int .i64 ko, .int .i64 kb, .slice a n ca] 30
  have B := belowA w (.cells #[.int .i64 k, .int .i64 ks, .int .i64 kd, .int .i64 ko, .int .i64 kb, .slice a n ca] 30)
  replace ha := ha.kept B
  obtain ⟨s_VX, f_VX, z_VX⟩ := VX.open
  have hneg : ¬ (q + 4 * (n : Int)) < 0 := by omega
  go_enter Try.func39, Try.ntmps39
  go_wp2_with fail
  refine (heldTermS_ok a n ca q _ ha h0 hx).mono ?_
  rintro e w1 ⟨rfl, b1⟩
  go_wp2
  go_ret
  exact ⟨rfl, thenB B b1⟩

set_option maxHeartbeats 2000000 in
theorem eqPairResult_ok (k u v : Int) (a b : Option Addr) (n ca cb : Nat) (xs : List T4) (w : World) (ha : RdTerm w a xs) (hb : RdTerm w b xs) (hn : xs.length = n) (hx : n ≤ maxLen) :
    Calls Try.prog 45 #[.agg #[.int .i64 k, .int .i64 u, .int .i64 v, .slice a n ca], .agg #[.int .i64 k, .int .i64 u, .int .i64 v, .slice b n cb]] w fun e w' => e = .returned (.bool true) ∧ Below w.heap.size w w' := by
  go_enter Try.func45, Try.ntmps45
  have B := Below.refl w.heap.size w
  replace ha := ha.kept (belowA w (.cells #[.int .i64 k, .int .i64 u, .int .i64 v, .slice a n ca] 67))
  replace hb := hb.kept (belowA w (.cells #[.int .i64 k, .int .i64 u, .int .i64 v, .slice a n ca] 67))
  replace B := thenB B (belowA w (.cells #[.int .i64 k, .int .i64 u, .int .i64 v, .slice a n ca] 67))
  have VX := V.new w [.int .i64 k, .int .i64 u, .int .i64 v, .slice a n ca] 67
  replace VX := VX.kept (belowA (w.alloc (.cells #[.int .i64 k, .int .i64 u, .int .i64 v, .slice a n ca] 67)) (.cells #[.int .i64 k, .int .i64 u, .int .i64 v, .slice b n cb] 67))
  replace ha := ha.kept (belowA (w.alloc (.cells #[.int .i64 k, .int .i64 u, .int .i64 v, .slice a n ca] 67)) (.cells #[.int .i64 k, .int .i64 u, .int .i64 v, .slice b n cb] 67))
  replace hb := hb.kept (belowA (w.alloc (.cells #[.int .i64 k, .int .i64 u, .int .i64 v, .slice a n ca] 67)) (.cells #[.int .i64 k, .int .i64 u, .int .i64 v, .slice b n cb] 67))
  replace B := thenB B (belowA (w.alloc (.cells #[.int .i64 k, .int .i64 u, .int .i64 v, .slice a n ca] 67)) (.cells #[.int .i64 k, .int .i64 u, .int .i64 v, .slice b n cb] 67))
  have VY : V ((w.alloc (.cells #[.int .i64 k, .int .i64 u, .int .i64 v, .slice a n ca] 67)).alloc (.cells #[.int .i64 k, .int .i64 u, .int .i64 v, .slice b n cb] 67)) (w.heap.size + 1) [.int .i64 k, .int .i64 u, .int .i64 v, .slice b n cb] := V.newAt _ _ _ _ (by simp)
  obtain ⟨s_VX, f_VX, z_VX⟩ := VX.open
  obtain ⟨s_VY, f_VY, z_VY⟩ := VY.open
  have Bo := B
  go_wp2_with fail
  refine (eqTermS_ok a b n ca cb xs _ ha hb hn hx).mono ?_
  rintro e w1 ⟨rfl, b1⟩
  clear s_VX f_VX z_VX s_VY f_VY z_VY
  have S1 := b1.size
  simp only [World.size_alloc] at S1
  replace VX := VX.kept b1
  replace VY := VY.kept b1
  replace ha := ha.kept b1
  replace hb := hb.kept b1
  replace B := thenB B b1
  clear b1
  obtain ⟨s_VX, f_VX, z_VX⟩ := VX.open
  obtain ⟨s_VY, f_VY, z_VY⟩ := VY.open
  have Bo := B
  clear s_VX f_VX z_VX s_VY f_VY z_VY
  obtain ⟨s_VX, f_VX, z_VX⟩ := VX.open
  obtain ⟨s_VY, f_VY, z_VY⟩ := VY.open
  have Bo := B
  go_wp2
  go_ret
  exact ⟨rfl, Bo⟩

set_option maxHeartbeats 1000000 in
theorem markPairResult_ok (k u v : Int) (a : Option Addr) (n ca base : Nat) (xs : List T4) (q : Int) (w : World) (ha : OwnTerm w base a ca xs) (hn : xs.length = n) (h0 : 0 ≤ q) (hx : q + 4 * (n : Int) ≤ 1099511627776) :
    Calls Try.prog 46 #[.agg #[.int .i64 k, .int .i64 u, .int .i64 v, .slice a n ca], .int .i64 q] w fun e w' => e = .returned (.int .i64 (q + 4 * (n : Int))) ∧ OwnTerm w' base a ca (marksTerm q n) ∧ w.grownBy w' (a.map Addr.block) := by
  have VX := V.new w [.int .i64 k, .int .i64 u, .int .i64 v, .slice a n ca] 67
  replace ha := ha.kept (belowA w (.cells #[.int .i64 k, .int .i64 u, .int .i64 v, .slice a n ca] 67))
  obtain ⟨s_VX, f_VX, z_VX⟩ := VX.open
  go_enter Try.func46, Try.ntmps46
  go_wp2_with fail
  refine (markTermS_ok a n ca base xs q _ ha hn h0 hx).mono ?_
  rintro e w1 ⟨rfl, O, b1⟩
  go_wp2
  go_ret
  exact ⟨rfl, O, grownBy_trans (Below.grownBy (belowA w _) _) b1⟩

set_option maxHeartbeats 1000000 in
theorem heldPairResult_ok (k u v : Int) (a : Option Addr) (n ca : Nat) (q : Int) (w : World) (ha : RdTerm w a (marksTerm q n)) (h0 : 0 ≤ q) (hx : q + 4 * (n : Int) ≤ 1099511627776) :
    Calls Try.prog 47 #[.agg #[.int .i64 k, .int .i64 u, .int .i64 v, .slice a n ca], .int .i64 q] w fun e w' => e = .returned (.int .i64 (q + 4 * (n : Int))) ∧ Below w.heap.size w w' := by
  have VX := V.new w [.int .i64 k, .int .i64 u, .int .i64 v, .slice a n ca] 67
  have B := belowA w (.cells #[.int .i64 k, .int .i64 u, .int .i64 v, .slice a n ca] 67)
  replace ha := ha.kept B
  obtain ⟨s_VX, f_VX, z_VX⟩ := VX.open
  have hneg : ¬ (q + 4 * (n : Int)) < 0 := by omega
  go_enter Try.func47, Try.ntmps47
  go_wp2_with fail
  refine (heldTermS_ok a n ca q _ ha h0 hx).mono ?_
  rintro e w1 ⟨rfl, b1⟩
  go_wp2
  go_ret
  exact ⟨rfl, thenB B b1⟩

end Go.Proofs.Ythkmoabkeblbjaa
