/- The law on 'SumWords': its walk. -/
import Derived.Test.YtnclfbliimcpgaaHeld
import Derived.Test.YtnclfbliimcpgaaSum
namespace Go.Proofs.Ytnclfbliimcpgaa
open Go.RowKit

set_option maxHeartbeats 1000000 in
theorem xSum_walk (a : Option Addr) (n ca : Nat) (xs : List Int) (w : World) (hR : Rd .u8 w a xs) (hB : Bytes xs) (hn : xs.length = n) :
    Calls Try.prog 8 #[.slice a n ca] w fun e w' => e = .returned (.bool true) ∧ Below w.heap.size w w' := by
  by_cases hbig : (n : Int) ≤ 1048576
  · have hx : n ≤ 281474976710656 := by omega
    have hx' : n ≤ maxLen := by unfold maxLen; omega
    go_enter Try.func8, Try.ntmps8
    go_wp2_with fail
    refine (toByteS_ok a n ca xs _ hR hn hx).mono ?_
    rintro e w1 ⟨c1, d1, rfl, o1, b1⟩
    have hR1 := hR.kept b1
    go_wp2_with fail
    refine (specSumWords_ok c1 n d1 xs _ o1.rd hB hn hx).mono ?_
    rintro e w2 ⟨rfl, b2⟩
    have hR2 := hR1.kept b2
    go_wp2_with fail
    refine (toByteS_ok a n ca xs _ hR2 hn hx).mono ?_
    rintro e w3 ⟨c3, d3, rfl, o3, b3⟩
    have hR3 := hR2.kept b3
    go_wp2_with fail
    refine (implSumWords_ok c3 n d3 xs _ o3.rd hB hn hx).mono ?_
    rintro e w4 ⟨rfl, b4⟩
    have hR4 := hR3.kept b4
    have o4 := o3.kept b4
    go_wp2_with fail
    refine (toByteS_ok a n ca xs _ hR4 hn hx).mono ?_
    rintro e w5 ⟨c5, d5, rfl, o5, b5⟩
    have o4' := o4.kept b5
    go_wp2_with fail
    refine (eqByteS_ok c3 c5 n n d3 d5 xs xs _ o4'.rd o5.rd hn hn hx' hx').mono ?_
    rintro e w6 ⟨rfl, b6⟩
    have hT : decide (xs = xs) = true := by simp
    go_wp2
    go_ret
    exact ⟨rfl, thenB (thenB (thenB (thenB (thenB b1 b2) b3) b4) b5) b6⟩
  · go_enter Try.func8, Try.ntmps8
    go_wp2
    go_ret
    exact ⟨rfl, Below.refl _ _⟩

end Go.Proofs.Ytnclfbliimcpgaa
