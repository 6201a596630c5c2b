/- The law on 'HexText': its walk. -/
import Derived.Test.YtnclfbliimcpgabHeld
import Derived.Test.YtnclfbliimcpgabHex
namespace Go.Proofs.Ytnclfbliimcpgab
open Go.RowKit

set_option maxHeartbeats 1000000 in
theorem xHex_walk (a : Option Addr) (n ca : Nat) (xs : List Int) (w : World) (hR : Rd .u8 w a xs) (hB : Bytes xs) (hn : xs.length = n) :
    Calls Try.prog 7 #[.slice a n ca] w fun e w' => e = .returned (.bool true) ∧ Below w.heap.size w w' := by
  by_cases hbig : (n : Int) ≤ 1048576
  · have hx : n ≤ 281474976710656 := by omega
    have hx' : n ≤ maxLen := by unfold maxLen; omega
    have CS := Hid.mk (fun c d w h => specHexText_ok c n d xs w h hB hn hx)
    have CI := Hid.mk (fun c d w h => implHexText_ok c n d xs w h hB hn hx)
    generalize hxC xs = k at *
    generalize hxV xs = S at *
    go_enter Try.func7, Try.ntmps7
    go_wp2_with fail
    refine (toByteS_ok a n ca xs _ hR hn hx).mono ?_
    rintro e w1 ⟨c1, d1, rfl, o1, b1⟩
    have hR1 := hR.kept b1
    go_wp2_with fail
    refine (CS.out _ _ _ o1.rd).mono ?_
    rintro e w2 ⟨rfl, b2⟩
    have hR2 := (hR1.kept b2).kept (belowA w2 (.cells #[.int .i64 k, .string S] 48))
    have A0 := At.new2 w2 (.int .i64 k) (.string S) 48
    go_wp2_with fail
    refine (toByteS_ok a n ca xs _ hR2 hn hx).mono ?_
    rintro e w3 ⟨c3, d3, rfl, o3, b3⟩
    have hR3 := hR2.kept b3
    have A0 := A0.kept b3
    go_wp2_with fail
    refine (CI.out _ _ _ o3.rd).mono ?_
    rintro e w4 ⟨rfl, b4⟩
    have hR4 := hR3.kept b4
    have o4 := o3.kept b4
    have A0 := A0.kept b4
    obtain ⟨f1, f2, f3⟩ := A0.two
    go_wp2_with (go_at_call 32; go_in)
    refine (toByteS_ok a n ca xs _ (hR4.kept (belowA3 _ _ _ _)) hn hx).mono ?_
    rintro e w5 ⟨c5, d5, rfl, o5, b5⟩
    have o4' := o4.kept (thenB (belowA3 _ _ _ _) b5)
    clear f1 f2 f3
    go_wp2_with fail
    refine (eqByteS_ok c3 c5 n n d3 d5 xs xs _ o4'.rd o5.rd hn hn hx' hx').mono ?_
    rintro e w6 ⟨rfl, b6⟩
    have hT : decide (xs = xs) = true := by simp
    go_wp2
    go_ret
    exact ⟨rfl, thenB (thenB (thenB (thenB (thenB b1 b2) (belowA _ _)) b3) b4) (thenB (thenB (belowA3 _ _ _ _) b5) b6)⟩
  · go_enter Try.func7, Try.ntmps7
    go_wp2
    go_ret
    exact ⟨rfl, Below.refl _ _⟩

end Go.Proofs.Ytnclfbliimcpgab
