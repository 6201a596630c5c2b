/- The law on 'SelsFault': its walk. -/
import Derived.Test.YtmbkbbephmblmabSelN
namespace Go.Proofs.Ytmbkbbephmblmab
open Go.RowKit

set_option maxHeartbeats 2000000 in
theorem xSelsF_walk (a : Option Addr) (n ca : Nat) (xs : List S9) (w : World) (hR : RdL w a xs) (hn : xs.length = n) (hx' : n ≤ maxLen) :
    Calls Try.prog 4 #[.slice a n ca] w fun e w' => e = .returned (.bool true) ∧ Below w.heap.size w w' := by
  by_cases hbig : (n : Int) ≤ 1048576
  · have h0 : 0 ≤ 1048576 - (n : Int) := by omega
    have CT := Hid.mk (fun w h => toSelS_ok a n ca xs w h hn (by omega))
    have CS := Hid.mk (fun c d w h => specSelsFault_ok c n d xs w h hn hx')
    have CI := Hid.mk (fun c d w h => implSelsFault_ok c n d xs w h hn hx')
    have CE := Hid.mk (fun c c' d d' w h h' => eqSelS_ok c c' n d d' xs w h h' hn hx')
    generalize ssC xs = k at *
    go_enter Try.func4, Try.ntmps4
    go_wp2_with fail
    refine (szSelS_in a n ca 1048576 _ hbig (by omega)).mono ?_
    rintro e w ⟨rfl, rfl⟩
    have B := Below.refl w.heap.size w
    have Bo := B
    go_wp2_with fail
    refine (CT.out _ hR).mono ?_
    rintro e w1 ⟨rfl, o1, b1⟩
    have S1 := b1.size
    replace hR := hR.kept b1
    replace B := thenB B b1
    clear b1
    have Bo := B
    go_wp2_with fail
    refine (CS.out _ _ _ o1.rd).mono ?_
    rintro e w2 ⟨rfl, b2⟩
    have S2 := b2.size
    replace hR := hR.kept b2
    replace o1 := o1.kept b2
    replace B := thenB B b2
    clear b2
    have Bo := B
    go_wp2_with fail
    refine (CT.out _ hR).mono ?_
    rintro e w3 ⟨rfl, o2, b3⟩
    have S3 := b3.size
    replace hR := hR.kept b3
    replace o1 := o1.kept b3
    replace B := thenB B b3
    clear b3
    have Bo := B
    go_wp2_with fail
    refine (CI.out _ _ _ o2.rd).mono ?_
    rintro e w4 ⟨rfl, b4⟩
    have S4 := b4.size
    replace hR := hR.kept b4
    replace o1 := o1.kept b4
    replace o2 := o2.kept b4
    replace B := thenB B b4
    clear b4
    have Bo := B
    go_wp2_with fail
    refine (CT.out _ hR).mono ?_
    rintro e w5 ⟨rfl, o3, b5⟩
    have S5 := b5.size
    replace hR := hR.kept b5
    replace o1 := o1.kept b5
    replace o2 := o2.kept b5
    replace B := thenB B b5
    clear b5
    have Bo := B
    go_wp2_with fail
    refine (CE.out _ _ _ _ _ o2.rd o3.rd).mono ?_
    rintro e w6 ⟨rfl, b6⟩
    have S6 := b6.size
    replace hR := hR.kept b6
    replace o1 := o1.kept b6
    replace o2 := o2.kept b6
    replace o3 := o3.kept b6
    replace B := thenB B b6
    clear b6
    have Bo := B
    go_wp2
    go_ret
    exact ⟨rfl, Bo⟩
  · have hlt : 1048576 < (n : Int) := by omega
    go_enter Try.func4, Try.ntmps4
    go_wp2_with fail
    refine (szSelS_out a n ca 1048576 _ hlt (by omega) (by omega) hx').mono ?_
    rintro e w ⟨rfl, rfl⟩
    go_wp2
    go_ret
    exact ⟨rfl, Below.refl _ _⟩

end Go.Proofs.Ytmbkbbephmblmab
