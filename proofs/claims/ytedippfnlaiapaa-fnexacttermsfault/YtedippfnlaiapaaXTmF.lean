/- The law on 'TermsFault': its walk. -/
import Derived.Test.YtedippfnlaiapaaTmQ
import Derived.Test.YtedippfnlaiapaaTermH
namespace Go.Proofs.Ytedippfnlaiapaa
open Go.RowKit


set_option maxRecDepth 20000 in
set_option maxHeartbeats 8000000 in
theorem xTmF_walk (a : Option Addr) (n ca : Nat) (xs : List T4) (w : World) (hR : RdTerm w a xs) (hn : xs.length = n) (hx' : n ≤ maxLen) (hok : ∀ t ∈ xs, okT t) :
    Calls Try.prog 4 #[.slice a n ca] w fun e w' => e = .returned (.bool true) ∧ Below w.heap.size w w' := by
  by_cases hbig : (n : Int) ≤ 1048576
  · have h0 : 0 ≤ 1048576 - (n : Int) := by omega
    have CT := Hid.mk (fun w h => toTermS_ok a n ca xs w h hn (by omega))
    have CS := Hid.mk (fun c d w h => specTermsFault_ok c n d xs w h hn hx')
    have CI := Hid.mk (fun c d w h => implTermsFault_ok c n d xs w h hn hx' hok)
    have CE := Hid.mk (fun c c' d d' w h h' => eqTermS_ok c c' n d d' xs w h h' hn hx')
    have HB1 := Hid.mk hbig
    clear hbig hn
    go_enter Try.func4, Try.ntmps4
    have B := Below.refl w.heap.size w
    go_wp2_with fail
    refine (szTermS_in a n ca 1048576 _ HB1.out (by omega)).mono ?_
    rintro e wq ⟨rfl, rfl⟩
    have HR0 := Hid.mk hR
    go_wp2_with fail
    refine (CT.out _ hR).mono ?_
    rintro e w1 ⟨rfl, o1, b1⟩
    have S1 := b1.size
    replace hR := hR.kept b1
    replace B := thenB B b1
    clear b1
    have Bo := B
    have L_o1 : ∀ b : Addr, (some ⟨wq.heap.size, 0, none⟩) = some b → wq.heap.size ≤ b.block ∧ b.block < w1.heap.size := fun b hb => by have h := o1.lt b hb; (try simp only [World.size_alloc] at h); omega
    go_wp2_with fail
    refine (CS.out _ _ _ o1.rd (Nat.le_refl _)).mono ?_
    rintro e w2 ⟨rfl, b2⟩
    have S2 := b2.size
    replace hR := hR.kept b2
    replace o1 := o1.kept b2
    replace B := thenB B b2
    clear b2
    have Bo := B
    clear L_o1
    clear o1
    go_wp2_with fail
    refine (CT.out _ hR).mono ?_
    rintro e w3 ⟨rfl, o3, b3⟩
    have S3 := b3.size
    replace hR := hR.kept b3
    replace B := thenB B b3
    clear b3
    have Bo := B
    have L_o3 : ∀ b : Addr, (some ⟨w2.heap.size, 0, none⟩) = some b → w2.heap.size ≤ b.block ∧ b.block < w3.heap.size := fun b hb => by have h := o3.lt b hb; (try simp only [World.size_alloc] at h); omega
    go_wp2_with fail
    refine (CI.out _ _ _ o3.rd).mono ?_
    rintro e w4 ⟨rfl, b4⟩
    have S4 := b4.size
    replace hR := hR.kept b4
    replace o3 := o3.kept b4
    replace B := thenB B b4
    clear b4
    have Bo := B
    go_wp2_with fail
    refine (CT.out _ hR).mono ?_
    rintro e w5 ⟨rfl, o5, b5⟩
    have S5 := b5.size
    replace hR := hR.kept b5
    replace o3 := o3.kept b5
    replace B := thenB B b5
    clear b5
    have Bo := B
    have L_o5 : ∀ b : Addr, (some ⟨w4.heap.size, 0, none⟩) = some b → w4.heap.size ≤ b.block ∧ b.block < w5.heap.size := fun b hb => by have h := o5.lt b hb; (try simp only [World.size_alloc] at h); omega
    go_wp2_with fail
    refine (CE.out _ _ _ _ _ o3.rd o5.rd).mono ?_
    rintro e w6 ⟨rfl, b6⟩
    have S6 := b6.size
    replace hR := hR.kept b6
    replace o3 := o3.kept b6
    replace o5 := o5.kept b6
    replace B := thenB B b6
    clear b6
    have Bo := B
    go_wp2
    go_ret
    exact ⟨rfl, Bo⟩
  · have hlt : 1048576 < (n : Int) := by omega
    go_enter Try.func4, Try.ntmps4
    go_wp2_with fail
    refine (szTermS_out a n ca 1048576 _ hlt (by omega) (by omega) hx').mono ?_
    rintro e wq ⟨rfl, rfl⟩
    go_wp2
    go_ret
    exact ⟨rfl, Below.refl _ _⟩

end Go.Proofs.Ytedippfnlaiapaa
