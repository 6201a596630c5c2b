/- The law on 'TakeNumber': its walk. -/
import Derived.Test.YtnclfbliimcpgaaHeld
import Derived.Test.YtnclfbliimcpgaaTake
namespace Go.Proofs.Ytnclfbliimcpgaa
open Go.RowKit

set_option maxHeartbeats 1000000 in
theorem xTake_walk (a : Option Addr) (n ca : Nat) (p m : Int) (xs : List Int) (w : World) (hR : Rd .u8 w a xs) (hB : Bytes xs) (hn : xs.length = n) :
    Calls Try.prog 7 #[.slice a n ca, .int .i64 p, .int .i64 m] w fun e w' => e = .returned (.bool true) ∧ Below w.heap.size w w' := by
  by_cases hbig : (n : Int) ≤ 1048576
  · have hx : n ≤ 281474976710656 := by omega
    have hx' : n ≤ maxLen := by unfold maxLen; omega
    go_enter Try.func7, Try.ntmps7
    go_wp2_with fail
    refine (toByteS_ok a n ca xs _ hR hn hx).mono ?_
    rintro e w1 ⟨c1, d1, rfl, o1, b1⟩
    have hR1 := hR.kept b1
    go_wp2_with fail
    refine (specTakeNumber_ok c1 n d1 p m xs _ o1.rd hB hn hx').mono ?_
    rintro e w2 ⟨rfl, b2⟩
    have hR2 := hR1.kept b2
    have hR2' := hR2.kept (belowA w2 (.cells #[.int .i64 (tkCode xs p m), .int .i64 (tkVal xs p m)] 30))
    go_wp2_with fail
    refine (toByteS_ok a n ca xs _ hR2' hn hx).mono ?_
    rintro e w3 ⟨c3, d3, rfl, o3, b3⟩
    obtain ⟨hc3, hf3⟩ := bcell b3
    have hz3 : w2.heap.size + 1 ≤ w3.heap.size := by have := b3.size; simpa using this
    have hR3 := hR2'.kept b3
    have hd3 : n ≤ d3 := by have := o3.cap; omega
    go_wp2_with fail
    refine (implTakeNumber_ok c3 n d3 p m xs _ o3.rd hB hn hx' hd3).mono ?_
    rintro e w4 ⟨rfl, b4⟩
    obtain ⟨hc4, hf4⟩ := bcell b4
    have hz4 := b4.size
    have hR4 := hR3.kept b4
    have o4 := o3.kept b4
    have hc4' : w4.cell? ⟨w2.heap.size, 0, none⟩ = some (.int .i64 (tkCode xs p m)) := by
      rw [hc4 _ _ (by omega), hc3 _ _ (by simp), World.cell?_alloc_at _ _ _ _ rfl]; rfl
    have hc4'' : w4.cell? ⟨w2.heap.size, 1, none⟩ = some (.int .i64 (tkVal xs p m)) := by
      rw [hc4 _ _ (by omega), hc3 _ _ (by simp), World.cell?_alloc_at _ _ _ _ rfl]; rfl
    have hlt : w2.heap.size < w4.heap.size := by omega
    clear hc3 hc4 hf3 hf4 hz3 hz4
    go_wp2_with (go_at_call 31; go_in)
    refine (toByteS_ok a n ca xs _ (hR4.kept (belowA3 _ _ _ _)) hn hx).mono ?_
    rintro e w5 ⟨c5, d5, rfl, o5, b5⟩
    have o4' := o4.kept (thenB (belowA3 _ _ _ _) b5)
    go_wp2_with fail
    refine (eqByteS_ok c3 c5 n n d3 d5 xs xs _ o4'.rd o5.rd hn hn hx' hx').mono ?_
    rintro e w6 ⟨rfl, b6⟩
    have hT : decide (xs = xs) = true := by simp
    go_wp2
    go_ret
    exact ⟨rfl, thenB (thenB (thenB (thenB (thenB b1 b2) (belowA _ _)) b3) b4) (thenB (thenB (belowA3 _ _ _ _) b5) b6)⟩
  · go_enter Try.func7, Try.ntmps7
    go_wp2
    go_ret
    exact ⟨rfl, Below.refl _ _⟩

end Go.Proofs.Ytnclfbliimcpgaa
