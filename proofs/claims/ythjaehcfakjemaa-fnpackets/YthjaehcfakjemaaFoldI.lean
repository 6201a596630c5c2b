/- The program's 'FoldSum' and 'CheckWords', by contracts. -/
import Derived.Test.YthjaehcfakjemaaHeld
import Derived.Test.YthjaehcfakjemaaSum
namespace Go.Proofs.Ythjaehcfakjemaa
open Go.RowKit

def fsCode (n : Int) : Int := if 0 ≤ n ∧ n ≤ 281474976710656 then 0 else 3
def fsVal (n : Int) : Int := if 0 ≤ n ∧ n ≤ 281474976710656 then fold n else 0

set_option maxHeartbeats 400000 in
theorem implCheckWords_ok (a : Option Addr) (n ca : Nat) (zs : List Int) (w : World) (ha : Rd .u8 w a zs) (hb : Bytes zs) (hn : zs.length = n) (hx : n ≤ 281474976710656) :
    Calls Try.prog 15 #[.slice a n ca] w fun e w' => e = .returned (.bool (sumWords zs == 0)) ∧ Below w.heap.size w w' := by
  go_enter Try.func15, Try.ntmps15
  go_wp2_with fail
  refine (implSumWords_ok a n ca zs _ ha hb hn hx).mono ?_
  rintro e w1 ⟨rfl, b1⟩
  go_wp2
  go_ret
  exact ⟨rfl, b1⟩

set_option maxHeartbeats 400000 in
theorem specCheckWords_ok (a : Option Addr) (n ca : Nat) (zs : List Int) (w : World) (ha : Rd .u8 w a zs) (hb : Bytes zs) (hn : zs.length = n) (hx : n ≤ 281474976710656) :
    Calls Try.prog 27 #[.slice a n ca] w fun e w' => e = .returned (.bool (sumWords zs == 0)) ∧ Below w.heap.size w w' := by
  go_enter Try.func27, Try.ntmps27
  go_wp2_with fail
  refine (specSumWords_ok a n ca zs _ ha hb hn hx).mono ?_
  rintro e w1 ⟨rfl, b1⟩
  go_wp2
  go_ret
  exact ⟨rfl, b1⟩

end Go.Proofs.Ythjaehcfakjemaa
