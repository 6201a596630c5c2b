/- A chance that is drawn. -/
import Derived.Test.YthjaehcfakjemaaDrawS
namespace Go.Proofs.Ythjaehcfakjemaa
open Go.RowKit

theorem l1Chance_ok (B : Nat) (a : Option Addr) (n ca : Nat) (zs : List Int) (t : Nat) (m : Int) (w : World) (hs : Src w B a n ca zs t) (hb : Bytes zs) (hn : zs.length = n) (hx : n ≤ 1048577) (ht : t ≤ 1000000) (hm : m ≤ 9223372036854775807) :
    Calls Try.prog 41 #[.pointer (some ⟨B, 0, none⟩), .int .i64 m] w fun e w' => ∃ v : Bool, e = .returned (.bool v) ∧ Src w' B a n ca zs (t + 1) ∧ w.grownBy w' (some B) := by
  go_enter Try.func41, Try.ntmps41
  go_wp2_with fail
  refine (l1Next_ok B a n ca zs t m _ hs hb hn hx ht hm).mono ?_
  rintro e w1 ⟨v, rfl, _, _, S1, g1⟩
  go_wp2
  go_ret
  exact ⟨_, rfl, S1, g1⟩

end Go.Proofs.Ythjaehcfakjemaa
