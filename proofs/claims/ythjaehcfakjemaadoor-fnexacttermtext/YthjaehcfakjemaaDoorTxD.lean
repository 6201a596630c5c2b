/- The places told. -/
import Derived.Test.YthjaehcfakjemaaDoorPlT
import Derived.Test.YthjaehcfakjemaaDoorTxC
import Derived.Test.YthjaehcfakjemaaDoorTmE
import Derived.Test.YthjaehcfakjemaaDoorShelf
namespace Go.Proofs.YthjaehcfakjemaaDoor
open Go.RowKit

theorem decimal_ok (n : Int) (h0 : 0 ≤ n) (h1 : n ≤ 65535) (w : World) (htab : Lib.TabIs Tryd.prog w (Rows.fnExactTermTextRow.laid.getD 2 ("", .nil)).1 .u64 Lib.pow10Tab) :
    Calls Tryd.prog 58 #[.int .i64 n] w fun e w' => e = .returned (.string (dcB n)) ∧ Below w.heap.size w w' := by
  have CF := Hid.mk (formatInt_any n (by omega) (by omega) w htab)
  have e1 : Lib.itoa n = Lib.decDigits n.toNat := by unfold Lib.itoa; rw [if_neg (by omega)]
  rw [e1] at CF
  have e2 : (⟨(Lib.decDigits n.toNat).toArray⟩ : ByteArray) = dcB n := by unfold dcB; rfl
  rw [e2] at CF
  clear e1 e2 htab
  generalize dcB n = D at *
  go_enter Tryd.func58, Tryd.ntmps58
  go_wp2_with fail
  refine CF.out.mono ?_
  rintro e w1 ⟨rfl, b1⟩
  go_wp2
  go_ret
  exact ⟨rfl, b1⟩

end Go.Proofs.YthjaehcfakjemaaDoor
