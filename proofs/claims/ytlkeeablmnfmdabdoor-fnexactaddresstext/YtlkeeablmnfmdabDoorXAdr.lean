/- The law on 'AddressText': its walk. -/
import Derived.Test.YtlkeeablmnfmdabDoorAdr2
namespace Go.Proofs.YtlkeeablmnfmdabDoor
open Go.RowKit

set_option maxHeartbeats 1000000 in
theorem xAdr_walk (a : Int) (w : World) (htab : Lib.TabIs Tryd.prog w (Rows.fnExactAddressTextRow.laid.getD 2 ("", .nil)).1 .u64 Lib.pow10Tab) :
    Calls Tryd.prog 3 #[.int .i64 a] w fun e w' => e = .returned (.bool true) ∧ Below w.heap.size w w' := by
  have hT := Hid.mk (Lib.tabBelow_of_tabIs htab)
  clear htab
  have CS := Hid.mk (fun w => specAddressText_ok a w)
  have CI := Hid.mk (fun w h => implAddressText_ok a w h)
  generalize adC a = k at *
  generalize adV a = S at *
  go_enter Tryd.func3, Tryd.ntmps3
  go_wp2_with fail
  refine (CS.out _).mono ?_
  rintro e w2 ⟨rfl, b2⟩
  have A0 := At.new2 w2 (.int .i64 k) (.string S) 23
  go_wp2_with fail
  refine (CI.out _ (hT.out _ (thenB b2 (belowA _ _)))).mono ?_
  rintro e w4 ⟨rfl, b4⟩
  have A0 := A0.kept b4
  obtain ⟨f1, f2, f3⟩ := A0.two
  go_wp2_with (go_at_call 6; go_in)
  go_ret
  exact ⟨rfl, thenB (thenB (thenB b2 (belowA _ _)) b4) (belowA3 _ _ _ _)⟩

end Go.Proofs.YtlkeeablmnfmdabDoor
