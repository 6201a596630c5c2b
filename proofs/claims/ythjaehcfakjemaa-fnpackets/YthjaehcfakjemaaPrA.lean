/- Reading that stops with a code: 'require', 'readNumber', 'faultCode'. -/
import Derived.Test.YthjaehcfakjemaaTake
import Derived.Test.YthjaehcfakjemaaVar
import Derived.Recover
import Derived.WalkLawsBesides
namespace Go.Proofs.Ythjaehcfakjemaa
open Go.RowKit

/-- What a panic bears: a code. -/
abbrev stop (k : Int) : Ending := .panicked [{ v := .iface 69 (.int .i64 k), recovered := false }]

theorem require_ok (k : Int) (w : World) : Calls Try.prog 46 #[.bool true, .int .i64 k] w fun e w' => e = .returned (.tuple #[]) ∧ w' = w := by
  go_enter Try.func46, Try.ntmps46
  go_wp2
  go_end0
  exact ⟨rfl, rfl⟩

theorem require_no (k : Int) (w : World) : Calls Try.prog 46 #[.bool false, .int .i64 k] w fun e w' => e = stop k ∧ w' = w := by
  go_enter Try.func46, Try.ntmps46
  go_wp2
  exact ⟨rfl, rfl, rfl⟩

theorem faultCode_ok (k : Int) (w : World) : Calls Try.prog 45 #[.iface 69 (.int .i64 k)] w fun e w' => e = .returned (.int .i64 k) ∧ w' = w := by
  have hta : ∀ wx : World, (Instr.typeAssert (.iface 69 (.int .i64 k)) 20 69 true).run Try.prog wx = .ok (.tuple #[.int .i64 k, .bool true]) wx := fun _ => by kernel_rfl
  go_enter Try.func45, Try.ntmps45
  go_wp2
  go_ret
  exact ⟨rfl, rfl⟩


set_option maxHeartbeats 400000 in
theorem readNumber_ok (a : Option Addr) (n ca p m : Nat) (zs : List Int) (w : World) (ha : Rd .u8 w a zs) (hb : Bytes zs) (hn : zs.length = n) (hx : n ≤ 1048576) (hca : n ≤ ca) (h1 : 1 ≤ m) (h7 : m ≤ 7) (hp : p + m ≤ n) :
    Calls Try.prog 48 #[.slice a n ca, .int .i64 (p : Int), .int .i64 (m : Int)] w fun e w' => e = .returned (.int .i64 (takeN zs p m)) ∧ Below w.heap.size w w' := by
  have e1 := Hid.mk (show tkCode zs p m = 0 from if_pos ⟨by omega, by omega, by omega, by omega⟩)
  have e2 := Hid.mk (show tkVal zs p m = takeN zs p m from if_pos ⟨by omega, by omega, by omega, by omega⟩)
  go_enter Try.func48, Try.ntmps48
  go_wp2_with fail
  refine (implTakeNumber_ok a n ca p m zs _ ha hb hn (by unfold maxLen; omega) hca).mono ?_
  rintro e w1 ⟨rfl, b1⟩
  rw [e1.out, e2.out]
  go_wp2_with (go_at_call 46; refine (require_ok 5 _).mono ?_; rintro e w2 ⟨rfl, rfl⟩)
  go_ret
  exact ⟨rfl, thenB b1 (belowA _ _)⟩

set_option maxHeartbeats 400000 in
theorem readNumber_no (a : Option Addr) (n ca p m : Nat) (zs : List Int) (w : World) (ha : Rd .u8 w a zs) (hb : Bytes zs) (hn : zs.length = n) (hx : n ≤ 1048576) (hca : n ≤ ca) (hp : n < p + m) :
    Calls Try.prog 48 #[.slice a n ca, .int .i64 (p : Int), .int .i64 (m : Int)] w fun e w' => e = stop 5 ∧ Below w.heap.size w w' := by
  have e1 := Hid.mk (show tkCode zs p m = 3 from if_neg (fun h => by have := h.2.2.2; omega))
  have e2 := Hid.mk (show tkVal zs p m = 0 from if_neg (fun h => by have := h.2.2.2; omega))
  go_enter Try.func48, Try.ntmps48
  go_wp2_with fail
  refine (implTakeNumber_ok a n ca p m zs _ ha hb hn (by unfold maxLen; omega) hca).mono ?_
  rintro e w1 ⟨rfl, b1⟩
  rw [e1.out, e2.out]
  go_wp2_with (go_at_call 46; refine (require_no 5 _).mono ?_; rintro e w2 ⟨rfl, rfl⟩)
  exact ⟨rfl, rfl, thenB b1 (belowA _ _)⟩

end Go.Proofs.Ythjaehcfakjemaa
