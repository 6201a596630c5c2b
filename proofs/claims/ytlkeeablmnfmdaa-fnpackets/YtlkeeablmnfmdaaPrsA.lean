/- Reading that stops with a code: 'require', 'readNumber', 'faultCode', and the deferred closure that recovers. -/
import Derived.Test.YtlkeeablmnfmdaaTake
import Derived.Test.YtlkeeablmnfmdaaVar
import Derived.Recover
import Derived.WalkLawsBesides
namespace Go.Proofs.Ytlkeeablmnfmdaa
open Go.RowKit

/-- What a panic bears: a code. -/
abbrev stop (k : Int) : Ending := .panicked [{ v := .iface 75 (.int .i64 k), recovered := false }]

theorem require_ok (k : Int) (w : World) : Calls Try.prog 75 #[.bool true, .int .i64 k] w fun e w' => e = .returned (.tuple #[]) ∧ w' = w := by
  go_enter Try.func75, Try.ntmps75
  go_wp2
  go_end0
  exact ⟨rfl, rfl⟩

theorem require_no (k : Int) (w : World) : Calls Try.prog 75 #[.bool false, .int .i64 k] w fun e w' => e = stop k ∧ w' = w := by
  go_enter Try.func75, Try.ntmps75
  go_wp2
  exact ⟨rfl, rfl, rfl⟩

theorem faultCode_ok (k : Int) (w : World) : Calls Try.prog 64 #[.iface 75 (.int .i64 k)] w fun e w' => e = .returned (.int .i64 k) ∧ w' = w := by
  have hta : ∀ wx : World, (Instr.typeAssert (.iface 75 (.int .i64 k)) 20 75 true).run Try.prog wx = .ok (.tuple #[.int .i64 k, .bool true]) wx := fun _ => by kernel_rfl
  go_enter Try.func64, Try.ntmps64
  go_wp2
  go_ret
  exact ⟨rfl, rfl⟩


set_option maxHeartbeats 400000 in
theorem readNumber_ok (a : Option Addr) (n ca p m : Nat) (zs : List Int) (w : World) (ha : Rd .u8 w a zs) (hb : Bytes zs) (hn : zs.length = n) (hx : n ≤ 1048576) (hca : n ≤ ca) (h1 : 1 ≤ m) (h7 : m ≤ 7) (hp : p + m ≤ n) :
    Calls Try.prog 77 #[.slice a n ca, .int .i64 (p : Int), .int .i64 (m : Int)] w fun e w' => e = .returned (.int .i64 (takeN zs p m)) ∧ Below w.heap.size w w' := by
  have e1 := Hid.mk (show tkCode zs p m = 0 from if_pos ⟨by omega, by omega, by omega, by omega⟩)
  have e2 := Hid.mk (show tkVal zs p m = takeN zs p m from if_pos ⟨by omega, by omega, by omega, by omega⟩)
  go_enter Try.func77, Try.ntmps77
  go_wp2_with fail
  refine (implTakeNumber_ok a n ca p m zs _ ha hb hn (by unfold maxLen; omega) hca).mono ?_
  rintro e w1 ⟨rfl, b1⟩
  rw [e1.out, e2.out]
  go_wp2_with (go_at_call 75; refine (require_ok 5 _).mono ?_; rintro e w2 ⟨rfl, rfl⟩)
  go_ret
  exact ⟨rfl, thenB b1 (belowA _ _)⟩

set_option maxHeartbeats 400000 in
theorem readNumber_no (a : Option Addr) (n ca p m : Nat) (zs : List Int) (w : World) (ha : Rd .u8 w a zs) (hb : Bytes zs) (hn : zs.length = n) (hx : n ≤ 1048576) (hca : n ≤ ca) (hp : n < p + m) :
    Calls Try.prog 77 #[.slice a n ca, .int .i64 (p : Int), .int .i64 (m : Int)] w fun e w' => e = stop 5 ∧ Below w.heap.size w w' := by
  have e1 := Hid.mk (show tkCode zs p m = 3 from if_neg (fun h => by have := h.2.2.2; omega))
  have e2 := Hid.mk (show tkVal zs p m = 0 from if_neg (fun h => by have := h.2.2.2; omega))
  go_enter Try.func77, Try.ntmps77
  go_wp2_with fail
  refine (implTakeNumber_ok a n ca p m zs _ ha hb hn (by unfold maxLen; omega) hca).mono ?_
  rintro e w1 ⟨rfl, b1⟩
  rw [e1.out, e2.out]
  go_wp2_with (go_at_call 75; refine (require_no 5 _).mono ?_; rintro e w2 ⟨rfl, rfl⟩)
  exact ⟨rfl, rfl, thenB b1 (belowA _ _)⟩

abbrev zero8 : List Value := [.int .i64 0, .int .i64 0, .int .i64 0, .int .i64 0, .int .i64 0, .int .i64 0, .int .i64 0, .slice none 0 0]

/-- The deferred closure behind a panic that bears a code: the panic is recovered, the result is laid. -/
theorem catch_panicking (R : Nat) (k : Int) (w : World) (hv : V w R zero8) :
    CallsD Try.prog 63 #[.pointer (some ⟨R, 0, none⟩)] (.panicking [{ v := .iface 75 (.int .i64 k), recovered := false }]) w fun e u' w' =>
      e = .returned (.tuple #[]) ∧ u' = .panicking [{ v := .iface 75 (.int .i64 k), recovered := true }] ∧ V w' R [.int .i64 k, .int .i64 0, .int .i64 0, .int .i64 0, .int .i64 0, .int .i64 0, .int .i64 0, .slice none 0 0] ∧ Below R w w' := by
  refine callsD_of_wpS Try.func63 rfl fun c₀ cs hu => ?_
  apply wpS_seq
  apply wpS_region
  simp [wpOpsS, go_sem, recoverD, hu, Try.ntmps63, Exit.thenS]
  refine wpS_of_wp ?_
  change Code.wp _ _ _ { tmps := #[.pointer (some ⟨R, 0, none⟩), .iface 75 (.int .i64 k), .iface 75 (.int .i64 k), undef, undef, undef, undef, undef], defers := [] } _
  obtain ⟨s0, f0, z0⟩ := hv.open
  go_wp2_with (go_at_call 64; refine (faultCode_ok k _).mono ?_; rintro e w2 ⟨rfl, rfl⟩)
  have hv8 := (((((((hv.set (i := 0) (by simp) (.int .i64 k)).set (i := 1) (by simp) (.int .i64 0)).set (i := 2) (by simp) (.int .i64 0)).set (i := 3) (by simp) (.int .i64 0)).set (i := 4) (by simp) (.int .i64 0)).set (i := 5) (by simp) (.int .i64 0)).set (i := 6) (by simp) (.int .i64 0)).set (i := 7) (by simp) (.slice none 0 0)
  simp only [zero8, List.set_cons_zero, List.set_cons_succ] at hv8
  have HV := Hid.mk hv8
  have HB : Hid (Below R w2 _) := ((((((((Below.refl R w2).setCell (p := ⟨R, 0, none⟩) (Nat.le_refl _) (.int .i64 k)).setCell (p := ⟨R, 1, none⟩) (Nat.le_refl _) (.int .i64 0)).setCell (p := ⟨R, 2, none⟩) (Nat.le_refl _) (.int .i64 0)).setCell (p := ⟨R, 3, none⟩) (Nat.le_refl _) (.int .i64 0)).setCell (p := ⟨R, 4, none⟩) (Nat.le_refl _) (.int .i64 0)).setCell (p := ⟨R, 5, none⟩) (Nat.le_refl _) (.int .i64 0)).setCell (p := ⟨R, 6, none⟩) (Nat.le_refl _) (.int .i64 0)).setCell (p := ⟨R, 7, none⟩) (Nat.le_refl _) (.slice none 0 0)
  clear hv8 hv f0 z0
  simp [bodyPostS, results, Try.results63]

  exact ⟨HV.out, HB.out⟩

theorem catch_idle (R : Nat) (w : World) :
    CallsD Try.prog 63 #[.pointer (some ⟨R, 0, none⟩)] .returning w fun e u' w' => e = .returned (.tuple #[]) ∧ u' = .returning ∧ w' = w := by
  refine callsD_of_wpS Try.func63 rfl fun c₀ cs hu => ?_
  apply wpS_seq
  apply wpS_region
  simp [wpOpsS, go_sem, recoverD, hu, Try.ntmps63, Exit.thenS]
  refine wpS_of_wp ?_
  change Code.wp _ _ _ { tmps := #[.pointer (some ⟨R, 0, none⟩), .nilIface, .nilIface, undef, undef, undef, undef, undef], defers := [] } _
  go_wp2

  cases c₀
  simp_all [bodyPostS, results, Try.results63]

end Go.Proofs.Ytlkeeablmnfmdaa
