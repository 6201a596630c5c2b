/- Put together: PrA, RofF. -/
import Derived.Test.YtfldgeokigcokaaTake
import Derived.Test.YtfldgeokigcokaaVar
import Derived.Recover
import Derived.WalkLawsBesides
import Derived.Test.YtfldgeokigcokaaNewC

/- Reading that stops with a code: 'require', 'readNumber', 'faultCode'. -/
namespace Go.Proofs.Ytfldgeokigcokaa
open Go.RowKit

/-- What a panic bears: a code. -/
abbrev stop (k : Int) : Ending := .panicked [{ v := .iface 126 (.int .i64 k), recovered := false }]

theorem require_ok (k : Int) (w : World) : Calls Try.prog 76 #[.bool true, .int .i64 k] w fun e w' => e = .returned (.tuple #[]) ∧ w' = w := by
  go_enter Try.func76, Try.ntmps76
  go_wp2
  go_end0
  exact ⟨rfl, rfl⟩

theorem require_no (k : Int) (w : World) : Calls Try.prog 76 #[.bool false, .int .i64 k] w fun e w' => e = stop k ∧ w' = w := by
  go_enter Try.func76, Try.ntmps76
  go_wp2
  exact ⟨rfl, rfl, rfl⟩

theorem faultCode_ok (k : Int) (w : World) : Calls Try.prog 74 #[.iface 126 (.int .i64 k)] w fun e w' => e = .returned (.int .i64 k) ∧ w' = w := by
  have hta : ∀ wx : World, (Instr.typeAssert (.iface 126 (.int .i64 k)) 20 126 true).run Try.prog wx = .ok (.tuple #[.int .i64 k, .bool true]) wx := fun _ => by kernel_rfl
  go_enter Try.func74, Try.ntmps74
  go_wp2
  go_ret
  exact ⟨rfl, rfl⟩


set_option maxHeartbeats 400000 in
theorem readNumber_ok (a : Option Addr) (n ca p m : Nat) (zs : List Int) (w : World) (ha : Rd .u8 w a zs) (hb : Bytes zs) (hn : zs.length = n) (hx : n ≤ 1048576) (hca : n ≤ ca) (h1 : 1 ≤ m) (h7 : m ≤ 7) (hp : p + m ≤ n) :
    Calls Try.prog 99 #[.slice a n ca, .int .i64 (p : Int), .int .i64 (m : Int)] w fun e w' => e = .returned (.int .i64 (takeN zs p m)) ∧ Below w.heap.size w w' := by
  have e1 := Hid.mk (show tkCode zs p m = 0 from if_pos ⟨by omega, by omega, by omega, by omega⟩)
  have e2 := Hid.mk (show tkVal zs p m = takeN zs p m from if_pos ⟨by omega, by omega, by omega, by omega⟩)
  go_enter Try.func99, Try.ntmps99
  go_wp2_with fail
  refine (implTakeNumber_ok a n ca p m zs _ ha hb hn (by unfold maxLen; omega) hca).mono ?_
  rintro e w1 ⟨rfl, b1⟩
  rw [e1.out, e2.out]
  go_wp2_with (go_at_call 76; refine (require_ok 5 _).mono ?_; rintro e w2 ⟨rfl, rfl⟩)
  go_ret
  exact ⟨rfl, thenB b1 (belowA _ _)⟩

set_option maxHeartbeats 400000 in
theorem readNumber_no (a : Option Addr) (n ca p m : Nat) (zs : List Int) (w : World) (ha : Rd .u8 w a zs) (hb : Bytes zs) (hn : zs.length = n) (hx : n ≤ 1048576) (hca : n ≤ ca) (hp : n < p + m) :
    Calls Try.prog 99 #[.slice a n ca, .int .i64 (p : Int), .int .i64 (m : Int)] w fun e w' => e = stop 5 ∧ Below w.heap.size w w' := by
  have e1 := Hid.mk (show tkCode zs p m = 3 from if_neg (fun h => by have := h.2.2.2; omega))
  have e2 := Hid.mk (show tkVal zs p m = 0 from if_neg (fun h => by have := h.2.2.2; omega))
  go_enter Try.func99, Try.ntmps99
  go_wp2_with fail
  refine (implTakeNumber_ok a n ca p m zs _ ha hb hn (by unfold maxLen; omega) hca).mono ?_
  rintro e w1 ⟨rfl, b1⟩
  rw [e1.out, e2.out]
  go_wp2_with (go_at_call 76; refine (require_no 5 _).mono ?_; rintro e w2 ⟨rfl, rfl⟩)
  exact ⟨rfl, rfl, thenB b1 (belowA _ _)⟩

end Go.Proofs.Ytfldgeokigcokaa

/- readOrFault: a frame. -/
namespace Go.Proofs.Ytfldgeokigcokaa
open Go.RowKit

theorem catchOn_FrameResult (C : Nat) (k : Int) (w : World) (hv : V w C [.int .i64 0]) :
    CallsD Try.prog 73 #[.pointer (some ⟨C, 0, none⟩)] (.panicking [{ v := .iface 126 (.int .i64 k), recovered := false }]) w fun e u' w' =>
      e = .returned (.tuple #[]) ∧ u' = .panicking [{ v := .iface 126 (.int .i64 k), recovered := true }] ∧ V w' C [.int .i64 k] ∧ Below C w w' := by
  refine callsD_of_wpS Try.func73 rfl fun c₀ cs hu => ?_
  apply wpS_seq
  apply wpS_region
  simp [wpOpsS, go_sem, recoverD, hu, Try.ntmps73, Exit.thenS]
  refine wpS_of_wp ?_
  change Code.wp _ _ _ { tmps := #[.pointer (some ⟨C, 0, none⟩), .iface 126 (.int .i64 k), .iface 126 (.int .i64 k), undef, undef, undef, undef], defers := [] } _
  obtain ⟨s0, f0, z0⟩ := hv.open
  go_wp2_with (go_at_call 74; refine (faultCode_ok k _).mono ?_; rintro e w2 ⟨rfl, rfl⟩)
  have hv8 := hv.set (i := 0) (by simp) (.int .i64 k)
  simp only [List.set_cons_zero] at hv8
  have HV := Hid.mk hv8
  have HB := Hid.mk ((Below.refl C w2).setCell (p := ⟨C, 0, none⟩) (Nat.le_refl _) (.int .i64 k))
  clear hv8 hv f0 z0
  simp [bodyPostS, results, Try.results73]
  exact ⟨HV.out, HB.out⟩

theorem catchOff_FrameResult (C : Nat) (w : World) :
    CallsD Try.prog 73 #[.pointer (some ⟨C, 0, none⟩)] .returning w fun e u' w' => e = .returned (.tuple #[]) ∧ u' = .returning ∧ w' = w := by
  refine callsD_of_wpS Try.func73 rfl fun c₀ cs hu => ?_
  apply wpS_seq
  apply wpS_region
  simp [wpOpsS, go_sem, recoverD, hu, Try.ntmps73, Exit.thenS]
  refine wpS_of_wp ?_
  change Code.wp _ _ _ { tmps := #[.pointer (some ⟨C, 0, none⟩), .nilIface, .nilIface, undef, undef, undef, undef], defers := [] } _
  go_wp2
  cases c₀
  simp_all [bodyPostS, results, Try.results73]

set_option maxHeartbeats 1000000 in
theorem rofNo_FrameResult (D : Nat) (k : Int) (w : World)
    (C : Hid (Calls Try.prog 45 #[.pointer (some ⟨D, 0, none⟩)] ((w.alloc (.cells #[.int .i64 0, .int .i64 0, .int .i64 0, .int .i64 0, .int .i64 0, .slice none 0 0] 26)).alloc (.cells #[.int .i64 0] 2)) fun e w' => e = stop k ∧ Below (w.heap.size + 2) ((w.alloc (.cells #[.int .i64 0, .int .i64 0, .int .i64 0, .int .i64 0, .int .i64 0, .slice none 0 0] 26)).alloc (.cells #[.int .i64 0] 2)) w')) :
    Calls Try.prog 44 #[.func (.func 45) #[] #[.pointer (some ⟨D, 0, none⟩)]] w fun e w' => e = .returned (.tuple #[.agg #[.int .i64 0, .int .i64 0, .int .i64 0, .int .i64 0, .int .i64 0, .slice none 0 0], .int .i64 k]) ∧ Below w.heap.size w w' := by
  have hmf : ∀ (fn : Fn) (first cap : Array Value) (w : World), (Instr.makeFunc fn first cap).run Try.prog w = .ok (.func fn first cap) w := fun _ _ _ _ => rfl
  go_enter_defers Try.func44, Try.ntmps44
  go_wp2_with fail
  refine C.out.mono ?_
  rintro e w1 ⟨rfl, b1⟩
  have VT := ((V.new w [.int .i64 0, .int .i64 0, .int .i64 0, .int .i64 0, .int .i64 0, .slice none 0 0] 26).kept (belowA _ (.cells #[.int .i64 0] 2))).keptB (base := w.heap.size + 2) (by omega) b1
  have VC : V ((w.alloc (.cells #[.int .i64 0, .int .i64 0, .int .i64 0, .int .i64 0, .int .i64 0, .slice none 0 0] 26)).alloc (.cells #[.int .i64 0] 2)) (w.heap.size + 1) [.int .i64 0] := V.newAt _ _ _ _ (by simp)
  replace VC := VC.keptB (base := w.heap.size + 2) (by omega) b1
  have B := (belowA2 w _ _).trans (b1.mono (by omega))
  clear b1
  go_wp2
  refine leaves_cons (f := 73) (args := #[.pointer (some ⟨w.heap.size + 1, 0, none⟩)]) (by simp) (by simp [go_sem]) ?_
  refine (catchOn_FrameResult (w.heap.size + 1) k _ VC).mono ?_
  rintro e u' w2 ⟨rfl, rfl, V2, b2⟩
  have VT2 := VT.keptB (base := w.heap.size + 1) (by omega) b2
  obtain ⟨s0, f0, z0⟩ := V2.open
  obtain ⟨s1, f1, z1⟩ := VT2.open
  have B2 := B.trans (b2.mono (by omega))
  simp [Leaves, settle, results, Try.results44, go_sem, f0, f1]
  exact B2

set_option maxHeartbeats 1000000 in
theorem rofYes_FrameResult (D : Nat) (k0 k1 k2 k3 k4 : Int) (n : Nat) (l : List Int) (w : World)
    (C : Hid (Calls Try.prog 45 #[.pointer (some ⟨D, 0, none⟩)] ((w.alloc (.cells #[.int .i64 0, .int .i64 0, .int .i64 0, .int .i64 0, .int .i64 0, .slice none 0 0] 26)).alloc (.cells #[.int .i64 0] 2)) fun e w' => ∃ c d, e = .returned (.agg #[.int .i64 k0, .int .i64 k1, .int .i64 k2, .int .i64 k3, .int .i64 k4, .slice c n d]) ∧ Own .u8 5 w' (w.heap.size + 2) c d l ∧ Below (w.heap.size + 2) ((w.alloc (.cells #[.int .i64 0, .int .i64 0, .int .i64 0, .int .i64 0, .int .i64 0, .slice none 0 0] 26)).alloc (.cells #[.int .i64 0] 2)) w')) :
    Calls Try.prog 44 #[.func (.func 45) #[] #[.pointer (some ⟨D, 0, none⟩)]] w fun e w' => ∃ c d, e = .returned (.tuple #[.agg #[.int .i64 k0, .int .i64 k1, .int .i64 k2, .int .i64 k3, .int .i64 k4, .slice c n d], .int .i64 0]) ∧ Own .u8 5 w' w.heap.size c d l ∧ Below w.heap.size w w' := by
  have hmf : ∀ (fn : Fn) (first cap : Array Value) (w : World), (Instr.makeFunc fn first cap).run Try.prog w = .ok (.func fn first cap) w := fun _ _ _ _ => rfl
  go_enter_defers Try.func44, Try.ntmps44
  go_wp2_with fail
  refine C.out.mono ?_
  rintro e w1 ⟨c, d, rfl, o, b1⟩
  have VT := ((V.new w [.int .i64 0, .int .i64 0, .int .i64 0, .int .i64 0, .int .i64 0, .slice none 0 0] 26).kept (belowA _ (.cells #[.int .i64 0] 2))).keptB (base := w.heap.size + 2) (by omega) b1
  have VC : V ((w.alloc (.cells #[.int .i64 0, .int .i64 0, .int .i64 0, .int .i64 0, .int .i64 0, .slice none 0 0] 26)).alloc (.cells #[.int .i64 0] 2)) (w.heap.size + 1) [.int .i64 0] := V.newAt _ _ _ _ (by simp)
  replace VC := VC.keptB (base := w.heap.size + 2) (by omega) b1
  have B := (belowA2 w _ _).trans (b1.mono (by omega))
  have O := Hid.mk o
  obtain ⟨s0, f0, z0⟩ := VT.open
  obtain ⟨s1, f1, z1⟩ := VC.open
  clear b1 o
  go_wp2
  refine leaves_cons (f := 73) (args := #[.pointer (some ⟨w.heap.size + 1, 0, none⟩)]) (by simp) (by simp [go_sem]) ?_
  refine (catchOff_FrameResult (w.heap.size + 1) _).mono ?_
  rintro e u' w2 ⟨rfl, rfl, rfl⟩
  simp [Leaves, settle, results, Try.results44, go_sem, f0, f1]
  refine ⟨c, d, ⟨rfl, rfl⟩, ?_, ?_⟩
  · refine Own.mono (base := w.heap.size + 2) ?_ (by omega)
    repeat' first | with_reducible exact O.out | with_reducible refine Own.below ?_ ?_ _ | (simp; try omega)
  · repeat' first | with_reducible exact B | with_reducible refine Below.setCell ?_ ?_ _ | (simp; try omega)

end Go.Proofs.Ytfldgeokigcokaa
