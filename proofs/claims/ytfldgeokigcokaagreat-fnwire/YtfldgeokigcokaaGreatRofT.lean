/- readOrFault: a term. -/
import Derived.Test.YtfldgeokigcokaaGreatPrA
import Derived.Test.YtfldgeokigcokaaGreatTmJ
import Derived.Test.YtfldgeokigcokaaGreatNewC
namespace Go.Proofs.YtfldgeokigcokaaGreat
open Go.RowKit

theorem catchOn_TermResult (C : Nat) (k : Int) (w : World) (hv : V w C [.int .i64 0]) :
    CallsD Tryz.prog 40 #[.pointer (some ⟨C, 0, none⟩)] (.panicking [{ v := .iface 105 (.int .i64 k), recovered := false }]) w fun e u' w' =>
      e = .returned (.tuple #[]) ∧ u' = .panicking [{ v := .iface 105 (.int .i64 k), recovered := true }] ∧ V w' C [.int .i64 k] ∧ Below C w w' := by
  refine callsD_of_wpS Tryz.func40 rfl fun c₀ cs hu => ?_
  apply wpS_seq
  apply wpS_region
  simp [wpOpsS, go_sem, recoverD, hu, Tryz.ntmps40, Exit.thenS]
  refine wpS_of_wp ?_
  change Code.wp _ _ _ { tmps := #[.pointer (some ⟨C, 0, none⟩), .iface 105 (.int .i64 k), .iface 105 (.int .i64 k), undef, undef, undef, undef], defers := [] } _
  obtain ⟨s0, f0, z0⟩ := hv.open
  go_wp2_with (go_at_call 41; refine (faultCode_ok k _).mono ?_; rintro e w2 ⟨rfl, rfl⟩)
  have hv8 := hv.set (i := 0) (by simp) (.int .i64 k)
  simp only [List.set_cons_zero] at hv8
  have HV := Hid.mk hv8
  have HB := Hid.mk ((Below.refl C w2).setCell (p := ⟨C, 0, none⟩) (Nat.le_refl _) (.int .i64 k))
  clear hv8 hv f0 z0
  simp [bodyPostS, results, Tryz.results40]
  exact ⟨HV.out, HB.out⟩

theorem catchOff_TermResult (C : Nat) (w : World) :
    CallsD Tryz.prog 40 #[.pointer (some ⟨C, 0, none⟩)] .returning w fun e u' w' => e = .returned (.tuple #[]) ∧ u' = .returning ∧ w' = w := by
  refine callsD_of_wpS Tryz.func40 rfl fun c₀ cs hu => ?_
  apply wpS_seq
  apply wpS_region
  simp [wpOpsS, go_sem, recoverD, hu, Tryz.ntmps40, Exit.thenS]
  refine wpS_of_wp ?_
  change Code.wp _ _ _ { tmps := #[.pointer (some ⟨C, 0, none⟩), .nilIface, .nilIface, undef, undef, undef, undef], defers := [] } _
  go_wp2
  cases c₀
  simp_all [bodyPostS, results, Tryz.results40]

set_option maxHeartbeats 1000000 in
theorem rofNo_TermResult (D : Nat) (k : Int) (w : World)
    (C : Hid (Calls Tryz.prog 20 #[.pointer (some ⟨D, 0, none⟩)] ((w.alloc (.cells #[.int .i64 0, .int .i64 0, .slice none 0 0] 28)).alloc (.cells #[.int .i64 0] 2)) fun e w' => e = stop k ∧ Below (w.heap.size + 2) ((w.alloc (.cells #[.int .i64 0, .int .i64 0, .slice none 0 0] 28)).alloc (.cells #[.int .i64 0] 2)) w')) :
    Calls Tryz.prog 19 #[.func (.func 20) #[] #[.pointer (some ⟨D, 0, none⟩)]] w fun e w' => e = .returned (.tuple #[.agg #[.int .i64 0, .int .i64 0, .slice none 0 0], .int .i64 k]) ∧ Below w.heap.size w w' := by
  have hmf : ∀ (fn : Fn) (first cap : Array Value) (w : World), (Instr.makeFunc fn first cap).run Tryz.prog w = .ok (.func fn first cap) w := fun _ _ _ _ => rfl
  go_enter_defers Tryz.func19, Tryz.ntmps19
  go_wp2_with fail
  refine C.out.mono ?_
  rintro e w1 ⟨rfl, b1⟩
  have VT := ((V.new w [.int .i64 0, .int .i64 0, .slice none 0 0] 28).kept (belowA _ (.cells #[.int .i64 0] 2))).keptB (base := w.heap.size + 2) (by omega) b1
  have VC : V ((w.alloc (.cells #[.int .i64 0, .int .i64 0, .slice none 0 0] 28)).alloc (.cells #[.int .i64 0] 2)) (w.heap.size + 1) [.int .i64 0] := V.newAt _ _ _ _ (by simp)
  replace VC := VC.keptB (base := w.heap.size + 2) (by omega) b1
  have B := (belowA2 w _ _).trans (b1.mono (by omega))
  clear b1
  go_wp2
  refine leaves_cons (f := 40) (args := #[.pointer (some ⟨w.heap.size + 1, 0, none⟩)]) (by simp) (by simp [go_sem]) ?_
  refine (catchOn_TermResult (w.heap.size + 1) k _ VC).mono ?_
  rintro e u' w2 ⟨rfl, rfl, V2, b2⟩
  have VT2 := VT.keptB (base := w.heap.size + 1) (by omega) b2
  obtain ⟨s0, f0, z0⟩ := V2.open
  obtain ⟨s1, f1, z1⟩ := VT2.open
  have B2 := B.trans (b2.mono (by omega))
  simp [Leaves, settle, results, Tryz.results19, go_sem, f0, f1]
  exact B2

set_option maxHeartbeats 1000000 in
theorem rofYes_TermResult (D : Nat) (kc kk : Int) (n : Nat) (l : List T4) (w : World)
    (C : Hid (Calls Tryz.prog 20 #[.pointer (some ⟨D, 0, none⟩)] ((w.alloc (.cells #[.int .i64 0, .int .i64 0, .slice none 0 0] 28)).alloc (.cells #[.int .i64 0] 2)) fun e w' => ∃ c d, e = .returned (.agg #[.int .i64 kc, .int .i64 kk, .slice c n d]) ∧ OwnTerm w' (w.heap.size + 2) c d l ∧ Below (w.heap.size + 2) ((w.alloc (.cells #[.int .i64 0, .int .i64 0, .slice none 0 0] 28)).alloc (.cells #[.int .i64 0] 2)) w')) :
    Calls Tryz.prog 19 #[.func (.func 20) #[] #[.pointer (some ⟨D, 0, none⟩)]] w fun e w' => ∃ c d, e = .returned (.tuple #[.agg #[.int .i64 kc, .int .i64 kk, .slice c n d], .int .i64 0]) ∧ OwnTerm w' w.heap.size c d l ∧ Below w.heap.size w w' := by
  have hmf : ∀ (fn : Fn) (first cap : Array Value) (w : World), (Instr.makeFunc fn first cap).run Tryz.prog w = .ok (.func fn first cap) w := fun _ _ _ _ => rfl
  go_enter_defers Tryz.func19, Tryz.ntmps19
  go_wp2_with fail
  refine C.out.mono ?_
  rintro e w1 ⟨c, d, rfl, o, b1⟩
  have VT := ((V.new w [.int .i64 0, .int .i64 0, .slice none 0 0] 28).kept (belowA _ (.cells #[.int .i64 0] 2))).keptB (base := w.heap.size + 2) (by omega) b1
  have VC : V ((w.alloc (.cells #[.int .i64 0, .int .i64 0, .slice none 0 0] 28)).alloc (.cells #[.int .i64 0] 2)) (w.heap.size + 1) [.int .i64 0] := V.newAt _ _ _ _ (by simp)
  replace VC := VC.keptB (base := w.heap.size + 2) (by omega) b1
  have B := (belowA2 w _ _).trans (b1.mono (by omega))
  have O := Hid.mk o
  obtain ⟨s0, f0, z0⟩ := VT.open
  obtain ⟨s1, f1, z1⟩ := VC.open
  clear b1 o
  go_wp2
  refine leaves_cons (f := 40) (args := #[.pointer (some ⟨w.heap.size + 1, 0, none⟩)]) (by simp) (by simp [go_sem]) ?_
  refine (catchOff_TermResult (w.heap.size + 1) _).mono ?_
  rintro e u' w2 ⟨rfl, rfl, rfl⟩
  simp [Leaves, settle, results, Tryz.results19, go_sem, f0, f1]
  refine ⟨c, d, ⟨rfl, rfl⟩, ?_, ?_⟩
  · refine OwnTerm.mono (base := w.heap.size + 2) ?_ (by omega)
    repeat' first | with_reducible exact O.out | with_reducible refine OwnTerm.below ?_ ?_ _ | (simp; try omega)
  · repeat' first | with_reducible exact B | with_reducible refine Below.setCell ?_ ?_ _ | (simp; try omega)

end Go.Proofs.YtfldgeokigcokaaGreat
