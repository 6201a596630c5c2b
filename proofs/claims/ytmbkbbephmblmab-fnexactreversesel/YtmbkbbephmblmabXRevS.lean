/- 'ReverseSel': the model, and the law's walk. -/
import Derived.Test.YtmbkbbephmblmabRevI
import Derived.Test.YtmbkbbephmblmabSelG
import Derived.Test.YtmbkbbephmblmabSelH
namespace Go.Proofs.Ytmbkbbephmblmab
open Go.RowKit


set_option maxHeartbeats 2000000 in
theorem l3Reverse_ok (x : S9) (w : World) :
    Calls Try.prog 50 #[.agg #[.int .i64 x.a, .int .i64 x.b, .int .i64 x.c, .int .i64 x.d, .int .i64 x.e, .int .i64 x.f, .int .i64 x.g, .int .i64 x.h, .int .i64 x.r]] w fun e w' => e = .returned (.agg #[.int .i64 x.c, .int .i64 x.d, .int .i64 x.a, .int .i64 x.b, .int .i64 x.g, .int .i64 x.h, .int .i64 x.e, .int .i64 x.f, .int .i64 x.r]) ∧ Below w.heap.size w w' := by
  have qs := build_sel ⟨x.c, x.d, x.a, x.b, x.g, x.h, x.e, x.f, x.r⟩
  dsimp only at qs
  go_enter Try.func50, Try.ntmps50
  have B := Below.refl w.heap.size w
  go_wp2
  have Bo := B
  refine bodyPost_ret (v := .agg #[.int .i64 x.c, .int .i64 x.d, .int .i64 x.a, .int .i64 x.b, .int .i64 x.g, .int .i64 x.h, .int .i64 x.e, .int .i64 x.f, .int .i64 x.r]) (by first | (simp [results, Try.results50, go_sem]; done) | simp [results, Try.results50, go_sem, qs]) rfl ⟨rfl, ?_⟩
  repeat' first | with_reducible exact Bo | with_reducible exact Below.refl _ _ | with_reducible refine Below.setCell ?_ ?_ _ | with_reducible refine Below.alloc ?_ ?_ _ | with_reducible refine Below.drew ?_ | (simp; done) | (simp; omega)

set_option maxHeartbeats 2000000 in
theorem specRev0 (x : S9) (w : World) (h1 : (sfC x != 0) = true) :
    Calls Try.prog 28 #[.agg #[.int .i64 x.a, .int .i64 x.b, .int .i64 x.c, .int .i64 x.d, .int .i64 x.e, .int .i64 x.f, .int .i64 x.g, .int .i64 x.h, .int .i64 x.r]] w fun e w' => e = .returned (.agg #[.int .i64 (sfC x), .int .i64 0, .int .i64 0, .int .i64 0, .int .i64 0, .int .i64 0, .int .i64 0, .int .i64 0, .int .i64 0, .int .i64 0]) ∧ Below w.heap.size w w' := by
  have qa := build_resA
  have CX := Hid.mk (fun w => specSelFault_ok x w)
  go_enter Try.func28, Try.ntmps28
  have B := Below.refl w.heap.size w
  replace B := thenB B (belowA w (.cells #[.int .i64 x.a, .int .i64 x.b, .int .i64 x.c, .int .i64 x.d, .int .i64 x.e, .int .i64 x.f, .int .i64 x.g, .int .i64 x.h, .int .i64 x.r] 29))
  have VX := V.new w [.int .i64 x.a, .int .i64 x.b, .int .i64 x.c, .int .i64 x.d, .int .i64 x.e, .int .i64 x.f, .int .i64 x.g, .int .i64 x.h, .int .i64 x.r] 29
  replace VX := VX.kept (belowA (w.alloc (.cells #[.int .i64 x.a, .int .i64 x.b, .int .i64 x.c, .int .i64 x.d, .int .i64 x.e, .int .i64 x.f, .int .i64 x.g, .int .i64 x.h, .int .i64 x.r] 29)) (.cells #[.int .i64 0, .int .i64 0, .int .i64 0, .int .i64 0, .int .i64 0, .int .i64 0, .int .i64 0, .int .i64 0, .int .i64 0, .int .i64 0] 56))
  replace B := thenB B (belowA (w.alloc (.cells #[.int .i64 x.a, .int .i64 x.b, .int .i64 x.c, .int .i64 x.d, .int .i64 x.e, .int .i64 x.f, .int .i64 x.g, .int .i64 x.h, .int .i64 x.r] 29)) (.cells #[.int .i64 0, .int .i64 0, .int .i64 0, .int .i64 0, .int .i64 0, .int .i64 0, .int .i64 0, .int .i64 0, .int .i64 0, .int .i64 0] 56))
  have VR : V ((w.alloc (.cells #[.int .i64 x.a, .int .i64 x.b, .int .i64 x.c, .int .i64 x.d, .int .i64 x.e, .int .i64 x.f, .int .i64 x.g, .int .i64 x.h, .int .i64 x.r] 29)).alloc (.cells #[.int .i64 0, .int .i64 0, .int .i64 0, .int .i64 0, .int .i64 0, .int .i64 0, .int .i64 0, .int .i64 0, .int .i64 0, .int .i64 0] 56)) (w.heap.size + 1) [.int .i64 0, .int .i64 0, .int .i64 0, .int .i64 0, .int .i64 0, .int .i64 0, .int .i64 0, .int .i64 0, .int .i64 0, .int .i64 0] := V.newAt _ _ _ _ (by simp)
  obtain ⟨s_VX, f_VX, z_VX⟩ := VX.open
  obtain ⟨s_VR, f_VR, z_VR⟩ := VR.open
  go_wp2_with fail
  refine (CX.out _).mono ?_
  rintro e w1 ⟨rfl, b1⟩
  clear s_VX f_VX z_VX s_VR f_VR z_VR
  have S1 := b1.size
  simp only [World.size_alloc] at S1
  replace VX := VX.kept b1
  replace VR := VR.kept b1
  replace B := thenB B b1
  clear b1
  obtain ⟨s_VX, f_VX, z_VX⟩ := VX.open
  obtain ⟨s_VR, f_VR, z_VR⟩ := VR.open
  have Bo := B
  go_wp2
  refine bodyPost_ret (v := .agg #[.int .i64 (sfC x), .int .i64 0, .int .i64 0, .int .i64 0, .int .i64 0, .int .i64 0, .int .i64 0, .int .i64 0, .int .i64 0, .int .i64 0]) (by first | (simp [results, Try.results28, go_sem]; done) | simp [results, Try.results28, go_sem, f_VR]) rfl ⟨rfl, ?_⟩
  repeat' first | with_reducible exact Bo | with_reducible exact Below.refl _ _ | with_reducible refine Below.setCell ?_ ?_ _ | with_reducible refine Below.alloc ?_ ?_ _ | with_reducible refine Below.drew ?_ | (simp; done) | (simp; omega)

set_option maxHeartbeats 2000000 in
theorem specRev1 (x : S9) (w : World) (h1 : sfC x = 0) :
    Calls Try.prog 28 #[.agg #[.int .i64 x.a, .int .i64 x.b, .int .i64 x.c, .int .i64 x.d, .int .i64 x.e, .int .i64 x.f, .int .i64 x.g, .int .i64 x.h, .int .i64 x.r]] w fun e w' => e = .returned (.agg #[.int .i64 0, .int .i64 x.c, .int .i64 x.d, .int .i64 x.a, .int .i64 x.b, .int .i64 x.g, .int .i64 x.h, .int .i64 x.e, .int .i64 x.f, .int .i64 x.r]) ∧ Below w.heap.size w w' := by
  have qa := build_resA
  have CX := Hid.mk (fun w => specSelFault_ok x w)
  rw [h1] at CX
  have qb := build_resB ⟨x.c, x.d, x.a, x.b, x.g, x.h, x.e, x.f, x.r⟩
  dsimp only at qb
  clear h1
  go_enter Try.func28, Try.ntmps28
  have B := Below.refl w.heap.size w
  replace B := thenB B (belowA w (.cells #[.int .i64 x.a, .int .i64 x.b, .int .i64 x.c, .int .i64 x.d, .int .i64 x.e, .int .i64 x.f, .int .i64 x.g, .int .i64 x.h, .int .i64 x.r] 29))
  have VX := V.new w [.int .i64 x.a, .int .i64 x.b, .int .i64 x.c, .int .i64 x.d, .int .i64 x.e, .int .i64 x.f, .int .i64 x.g, .int .i64 x.h, .int .i64 x.r] 29
  replace VX := VX.kept (belowA (w.alloc (.cells #[.int .i64 x.a, .int .i64 x.b, .int .i64 x.c, .int .i64 x.d, .int .i64 x.e, .int .i64 x.f, .int .i64 x.g, .int .i64 x.h, .int .i64 x.r] 29)) (.cells #[.int .i64 0, .int .i64 0, .int .i64 0, .int .i64 0, .int .i64 0, .int .i64 0, .int .i64 0, .int .i64 0, .int .i64 0, .int .i64 0] 56))
  replace B := thenB B (belowA (w.alloc (.cells #[.int .i64 x.a, .int .i64 x.b, .int .i64 x.c, .int .i64 x.d, .int .i64 x.e, .int .i64 x.f, .int .i64 x.g, .int .i64 x.h, .int .i64 x.r] 29)) (.cells #[.int .i64 0, .int .i64 0, .int .i64 0, .int .i64 0, .int .i64 0, .int .i64 0, .int .i64 0, .int .i64 0, .int .i64 0, .int .i64 0] 56))
  have VR : V ((w.alloc (.cells #[.int .i64 x.a, .int .i64 x.b, .int .i64 x.c, .int .i64 x.d, .int .i64 x.e, .int .i64 x.f, .int .i64 x.g, .int .i64 x.h, .int .i64 x.r] 29)).alloc (.cells #[.int .i64 0, .int .i64 0, .int .i64 0, .int .i64 0, .int .i64 0, .int .i64 0, .int .i64 0, .int .i64 0, .int .i64 0, .int .i64 0] 56)) (w.heap.size + 1) [.int .i64 0, .int .i64 0, .int .i64 0, .int .i64 0, .int .i64 0, .int .i64 0, .int .i64 0, .int .i64 0, .int .i64 0, .int .i64 0] := V.newAt _ _ _ _ (by simp)
  obtain ⟨s_VX, f_VX, z_VX⟩ := VX.open
  obtain ⟨s_VR, f_VR, z_VR⟩ := VR.open
  go_wp2_with fail
  refine (CX.out _).mono ?_
  rintro e w1 ⟨rfl, b1⟩
  clear s_VX f_VX z_VX s_VR f_VR z_VR
  have S1 := b1.size
  simp only [World.size_alloc] at S1
  replace VX := VX.kept b1
  replace VR := VR.kept b1
  replace B := thenB B b1
  clear b1
  obtain ⟨s_VX, f_VX, z_VX⟩ := VX.open
  obtain ⟨s_VR, f_VR, z_VR⟩ := VR.open
  have Bo := B
  go_wp2_with fail
  refine (l3Reverse_ok x _).mono ?_
  rintro e w2 ⟨rfl, b2⟩
  clear s_VX f_VX z_VX s_VR f_VR z_VR
  have S2 := b2.size
  replace VX := VX.kept b2
  replace VR := VR.kept b2
  replace B := thenB B b2
  clear b2
  obtain ⟨s_VX, f_VX, z_VX⟩ := VX.open
  obtain ⟨s_VR, f_VR, z_VR⟩ := VR.open
  have Bo := B
  go_wp2
  refine bodyPost_ret (v := .agg #[.int .i64 0, .int .i64 x.c, .int .i64 x.d, .int .i64 x.a, .int .i64 x.b, .int .i64 x.g, .int .i64 x.h, .int .i64 x.e, .int .i64 x.f, .int .i64 x.r]) (by first | (simp [results, Try.results28, go_sem]; done) | simp [results, Try.results28, go_sem, f_VR]) rfl ⟨rfl, ?_⟩
  repeat' first | with_reducible exact Bo | with_reducible exact Below.refl _ _ | with_reducible refine Below.setCell ?_ ?_ _ | with_reducible refine Below.alloc ?_ ?_ _ | with_reducible refine Below.drew ?_ | (simp; done) | (simp; omega)

set_option maxHeartbeats 2000000 in
theorem xRevS_walk (x : S9) (w : World) :
    Calls Try.prog 7 #[.agg #[.int .i64 x.a, .int .i64 x.b, .int .i64 x.c, .int .i64 x.d, .int .i64 x.e, .int .i64 x.f, .int .i64 x.g, .int .i64 x.h, .int .i64 x.r]] w fun e w' => e = .returned (.bool true) ∧ Below w.heap.size w w' := by
  by_cases hb : sfC x = 0
  · have hc := hb
    have CS := Hid.mk (fun w => specRev1 x w hc)
    have CI := Hid.mk (fun w => implRev1 x w hc)
    have CE := eqSelResult_ok 0 ⟨x.c, x.d, x.a, x.b, x.g, x.h, x.e, x.f, x.r⟩
    dsimp only at CE
    replace CE := Hid.mk CE
    clear hc hb
    go_enter Try.func7, Try.ntmps7
    have B := Below.refl w.heap.size w
    replace B := thenB B (belowA w (.cells #[.int .i64 x.a, .int .i64 x.b, .int .i64 x.c, .int .i64 x.d, .int .i64 x.e, .int .i64 x.f, .int .i64 x.g, .int .i64 x.h, .int .i64 x.r] 25))
    have VX := V.new w [.int .i64 x.a, .int .i64 x.b, .int .i64 x.c, .int .i64 x.d, .int .i64 x.e, .int .i64 x.f, .int .i64 x.g, .int .i64 x.h, .int .i64 x.r] 25
    obtain ⟨s_VX, f_VX, z_VX⟩ := VX.open
    go_wp2_with fail
    refine (toSel_ok x _).mono ?_
    rintro e w1 ⟨rfl, b1⟩
    clear s_VX f_VX z_VX
    have S1 := b1.size
    simp only [World.size_alloc] at S1
    replace VX := VX.kept b1
    replace B := thenB B b1
    clear b1
    obtain ⟨s_VX, f_VX, z_VX⟩ := VX.open
    have Bo := B
    go_wp2_with fail
    refine (CS.out _).mono ?_
    rintro e w2 ⟨rfl, b2⟩
    clear s_VX f_VX z_VX
    have S2 := b2.size
    replace VX := VX.kept b2
    replace B := thenB B b2
    clear b2
    obtain ⟨s_VX, f_VX, z_VX⟩ := VX.open
    have Bo := B
    replace VX := VX.kept (belowA w2 (.cells #[.int .i64 0, .int .i64 x.c, .int .i64 x.d, .int .i64 x.a, .int .i64 x.b, .int .i64 x.g, .int .i64 x.h, .int .i64 x.e, .int .i64 x.f, .int .i64 x.r] 56))
    replace B := thenB B (belowA w2 (.cells #[.int .i64 0, .int .i64 x.c, .int .i64 x.d, .int .i64 x.a, .int .i64 x.b, .int .i64 x.g, .int .i64 x.h, .int .i64 x.e, .int .i64 x.f, .int .i64 x.r] 56))
    have VA := V.new w2 [.int .i64 0, .int .i64 x.c, .int .i64 x.d, .int .i64 x.a, .int .i64 x.b, .int .i64 x.g, .int .i64 x.h, .int .i64 x.e, .int .i64 x.f, .int .i64 x.r] 56
    go_wp2_with fail
    refine (toSel_ok x _).mono ?_
    rintro e w3 ⟨rfl, b3⟩
    clear s_VX f_VX z_VX
    have S3 := b3.size
    simp only [World.size_alloc] at S3
    replace VX := VX.kept b3
    replace VA := VA.kept b3
    replace B := thenB B b3
    clear b3
    obtain ⟨s_VX, f_VX, z_VX⟩ := VX.open
    obtain ⟨s_VA, f_VA, z_VA⟩ := VA.open
    have Bo := B
    go_wp2_with fail
    refine (CI.out _).mono ?_
    rintro e w4 ⟨rfl, b4⟩
    clear s_VX f_VX z_VX s_VA f_VA z_VA
    have S4 := b4.size
    replace VX := VX.kept b4
    replace VA := VA.kept b4
    replace B := thenB B b4
    clear b4
    obtain ⟨s_VX, f_VX, z_VX⟩ := VX.open
    obtain ⟨s_VA, f_VA, z_VA⟩ := VA.open
    have Bo := B
    replace VX := VX.kept (belowA w4 (.cells #[.int .i64 0, .int .i64 x.c, .int .i64 x.d, .int .i64 x.a, .int .i64 x.b, .int .i64 x.g, .int .i64 x.h, .int .i64 x.e, .int .i64 x.f, .int .i64 x.r] 56))
    replace VA := VA.kept (belowA w4 (.cells #[.int .i64 0, .int .i64 x.c, .int .i64 x.d, .int .i64 x.a, .int .i64 x.b, .int .i64 x.g, .int .i64 x.h, .int .i64 x.e, .int .i64 x.f, .int .i64 x.r] 56))
    replace B := thenB B (belowA w4 (.cells #[.int .i64 0, .int .i64 x.c, .int .i64 x.d, .int .i64 x.a, .int .i64 x.b, .int .i64 x.g, .int .i64 x.h, .int .i64 x.e, .int .i64 x.f, .int .i64 x.r] 56))
    have VB := V.new w4 [.int .i64 0, .int .i64 x.c, .int .i64 x.d, .int .i64 x.a, .int .i64 x.b, .int .i64 x.g, .int .i64 x.h, .int .i64 x.e, .int .i64 x.f, .int .i64 x.r] 56
    go_wp2_with fail
    refine (CE.out _).mono ?_
    rintro e w5 ⟨rfl, b5⟩
    clear s_VX f_VX z_VX s_VA f_VA z_VA
    have S5 := b5.size
    simp only [World.size_alloc] at S5
    replace VX := VX.kept b5
    replace VA := VA.kept b5
    replace VB := VB.kept b5
    replace B := thenB B b5
    clear b5
    obtain ⟨s_VX, f_VX, z_VX⟩ := VX.open
    obtain ⟨s_VA, f_VA, z_VA⟩ := VA.open
    obtain ⟨s_VB, f_VB, z_VB⟩ := VB.open
    have Bo := B
    go_wp2
    go_ret
    exact ⟨rfl, Bo⟩
  · have hc : (sfC x != 0) = true := by simp [hb]
    have CS := Hid.mk (fun w => specRev0 x w hc)
    have CI := Hid.mk (fun w => implRev0 x w hc)
    have CE := eqSelResult_ok (sfC x) ⟨0, 0, 0, 0, 0, 0, 0, 0, 0⟩
    dsimp only at CE
    replace CE := Hid.mk CE
    clear hb hc
    go_enter Try.func7, Try.ntmps7
    have B := Below.refl w.heap.size w
    replace B := thenB B (belowA w (.cells #[.int .i64 x.a, .int .i64 x.b, .int .i64 x.c, .int .i64 x.d, .int .i64 x.e, .int .i64 x.f, .int .i64 x.g, .int .i64 x.h, .int .i64 x.r] 25))
    have VX := V.new w [.int .i64 x.a, .int .i64 x.b, .int .i64 x.c, .int .i64 x.d, .int .i64 x.e, .int .i64 x.f, .int .i64 x.g, .int .i64 x.h, .int .i64 x.r] 25
    obtain ⟨s_VX, f_VX, z_VX⟩ := VX.open
    go_wp2_with fail
    refine (toSel_ok x _).mono ?_
    rintro e w1 ⟨rfl, b1⟩
    clear s_VX f_VX z_VX
    have S1 := b1.size
    simp only [World.size_alloc] at S1
    replace VX := VX.kept b1
    replace B := thenB B b1
    clear b1
    obtain ⟨s_VX, f_VX, z_VX⟩ := VX.open
    have Bo := B
    go_wp2_with fail
    refine (CS.out _).mono ?_
    rintro e w2 ⟨rfl, b2⟩
    clear s_VX f_VX z_VX
    have S2 := b2.size
    replace VX := VX.kept b2
    replace B := thenB B b2
    clear b2
    obtain ⟨s_VX, f_VX, z_VX⟩ := VX.open
    have Bo := B
    replace VX := VX.kept (belowA w2 (.cells #[.int .i64 (sfC x), .int .i64 0, .int .i64 0, .int .i64 0, .int .i64 0, .int .i64 0, .int .i64 0, .int .i64 0, .int .i64 0, .int .i64 0] 56))
    replace B := thenB B (belowA w2 (.cells #[.int .i64 (sfC x), .int .i64 0, .int .i64 0, .int .i64 0, .int .i64 0, .int .i64 0, .int .i64 0, .int .i64 0, .int .i64 0, .int .i64 0] 56))
    have VA := V.new w2 [.int .i64 (sfC x), .int .i64 0, .int .i64 0, .int .i64 0, .int .i64 0, .int .i64 0, .int .i64 0, .int .i64 0, .int .i64 0, .int .i64 0] 56
    go_wp2_with fail
    refine (toSel_ok x _).mono ?_
    rintro e w3 ⟨rfl, b3⟩
    clear s_VX f_VX z_VX
    have S3 := b3.size
    simp only [World.size_alloc] at S3
    replace VX := VX.kept b3
    replace VA := VA.kept b3
    replace B := thenB B b3
    clear b3
    obtain ⟨s_VX, f_VX, z_VX⟩ := VX.open
    obtain ⟨s_VA, f_VA, z_VA⟩ := VA.open
    have Bo := B
    go_wp2_with fail
    refine (CI.out _).mono ?_
    rintro e w4 ⟨rfl, b4⟩
    clear s_VX f_VX z_VX s_VA f_VA z_VA
    have S4 := b4.size
    replace VX := VX.kept b4
    replace VA := VA.kept b4
    replace B := thenB B b4
    clear b4
    obtain ⟨s_VX, f_VX, z_VX⟩ := VX.open
    obtain ⟨s_VA, f_VA, z_VA⟩ := VA.open
    have Bo := B
    replace VX := VX.kept (belowA w4 (.cells #[.int .i64 (sfC x), .int .i64 0, .int .i64 0, .int .i64 0, .int .i64 0, .int .i64 0, .int .i64 0, .int .i64 0, .int .i64 0, .int .i64 0] 56))
    replace VA := VA.kept (belowA w4 (.cells #[.int .i64 (sfC x), .int .i64 0, .int .i64 0, .int .i64 0, .int .i64 0, .int .i64 0, .int .i64 0, .int .i64 0, .int .i64 0, .int .i64 0] 56))
    replace B := thenB B (belowA w4 (.cells #[.int .i64 (sfC x), .int .i64 0, .int .i64 0, .int .i64 0, .int .i64 0, .int .i64 0, .int .i64 0, .int .i64 0, .int .i64 0, .int .i64 0] 56))
    have VB := V.new w4 [.int .i64 (sfC x), .int .i64 0, .int .i64 0, .int .i64 0, .int .i64 0, .int .i64 0, .int .i64 0, .int .i64 0, .int .i64 0, .int .i64 0] 56
    go_wp2_with fail
    refine (CE.out _).mono ?_
    rintro e w5 ⟨rfl, b5⟩
    clear s_VX f_VX z_VX s_VA f_VA z_VA
    have S5 := b5.size
    simp only [World.size_alloc] at S5
    replace VX := VX.kept b5
    replace VA := VA.kept b5
    replace VB := VB.kept b5
    replace B := thenB B b5
    clear b5
    obtain ⟨s_VX, f_VX, z_VX⟩ := VX.open
    obtain ⟨s_VA, f_VA, z_VA⟩ := VA.open
    obtain ⟨s_VB, f_VB, z_VB⟩ := VB.open
    have Bo := B
    go_wp2
    go_ret
    exact ⟨rfl, Bo⟩

end Go.Proofs.Ytmbkbbephmblmab
