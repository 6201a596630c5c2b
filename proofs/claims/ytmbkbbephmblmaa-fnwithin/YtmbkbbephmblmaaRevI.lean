/- 'ReverseSel': the program's side. -/
import Derived.Test.YtmbkbbephmblmaaSelR
import Derived.Test.YtmbkbbephmblmaaSelF
import Derived.Test.YtmbkbbephmblmaaVar
namespace Go.Proofs.Ytmbkbbephmblmaa
open Go.RowKit


set_option maxHeartbeats 2000000 in
theorem implRev0 (x : S9) (w : World) (h1 : (sfC x != 0) = true) :
    Calls Try.prog 20 #[.agg #[.int .i64 x.a, .int .i64 x.b, .int .i64 x.c, .int .i64 x.d, .int .i64 x.e, .int .i64 x.f, .int .i64 x.g, .int .i64 x.h, .int .i64 x.r]] w fun e w' => e = .returned (.agg #[.int .i64 (sfC x), .int .i64 0, .int .i64 0, .int .i64 0, .int .i64 0, .int .i64 0, .int .i64 0, .int .i64 0, .int .i64 0, .int .i64 0]) ∧ Below w.heap.size w w' := by
  have qa := build_resA
  have CX := Hid.mk (fun w => implSelFault_ok x w)
  go_enter Try.func20, Try.ntmps20
  have B := Below.refl w.heap.size w
  replace B := thenB B (belowA w (.cells #[.int .i64 x.a, .int .i64 x.b, .int .i64 x.c, .int .i64 x.d, .int .i64 x.e, .int .i64 x.f, .int .i64 x.g, .int .i64 x.h, .int .i64 x.r] 27))
  have VX := V.new w [.int .i64 x.a, .int .i64 x.b, .int .i64 x.c, .int .i64 x.d, .int .i64 x.e, .int .i64 x.f, .int .i64 x.g, .int .i64 x.h, .int .i64 x.r] 27
  replace VX := VX.kept (belowA (w.alloc (.cells #[.int .i64 x.a, .int .i64 x.b, .int .i64 x.c, .int .i64 x.d, .int .i64 x.e, .int .i64 x.f, .int .i64 x.g, .int .i64 x.h, .int .i64 x.r] 27)) (.cells #[.int .i64 0, .int .i64 0, .int .i64 0, .int .i64 0, .int .i64 0, .int .i64 0, .int .i64 0, .int .i64 0, .int .i64 0, .int .i64 0] 31))
  replace B := thenB B (belowA (w.alloc (.cells #[.int .i64 x.a, .int .i64 x.b, .int .i64 x.c, .int .i64 x.d, .int .i64 x.e, .int .i64 x.f, .int .i64 x.g, .int .i64 x.h, .int .i64 x.r] 27)) (.cells #[.int .i64 0, .int .i64 0, .int .i64 0, .int .i64 0, .int .i64 0, .int .i64 0, .int .i64 0, .int .i64 0, .int .i64 0, .int .i64 0] 31))
  have VR : V ((w.alloc (.cells #[.int .i64 x.a, .int .i64 x.b, .int .i64 x.c, .int .i64 x.d, .int .i64 x.e, .int .i64 x.f, .int .i64 x.g, .int .i64 x.h, .int .i64 x.r] 27)).alloc (.cells #[.int .i64 0, .int .i64 0, .int .i64 0, .int .i64 0, .int .i64 0, .int .i64 0, .int .i64 0, .int .i64 0, .int .i64 0, .int .i64 0] 31)) (w.heap.size + 1) [.int .i64 0, .int .i64 0, .int .i64 0, .int .i64 0, .int .i64 0, .int .i64 0, .int .i64 0, .int .i64 0, .int .i64 0, .int .i64 0] := V.newAt _ _ _ _ (by simp)
  obtain ⟨s_VX, f_VX, z_VX⟩ := VX.open
  obtain ⟨s_VR, f_VR, z_VR⟩ := VR.open
  go_wp2_with fail
  refine (CX.out _).mono ?_
  rintro e w1 ⟨rfl, b1⟩
  clear s_VX f_VX z_VX s_VR f_VR z_VR
  have S1 := b1.size
  simp only [World.size_alloc] at S1
  replace VX := VX.kept b1
  replace VR := VR.kept b1
  replace B := thenB B b1
  clear b1
  obtain ⟨s_VX, f_VX, z_VX⟩ := VX.open
  obtain ⟨s_VR, f_VR, z_VR⟩ := VR.open
  have Bo := B
  go_wp2
  refine bodyPost_ret (v := .agg #[.int .i64 (sfC x), .int .i64 0, .int .i64 0, .int .i64 0, .int .i64 0, .int .i64 0, .int .i64 0, .int .i64 0, .int .i64 0, .int .i64 0]) (by first | (simp [results, Try.results20, go_sem]; done) | simp [results, Try.results20, go_sem, f_VR]) rfl ⟨rfl, ?_⟩
  repeat' first | with_reducible exact Bo | with_reducible exact Below.refl _ _ | with_reducible refine Below.setCell ?_ ?_ _ | with_reducible refine Below.alloc ?_ ?_ _ | with_reducible refine Below.drew ?_ | (simp; done) | (simp; omega)

set_option maxHeartbeats 2000000 in
theorem implRev1 (x : S9) (w : World) (h1 : sfC x = 0) :
    Calls Try.prog 20 #[.agg #[.int .i64 x.a, .int .i64 x.b, .int .i64 x.c, .int .i64 x.d, .int .i64 x.e, .int .i64 x.f, .int .i64 x.g, .int .i64 x.h, .int .i64 x.r]] w fun e w' => e = .returned (.agg #[.int .i64 0, .int .i64 x.c, .int .i64 x.d, .int .i64 x.a, .int .i64 x.b, .int .i64 x.g, .int .i64 x.h, .int .i64 x.e, .int .i64 x.f, .int .i64 x.r]) ∧ Below w.heap.size w w' := by
  have qa := build_resA
  have CX := Hid.mk (fun w => implSelFault_ok x w)
  rw [h1] at CX
  have qb := build_resB ⟨x.c, x.d, x.a, x.b, x.g, x.h, x.e, x.f, x.r⟩
  dsimp only at qb
  clear h1
  go_enter Try.func20, Try.ntmps20
  have B := Below.refl w.heap.size w
  replace B := thenB B (belowA w (.cells #[.int .i64 x.a, .int .i64 x.b, .int .i64 x.c, .int .i64 x.d, .int .i64 x.e, .int .i64 x.f, .int .i64 x.g, .int .i64 x.h, .int .i64 x.r] 27))
  have VX := V.new w [.int .i64 x.a, .int .i64 x.b, .int .i64 x.c, .int .i64 x.d, .int .i64 x.e, .int .i64 x.f, .int .i64 x.g, .int .i64 x.h, .int .i64 x.r] 27
  replace VX := VX.kept (belowA (w.alloc (.cells #[.int .i64 x.a, .int .i64 x.b, .int .i64 x.c, .int .i64 x.d, .int .i64 x.e, .int .i64 x.f, .int .i64 x.g, .int .i64 x.h, .int .i64 x.r] 27)) (.cells #[.int .i64 0, .int .i64 0, .int .i64 0, .int .i64 0, .int .i64 0, .int .i64 0, .int .i64 0, .int .i64 0, .int .i64 0, .int .i64 0] 31))
  replace B := thenB B (belowA (w.alloc (.cells #[.int .i64 x.a, .int .i64 x.b, .int .i64 x.c, .int .i64 x.d, .int .i64 x.e, .int .i64 x.f, .int .i64 x.g, .int .i64 x.h, .int .i64 x.r] 27)) (.cells #[.int .i64 0, .int .i64 0, .int .i64 0, .int .i64 0, .int .i64 0, .int .i64 0, .int .i64 0, .int .i64 0, .int .i64 0, .int .i64 0] 31))
  have VR : V ((w.alloc (.cells #[.int .i64 x.a, .int .i64 x.b, .int .i64 x.c, .int .i64 x.d, .int .i64 x.e, .int .i64 x.f, .int .i64 x.g, .int .i64 x.h, .int .i64 x.r] 27)).alloc (.cells #[.int .i64 0, .int .i64 0, .int .i64 0, .int .i64 0, .int .i64 0, .int .i64 0, .int .i64 0, .int .i64 0, .int .i64 0, .int .i64 0] 31)) (w.heap.size + 1) [.int .i64 0, .int .i64 0, .int .i64 0, .int .i64 0, .int .i64 0, .int .i64 0, .int .i64 0, .int .i64 0, .int .i64 0, .int .i64 0] := V.newAt _ _ _ _ (by simp)
  obtain ⟨s_VX, f_VX, z_VX⟩ := VX.open
  obtain ⟨s_VR, f_VR, z_VR⟩ := VR.open
  go_wp2_with fail
  refine (CX.out _).mono ?_
  rintro e w1 ⟨rfl, b1⟩
  clear s_VX f_VX z_VX s_VR f_VR z_VR
  have S1 := b1.size
  simp only [World.size_alloc] at S1
  replace VX := VX.kept b1
  replace VR := VR.kept b1
  replace B := thenB B b1
  clear b1
  obtain ⟨s_VX, f_VX, z_VX⟩ := VX.open
  obtain ⟨s_VR, f_VR, z_VR⟩ := VR.open
  have Bo := B
  go_wp2
  refine bodyPost_ret (v := .agg #[.int .i64 0, .int .i64 x.c, .int .i64 x.d, .int .i64 x.a, .int .i64 x.b, .int .i64 x.g, .int .i64 x.h, .int .i64 x.e, .int .i64 x.f, .int .i64 x.r]) (by first | (simp [results, Try.results20, go_sem]; done) | simp [results, Try.results20, go_sem, f_VR]) rfl ⟨rfl, ?_⟩
  repeat' first | with_reducible exact Bo | with_reducible exact Below.refl _ _ | with_reducible refine Below.setCell ?_ ?_ _ | with_reducible refine Below.alloc ?_ ?_ _ | with_reducible refine Below.drew ?_ | (simp; done) | (simp; omega)

end Go.Proofs.Ytmbkbbephmblmaa
