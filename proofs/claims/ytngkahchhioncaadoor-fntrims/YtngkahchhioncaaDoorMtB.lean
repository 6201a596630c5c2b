/- What two selectors have in common: the program's side. -/
import Derived.Test.YtngkahchhioncaaDoorMtA
import Derived.Test.YtngkahchhioncaaDoorSelF
import Derived.Deep.DeepCutAuto
namespace Go.Proofs.YtngkahchhioncaaDoor
open Go.RowKit

theorem build_res1 (k : Int) (w : World) : (Instr.build 108 #[(0, .int .i64 k)]).run Tryd.prog w = .ok (.agg #[.int .i64 k, .int .i64 0, .int .i64 0, .int .i64 0, .int .i64 0, .int .i64 0, .int .i64 0, .int .i64 0, .int .i64 0, .int .i64 0]) w := run_build w 108 _ _ (by kernel_rfl)

theorem build_res2 (x : S9) (w : World) : (Instr.build 108 #[(1, .agg #[.int .i64 x.a, .int .i64 x.b, .int .i64 x.c, .int .i64 x.d, .int .i64 x.e, .int .i64 x.f, .int .i64 x.g, .int .i64 x.h, .int .i64 x.r])]).run Tryd.prog w = .ok (.agg #[.int .i64 0, .int .i64 x.a, .int .i64 x.b, .int .i64 x.c, .int .i64 x.d, .int .i64 x.e, .int .i64 x.f, .int .i64 x.g, .int .i64 x.h, .int .i64 x.r]) w := run_build w 108 _ _ (by kernel_rfl)


set_option maxHeartbeats 4000000 in
theorem iMeet1 (x y : S9) (w : World) (h1 : (sfC x != 0) = true) :
    Calls Tryd.prog 113 #[.agg #[.int .i64 x.a, .int .i64 x.b, .int .i64 x.c, .int .i64 x.d, .int .i64 x.e, .int .i64 x.f, .int .i64 x.g, .int .i64 x.h, .int .i64 x.r], .agg #[.int .i64 y.a, .int .i64 y.b, .int .i64 y.c, .int .i64 y.d, .int .i64 y.e, .int .i64 y.f, .int .i64 y.g, .int .i64 y.h, .int .i64 y.r]] w fun e w' => e = .returned (.agg #[.int .i64 (sfC x), .int .i64 0, .int .i64 0, .int .i64 0, .int .i64 0, .int .i64 0, .int .i64 0, .int .i64 0, .int .i64 0, .int .i64 0]) ∧ Below w.heap.size w w' := by
  have q1 := build_res1
  have CX := Hid.mk (fun w => implSelFault_ok x w)
  have CY := Hid.mk (fun w => implSelFault_ok y w)
  go_enter Tryd.func113, Tryd.ntmps113
  have B := Below.refl w.heap.size w
  replace B := thenB B (belowA w (.cells #[.int .i64 x.a, .int .i64 x.b, .int .i64 x.c, .int .i64 x.d, .int .i64 x.e, .int .i64 x.f, .int .i64 x.g, .int .i64 x.h, .int .i64 x.r] 32))
  have VX := V.new w [.int .i64 x.a, .int .i64 x.b, .int .i64 x.c, .int .i64 x.d, .int .i64 x.e, .int .i64 x.f, .int .i64 x.g, .int .i64 x.h, .int .i64 x.r] 32
  replace VX := VX.kept (belowA (w.alloc (.cells #[.int .i64 x.a, .int .i64 x.b, .int .i64 x.c, .int .i64 x.d, .int .i64 x.e, .int .i64 x.f, .int .i64 x.g, .int .i64 x.h, .int .i64 x.r] 32)) (.cells #[.int .i64 y.a, .int .i64 y.b, .int .i64 y.c, .int .i64 y.d, .int .i64 y.e, .int .i64 y.f, .int .i64 y.g, .int .i64 y.h, .int .i64 y.r] 32))
  replace B := thenB B (belowA (w.alloc (.cells #[.int .i64 x.a, .int .i64 x.b, .int .i64 x.c, .int .i64 x.d, .int .i64 x.e, .int .i64 x.f, .int .i64 x.g, .int .i64 x.h, .int .i64 x.r] 32)) (.cells #[.int .i64 y.a, .int .i64 y.b, .int .i64 y.c, .int .i64 y.d, .int .i64 y.e, .int .i64 y.f, .int .i64 y.g, .int .i64 y.h, .int .i64 y.r] 32))
  have VY : V ((w.alloc (.cells #[.int .i64 x.a, .int .i64 x.b, .int .i64 x.c, .int .i64 x.d, .int .i64 x.e, .int .i64 x.f, .int .i64 x.g, .int .i64 x.h, .int .i64 x.r] 32)).alloc (.cells #[.int .i64 y.a, .int .i64 y.b, .int .i64 y.c, .int .i64 y.d, .int .i64 y.e, .int .i64 y.f, .int .i64 y.g, .int .i64 y.h, .int .i64 y.r] 32)) (w.heap.size + 1) [.int .i64 y.a, .int .i64 y.b, .int .i64 y.c, .int .i64 y.d, .int .i64 y.e, .int .i64 y.f, .int .i64 y.g, .int .i64 y.h, .int .i64 y.r] := V.newAt _ _ _ _ (by simp)
  replace VX := VX.kept (belowA ((w.alloc (.cells #[.int .i64 x.a, .int .i64 x.b, .int .i64 x.c, .int .i64 x.d, .int .i64 x.e, .int .i64 x.f, .int .i64 x.g, .int .i64 x.h, .int .i64 x.r] 32)).alloc (.cells #[.int .i64 y.a, .int .i64 y.b, .int .i64 y.c, .int .i64 y.d, .int .i64 y.e, .int .i64 y.f, .int .i64 y.g, .int .i64 y.h, .int .i64 y.r] 32)) (.cells #[.int .i64 0, .int .i64 0, .int .i64 0, .int .i64 0, .int .i64 0, .int .i64 0, .int .i64 0, .int .i64 0, .int .i64 0, .int .i64 0] 108))
  replace VY := VY.kept (belowA ((w.alloc (.cells #[.int .i64 x.a, .int .i64 x.b, .int .i64 x.c, .int .i64 x.d, .int .i64 x.e, .int .i64 x.f, .int .i64 x.g, .int .i64 x.h, .int .i64 x.r] 32)).alloc (.cells #[.int .i64 y.a, .int .i64 y.b, .int .i64 y.c, .int .i64 y.d, .int .i64 y.e, .int .i64 y.f, .int .i64 y.g, .int .i64 y.h, .int .i64 y.r] 32)) (.cells #[.int .i64 0, .int .i64 0, .int .i64 0, .int .i64 0, .int .i64 0, .int .i64 0, .int .i64 0, .int .i64 0, .int .i64 0, .int .i64 0] 108))
  replace B := thenB B (belowA ((w.alloc (.cells #[.int .i64 x.a, .int .i64 x.b, .int .i64 x.c, .int .i64 x.d, .int .i64 x.e, .int .i64 x.f, .int .i64 x.g, .int .i64 x.h, .int .i64 x.r] 32)).alloc (.cells #[.int .i64 y.a, .int .i64 y.b, .int .i64 y.c, .int .i64 y.d, .int .i64 y.e, .int .i64 y.f, .int .i64 y.g, .int .i64 y.h, .int .i64 y.r] 32)) (.cells #[.int .i64 0, .int .i64 0, .int .i64 0, .int .i64 0, .int .i64 0, .int .i64 0, .int .i64 0, .int .i64 0, .int .i64 0, .int .i64 0] 108))
  have VR : V (((w.alloc (.cells #[.int .i64 x.a, .int .i64 x.b, .int .i64 x.c, .int .i64 x.d, .int .i64 x.e, .int .i64 x.f, .int .i64 x.g, .int .i64 x.h, .int .i64 x.r] 32)).alloc (.cells #[.int .i64 y.a, .int .i64 y.b, .int .i64 y.c, .int .i64 y.d, .int .i64 y.e, .int .i64 y.f, .int .i64 y.g, .int .i64 y.h, .int .i64 y.r] 32)).alloc (.cells #[.int .i64 0, .int .i64 0, .int .i64 0, .int .i64 0, .int .i64 0, .int .i64 0, .int .i64 0, .int .i64 0, .int .i64 0, .int .i64 0] 108)) (w.heap.size + 1 + 1) [.int .i64 0, .int .i64 0, .int .i64 0, .int .i64 0, .int .i64 0, .int .i64 0, .int .i64 0, .int .i64 0, .int .i64 0, .int .i64 0] := V.newAt _ _ _ _ (by simp)
  obtain ⟨s_VX, f_VX, z_VX⟩ := VX.open
  obtain ⟨s_VY, f_VY, z_VY⟩ := VY.open
  obtain ⟨s_VR, f_VR, z_VR⟩ := VR.open
  go_wp2_with fail
  refine (CX.out _).mono ?_
  rintro e w1 ⟨rfl, b1⟩
  clear s_VX f_VX z_VX s_VY f_VY z_VY s_VR f_VR z_VR
  have S1 := b1.size
  simp only [World.size_alloc] at S1
  replace VX := VX.kept b1
  replace VY := VY.kept b1
  replace VR := VR.kept b1
  replace B := thenB B b1
  clear b1
  obtain ⟨s_VX, f_VX, z_VX⟩ := VX.open
  obtain ⟨s_VY, f_VY, z_VY⟩ := VY.open
  obtain ⟨s_VR, f_VR, z_VR⟩ := VR.open
  have Bo := B
  go_wp2
  refine bodyPost_ret (v := .agg #[.int .i64 (sfC x), .int .i64 0, .int .i64 0, .int .i64 0, .int .i64 0, .int .i64 0, .int .i64 0, .int .i64 0, .int .i64 0, .int .i64 0]) (by first | (simp [results, Tryd.results113, go_sem]; done) | simp [results, Tryd.results113, go_sem, f_VR]) rfl ⟨by first | rfl | rw [zeroS_is], ?_⟩
  repeat' first | with_reducible exact Bo | with_reducible refine Below.setCell ?_ ?_ _ | with_reducible refine Below.alloc ?_ ?_ _ | with_reducible refine Below.drew ?_ | (simp; try omega)

set_option maxHeartbeats 4000000 in
theorem iMeet2 (x y : S9) (w : World) (h1 : (sfC x != 0) = false) (h2 : (sfC y != 0) = true) :
    Calls Tryd.prog 113 #[.agg #[.int .i64 x.a, .int .i64 x.b, .int .i64 x.c, .int .i64 x.d, .int .i64 x.e, .int .i64 x.f, .int .i64 x.g, .int .i64 x.h, .int .i64 x.r], .agg #[.int .i64 y.a, .int .i64 y.b, .int .i64 y.c, .int .i64 y.d, .int .i64 y.e, .int .i64 y.f, .int .i64 y.g, .int .i64 y.h, .int .i64 y.r]] w fun e w' => e = .returned (.agg #[.int .i64 (sfC y), .int .i64 0, .int .i64 0, .int .i64 0, .int .i64 0, .int .i64 0, .int .i64 0, .int .i64 0, .int .i64 0, .int .i64 0]) ∧ Below w.heap.size w w' := by
  have q1 := build_res1
  have CX := Hid.mk (fun w => implSelFault_ok x w)
  have CY := Hid.mk (fun w => implSelFault_ok y w)
  go_enter Tryd.func113, Tryd.ntmps113
  have B := Below.refl w.heap.size w
  replace B := thenB B (belowA w (.cells #[.int .i64 x.a, .int .i64 x.b, .int .i64 x.c, .int .i64 x.d, .int .i64 x.e, .int .i64 x.f, .int .i64 x.g, .int .i64 x.h, .int .i64 x.r] 32))
  have VX := V.new w [.int .i64 x.a, .int .i64 x.b, .int .i64 x.c, .int .i64 x.d, .int .i64 x.e, .int .i64 x.f, .int .i64 x.g, .int .i64 x.h, .int .i64 x.r] 32
  replace VX := VX.kept (belowA (w.alloc (.cells #[.int .i64 x.a, .int .i64 x.b, .int .i64 x.c, .int .i64 x.d, .int .i64 x.e, .int .i64 x.f, .int .i64 x.g, .int .i64 x.h, .int .i64 x.r] 32)) (.cells #[.int .i64 y.a, .int .i64 y.b, .int .i64 y.c, .int .i64 y.d, .int .i64 y.e, .int .i64 y.f, .int .i64 y.g, .int .i64 y.h, .int .i64 y.r] 32))
  replace B := thenB B (belowA (w.alloc (.cells #[.int .i64 x.a, .int .i64 x.b, .int .i64 x.c, .int .i64 x.d, .int .i64 x.e, .int .i64 x.f, .int .i64 x.g, .int .i64 x.h, .int .i64 x.r] 32)) (.cells #[.int .i64 y.a, .int .i64 y.b, .int .i64 y.c, .int .i64 y.d, .int .i64 y.e, .int .i64 y.f, .int .i64 y.g, .int .i64 y.h, .int .i64 y.r] 32))
  have VY : V ((w.alloc (.cells #[.int .i64 x.a, .int .i64 x.b, .int .i64 x.c, .int .i64 x.d, .int .i64 x.e, .int .i64 x.f, .int .i64 x.g, .int .i64 x.h, .int .i64 x.r] 32)).alloc (.cells #[.int .i64 y.a, .int .i64 y.b, .int .i64 y.c, .int .i64 y.d, .int .i64 y.e, .int .i64 y.f, .int .i64 y.g, .int .i64 y.h, .int .i64 y.r] 32)) (w.heap.size + 1) [.int .i64 y.a, .int .i64 y.b, .int .i64 y.c, .int .i64 y.d, .int .i64 y.e, .int .i64 y.f, .int .i64 y.g, .int .i64 y.h, .int .i64 y.r] := V.newAt _ _ _ _ (by simp)
  replace VX := VX.kept (belowA ((w.alloc (.cells #[.int .i64 x.a, .int .i64 x.b, .int .i64 x.c, .int .i64 x.d, .int .i64 x.e, .int .i64 x.f, .int .i64 x.g, .int .i64 x.h, .int .i64 x.r] 32)).alloc (.cells #[.int .i64 y.a, .int .i64 y.b, .int .i64 y.c, .int .i64 y.d, .int .i64 y.e, .int .i64 y.f, .int .i64 y.g, .int .i64 y.h, .int .i64 y.r] 32)) (.cells #[.int .i64 0, .int .i64 0, .int .i64 0, .int .i64 0, .int .i64 0, .int .i64 0, .int .i64 0, .int .i64 0, .int .i64 0, .int .i64 0] 108))
  replace VY := VY.kept (belowA ((w.alloc (.cells #[.int .i64 x.a, .int .i64 x.b, .int .i64 x.c, .int .i64 x.d, .int .i64 x.e, .int .i64 x.f, .int .i64 x.g, .int .i64 x.h, .int .i64 x.r] 32)).alloc (.cells #[.int .i64 y.a, .int .i64 y.b, .int .i64 y.c, .int .i64 y.d, .int .i64 y.e, .int .i64 y.f, .int .i64 y.g, .int .i64 y.h, .int .i64 y.r] 32)) (.cells #[.int .i64 0, .int .i64 0, .int .i64 0, .int .i64 0, .int .i64 0, .int .i64 0, .int .i64 0, .int .i64 0, .int .i64 0, .int .i64 0] 108))
  replace B := thenB B (belowA ((w.alloc (.cells #[.int .i64 x.a, .int .i64 x.b, .int .i64 x.c, .int .i64 x.d, .int .i64 x.e, .int .i64 x.f, .int .i64 x.g, .int .i64 x.h, .int .i64 x.r] 32)).alloc (.cells #[.int .i64 y.a, .int .i64 y.b, .int .i64 y.c, .int .i64 y.d, .int .i64 y.e, .int .i64 y.f, .int .i64 y.g, .int .i64 y.h, .int .i64 y.r] 32)) (.cells #[.int .i64 0, .int .i64 0, .int .i64 0, .int .i64 0, .int .i64 0, .int .i64 0, .int .i64 0, .int .i64 0, .int .i64 0, .int .i64 0] 108))
  have VR : V (((w.alloc (.cells #[.int .i64 x.a, .int .i64 x.b, .int .i64 x.c, .int .i64 x.d, .int .i64 x.e, .int .i64 x.f, .int .i64 x.g, .int .i64 x.h, .int .i64 x.r] 32)).alloc (.cells #[.int .i64 y.a, .int .i64 y.b, .int .i64 y.c, .int .i64 y.d, .int .i64 y.e, .int .i64 y.f, .int .i64 y.g, .int .i64 y.h, .int .i64 y.r] 32)).alloc (.cells #[.int .i64 0, .int .i64 0, .int .i64 0, .int .i64 0, .int .i64 0, .int .i64 0, .int .i64 0, .int .i64 0, .int .i64 0, .int .i64 0] 108)) (w.heap.size + 1 + 1) [.int .i64 0, .int .i64 0, .int .i64 0, .int .i64 0, .int .i64 0, .int .i64 0, .int .i64 0, .int .i64 0, .int .i64 0, .int .i64 0] := V.newAt _ _ _ _ (by simp)
  obtain ⟨s_VX, f_VX, z_VX⟩ := VX.open
  obtain ⟨s_VY, f_VY, z_VY⟩ := VY.open
  obtain ⟨s_VR, f_VR, z_VR⟩ := VR.open
  go_wp2_with fail
  refine (CX.out _).mono ?_
  rintro e w1 ⟨rfl, b1⟩
  clear s_VX f_VX z_VX s_VY f_VY z_VY s_VR f_VR z_VR
  have S1 := b1.size
  simp only [World.size_alloc] at S1
  replace VX := VX.kept b1
  replace VY := VY.kept b1
  replace VR := VR.kept b1
  replace B := thenB B b1
  clear b1
  obtain ⟨s_VX, f_VX, z_VX⟩ := VX.open
  obtain ⟨s_VY, f_VY, z_VY⟩ := VY.open
  obtain ⟨s_VR, f_VR, z_VR⟩ := VR.open
  have Bo := B
  go_wp2_with fail
  refine (CY.out _).mono ?_
  rintro e w2 ⟨rfl, b2⟩
  clear s_VX f_VX z_VX s_VY f_VY z_VY s_VR f_VR z_VR
  have S2 := b2.size
  replace VX := VX.kept b2
  replace VY := VY.kept b2
  replace VR := VR.kept b2
  replace B := thenB B b2
  clear b2
  obtain ⟨s_VX, f_VX, z_VX⟩ := VX.open
  obtain ⟨s_VY, f_VY, z_VY⟩ := VY.open
  obtain ⟨s_VR, f_VR, z_VR⟩ := VR.open
  have Bo := B
  go_wp2
  refine bodyPost_ret (v := .agg #[.int .i64 (sfC y), .int .i64 0, .int .i64 0, .int .i64 0, .int .i64 0, .int .i64 0, .int .i64 0, .int .i64 0, .int .i64 0, .int .i64 0]) (by first | (simp [results, Tryd.results113, go_sem]; done) | simp [results, Tryd.results113, go_sem, f_VR]) rfl ⟨by first | rfl | rw [zeroS_is], ?_⟩
  repeat' first | with_reducible exact Bo | with_reducible refine Below.setCell ?_ ?_ _ | with_reducible refine Below.alloc ?_ ?_ _ | with_reducible refine Below.drew ?_ | (simp; try omega)

set_option maxHeartbeats 4000000 in
theorem iMeet3 (x y : S9) (w : World) (h1 : (sfC x != 0) = false) (h2 : (sfC y != 0) = false) (m0 m1 m2 m3 m4 m5 m6 m7 r : Int) (hm : cmS x y = ⟨m0, m1, m2, m3, m4, m5, m6, m7, r⟩) (k : Int) (Z : S9) (hW : (upS m0 m1 m2 m3 m4 m5 m6 m7 = false ∧ k = 4 ∧ Z = zeroS) ∨ (upS m0 m1 m2 m3 m4 m5 m6 m7 = true ∧ tkP x.r y.r = false ∧ tkP y.r x.r = false ∧ k = 4 ∧ Z = zeroS) ∨ (upS m0 m1 m2 m3 m4 m5 m6 m7 = true ∧ (tkP x.r y.r = true ∨ (tkP x.r y.r = false ∧ tkP y.r x.r = true)) ∧ bareP r = false ∧ k = 0 ∧ Z = ⟨m0, m1, m2, m3, m4, m5, m6, m7, r⟩) ∨ (upS m0 m1 m2 m3 m4 m5 m6 m7 = true ∧ (tkP x.r y.r = true ∨ (tkP x.r y.r = false ∧ tkP y.r x.r = true)) ∧ bareP r = true ∧ ((m4 == 0) && (m6 == 0)) = false ∧ k = 4 ∧ Z = zeroS) ∨ (upS m0 m1 m2 m3 m4 m5 m6 m7 = true ∧ (tkP x.r y.r = true ∨ (tkP x.r y.r = false ∧ tkP y.r x.r = true)) ∧ bareP r = true ∧ ((m4 == 0) && (m6 == 0)) = true ∧ k = 0 ∧ Z = ⟨m0, m1, m2, m3, 0, 65535, 0, 65535, r⟩)) :
    Calls Tryd.prog 113 #[.agg #[.int .i64 x.a, .int .i64 x.b, .int .i64 x.c, .int .i64 x.d, .int .i64 x.e, .int .i64 x.f, .int .i64 x.g, .int .i64 x.h, .int .i64 x.r], .agg #[.int .i64 y.a, .int .i64 y.b, .int .i64 y.c, .int .i64 y.d, .int .i64 y.e, .int .i64 y.f, .int .i64 y.g, .int .i64 y.h, .int .i64 y.r]] w fun e w' => e = .returned (.agg #[.int .i64 k, .int .i64 Z.a, .int .i64 Z.b, .int .i64 Z.c, .int .i64 Z.d, .int .i64 Z.e, .int .i64 Z.f, .int .i64 Z.g, .int .i64 Z.h, .int .i64 Z.r]) ∧ Below w.heap.size w w' := by
  have q1 := build_res1
  have hC := (cmS_is x y).symm.trans hm
  simp only [S9.mk.injEq] at hC
  obtain ⟨e0, e1, e2, e3, e4, e5, e6, e7, hr⟩ := hC
  have CX := Hid.mk (fun w => implSelFault_ok x w)
  have CY := Hid.mk (fun w => implSelFault_ok y w)
  have CC := Hid.mk (fun w => commonSpans_ok x.a x.b x.c x.d x.e x.f x.g x.h y.a y.b y.c y.d y.e y.f y.g y.h w)
  rw [e0, e1, e2, e3, e4, e5, e6, e7] at CC
  have HR := Hid.mk hr
  clear e0 e1 e2 e3 e4 e5 e6 e7 hr
  go_enter Tryd.func113, Tryd.ntmps113
  have B := Below.refl w.heap.size w
  replace B := thenB B (belowA w (.cells #[.int .i64 x.a, .int .i64 x.b, .int .i64 x.c, .int .i64 x.d, .int .i64 x.e, .int .i64 x.f, .int .i64 x.g, .int .i64 x.h, .int .i64 x.r] 32))
  have VX := V.new w [.int .i64 x.a, .int .i64 x.b, .int .i64 x.c, .int .i64 x.d, .int .i64 x.e, .int .i64 x.f, .int .i64 x.g, .int .i64 x.h, .int .i64 x.r] 32
  replace VX := VX.kept (belowA (w.alloc (.cells #[.int .i64 x.a, .int .i64 x.b, .int .i64 x.c, .int .i64 x.d, .int .i64 x.e, .int .i64 x.f, .int .i64 x.g, .int .i64 x.h, .int .i64 x.r] 32)) (.cells #[.int .i64 y.a, .int .i64 y.b, .int .i64 y.c, .int .i64 y.d, .int .i64 y.e, .int .i64 y.f, .int .i64 y.g, .int .i64 y.h, .int .i64 y.r] 32))
  replace B := thenB B (belowA (w.alloc (.cells #[.int .i64 x.a, .int .i64 x.b, .int .i64 x.c, .int .i64 x.d, .int .i64 x.e, .int .i64 x.f, .int .i64 x.g, .int .i64 x.h, .int .i64 x.r] 32)) (.cells #[.int .i64 y.a, .int .i64 y.b, .int .i64 y.c, .int .i64 y.d, .int .i64 y.e, .int .i64 y.f, .int .i64 y.g, .int .i64 y.h, .int .i64 y.r] 32))
  have VY : V ((w.alloc (.cells #[.int .i64 x.a, .int .i64 x.b, .int .i64 x.c, .int .i64 x.d, .int .i64 x.e, .int .i64 x.f, .int .i64 x.g, .int .i64 x.h, .int .i64 x.r] 32)).alloc (.cells #[.int .i64 y.a, .int .i64 y.b, .int .i64 y.c, .int .i64 y.d, .int .i64 y.e, .int .i64 y.f, .int .i64 y.g, .int .i64 y.h, .int .i64 y.r] 32)) (w.heap.size + 1) [.int .i64 y.a, .int .i64 y.b, .int .i64 y.c, .int .i64 y.d, .int .i64 y.e, .int .i64 y.f, .int .i64 y.g, .int .i64 y.h, .int .i64 y.r] := V.newAt _ _ _ _ (by simp)
  replace VX := VX.kept (belowA ((w.alloc (.cells #[.int .i64 x.a, .int .i64 x.b, .int .i64 x.c, .int .i64 x.d, .int .i64 x.e, .int .i64 x.f, .int .i64 x.g, .int .i64 x.h, .int .i64 x.r] 32)).alloc (.cells #[.int .i64 y.a, .int .i64 y.b, .int .i64 y.c, .int .i64 y.d, .int .i64 y.e, .int .i64 y.f, .int .i64 y.g, .int .i64 y.h, .int .i64 y.r] 32)) (.cells #[.int .i64 0, .int .i64 0, .int .i64 0, .int .i64 0, .int .i64 0, .int .i64 0, .int .i64 0, .int .i64 0, .int .i64 0, .int .i64 0] 108))
  replace VY := VY.kept (belowA ((w.alloc (.cells #[.int .i64 x.a, .int .i64 x.b, .int .i64 x.c, .int .i64 x.d, .int .i64 x.e, .int .i64 x.f, .int .i64 x.g, .int .i64 x.h, .int .i64 x.r] 32)).alloc (.cells #[.int .i64 y.a, .int .i64 y.b, .int .i64 y.c, .int .i64 y.d, .int .i64 y.e, .int .i64 y.f, .int .i64 y.g, .int .i64 y.h, .int .i64 y.r] 32)) (.cells #[.int .i64 0, .int .i64 0, .int .i64 0, .int .i64 0, .int .i64 0, .int .i64 0, .int .i64 0, .int .i64 0, .int .i64 0, .int .i64 0] 108))
  replace B := thenB B (belowA ((w.alloc (.cells #[.int .i64 x.a, .int .i64 x.b, .int .i64 x.c, .int .i64 x.d, .int .i64 x.e, .int .i64 x.f, .int .i64 x.g, .int .i64 x.h, .int .i64 x.r] 32)).alloc (.cells #[.int .i64 y.a, .int .i64 y.b, .int .i64 y.c, .int .i64 y.d, .int .i64 y.e, .int .i64 y.f, .int .i64 y.g, .int .i64 y.h, .int .i64 y.r] 32)) (.cells #[.int .i64 0, .int .i64 0, .int .i64 0, .int .i64 0, .int .i64 0, .int .i64 0, .int .i64 0, .int .i64 0, .int .i64 0, .int .i64 0] 108))
  have VR : V (((w.alloc (.cells #[.int .i64 x.a, .int .i64 x.b, .int .i64 x.c, .int .i64 x.d, .int .i64 x.e, .int .i64 x.f, .int .i64 x.g, .int .i64 x.h, .int .i64 x.r] 32)).alloc (.cells #[.int .i64 y.a, .int .i64 y.b, .int .i64 y.c, .int .i64 y.d, .int .i64 y.e, .int .i64 y.f, .int .i64 y.g, .int .i64 y.h, .int .i64 y.r] 32)).alloc (.cells #[.int .i64 0, .int .i64 0, .int .i64 0, .int .i64 0, .int .i64 0, .int .i64 0, .int .i64 0, .int .i64 0, .int .i64 0, .int .i64 0] 108)) (w.heap.size + 1 + 1) [.int .i64 0, .int .i64 0, .int .i64 0, .int .i64 0, .int .i64 0, .int .i64 0, .int .i64 0, .int .i64 0, .int .i64 0, .int .i64 0] := V.newAt _ _ _ _ (by simp)
  obtain ⟨s_VX, f_VX, z_VX⟩ := VX.open
  obtain ⟨s_VY, f_VY, z_VY⟩ := VY.open
  obtain ⟨s_VR, f_VR, z_VR⟩ := VR.open
  go_wp2_with fail
  refine (CX.out _).mono ?_
  rintro e w1 ⟨rfl, b1⟩
  clear s_VX f_VX z_VX s_VY f_VY z_VY s_VR f_VR z_VR
  have S1 := b1.size
  simp only [World.size_alloc] at S1
  replace VX := VX.kept b1
  replace VY := VY.kept b1
  replace VR := VR.kept b1
  replace B := thenB B b1
  clear b1
  obtain ⟨s_VX, f_VX, z_VX⟩ := VX.open
  obtain ⟨s_VY, f_VY, z_VY⟩ := VY.open
  obtain ⟨s_VR, f_VR, z_VR⟩ := VR.open
  have Bo := B
  go_wp2_with fail
  refine (CY.out _).mono ?_
  rintro e w2 ⟨rfl, b2⟩
  clear s_VX f_VX z_VX s_VY f_VY z_VY s_VR f_VR z_VR
  have S2 := b2.size
  replace VX := VX.kept b2
  replace VY := VY.kept b2
  replace VR := VR.kept b2
  replace B := thenB B b2
  clear b2
  obtain ⟨s_VX, f_VX, z_VX⟩ := VX.open
  obtain ⟨s_VY, f_VY, z_VY⟩ := VY.open
  obtain ⟨s_VR, f_VR, z_VR⟩ := VR.open
  have Bo := B
  clear s_VX f_VX z_VX s_VY f_VY z_VY s_VR f_VR z_VR
  have K : ∀ w' : World, Below w2.heap.size w2 w' → (w'.cell? ⟨w.heap.size, 0, none⟩ = some (.int .i64 x.a) ∧ w'.cell? ⟨w.heap.size, 1, none⟩ = some (.int .i64 x.b) ∧ w'.cell? ⟨w.heap.size, 2, none⟩ = some (.int .i64 x.c) ∧ w'.cell? ⟨w.heap.size, 3, none⟩ = some (.int .i64 x.d) ∧ w'.cell? ⟨w.heap.size, 4, none⟩ = some (.int .i64 x.e) ∧ w'.cell? ⟨w.heap.size, 5, none⟩ = some (.int .i64 x.f) ∧ w'.cell? ⟨w.heap.size, 6, none⟩ = some (.int .i64 x.g) ∧ w'.cell? ⟨w.heap.size, 7, none⟩ = some (.int .i64 x.h) ∧ w'.cell? ⟨w.heap.size, 8, none⟩ = some (.int .i64 x.r) ∧ w'.cell? ⟨w.heap.size + 1, 0, none⟩ = some (.int .i64 y.a) ∧ w'.cell? ⟨w.heap.size + 1, 1, none⟩ = some (.int .i64 y.b) ∧ w'.cell? ⟨w.heap.size + 1, 2, none⟩ = some (.int .i64 y.c) ∧ w'.cell? ⟨w.heap.size + 1, 3, none⟩ = some (.int .i64 y.d) ∧ w'.cell? ⟨w.heap.size + 1, 4, none⟩ = some (.int .i64 y.e) ∧ w'.cell? ⟨w.heap.size + 1, 5, none⟩ = some (.int .i64 y.f) ∧ w'.cell? ⟨w.heap.size + 1, 6, none⟩ = some (.int .i64 y.g) ∧ w'.cell? ⟨w.heap.size + 1, 7, none⟩ = some (.int .i64 y.h) ∧ w'.cell? ⟨w.heap.size + 1, 8, none⟩ = some (.int .i64 y.r)) := fun w' h => ⟨(VX.kept h).2.1 0 (by simp), (VX.kept h).2.1 1 (by simp), (VX.kept h).2.1 2 (by simp), (VX.kept h).2.1 3 (by simp), (VX.kept h).2.1 4 (by simp), (VX.kept h).2.1 5 (by simp), (VX.kept h).2.1 6 (by simp), (VX.kept h).2.1 7 (by simp), (VX.kept h).2.1 8 (by simp), (VY.kept h).2.1 0 (by simp), (VY.kept h).2.1 1 (by simp), (VY.kept h).2.1 2 (by simp), (VY.kept h).2.1 3 (by simp), (VY.kept h).2.1 4 (by simp), (VY.kept h).2.1 5 (by simp), (VY.kept h).2.1 6 (by simp), (VY.kept h).2.1 7 (by simp), (VY.kept h).2.1 8 (by simp)⟩
  have K := Hid.mk K
  clear Bo
  go_upto_region 7 with fail
  go_cut [7] (fun p wx => ∃ P, p = .pointer (some ⟨P, 0, none⟩) ∧ V wx P [.int .i64 m0, .int .i64 m1, .int .i64 m2, .int .i64 m3, .int .i64 m4, .int .i64 m5, .int .i64 m6, .int .i64 m7] ∧ V wx w.heap.size [.int .i64 x.a, .int .i64 x.b, .int .i64 x.c, .int .i64 x.d, .int .i64 x.e, .int .i64 x.f, .int .i64 x.g, .int .i64 x.h, .int .i64 x.r] ∧ V wx (w.heap.size + 1) [.int .i64 y.a, .int .i64 y.b, .int .i64 y.c, .int .i64 y.d, .int .i64 y.e, .int .i64 y.f, .int .i64 y.g, .int .i64 y.h, .int .i64 y.r] ∧ V wx (w.heap.size + 1 + 1) [.int .i64 0, .int .i64 0, .int .i64 0, .int .i64 0, .int .i64 0, .int .i64 0, .int .i64 0, .int .i64 0, .int .i64 0, .int .i64 0] ∧ Below w.heap.size w wx ∧ w.heap.size + 1 + 1 < P)
  case first =>
    go_region_held3 (fun w' => w'.cell? ⟨w.heap.size, 0, none⟩ = some (.int .i64 x.a) ∧ w'.cell? ⟨w.heap.size, 1, none⟩ = some (.int .i64 x.b) ∧ w'.cell? ⟨w.heap.size, 2, none⟩ = some (.int .i64 x.c) ∧ w'.cell? ⟨w.heap.size, 3, none⟩ = some (.int .i64 x.d) ∧ w'.cell? ⟨w.heap.size, 4, none⟩ = some (.int .i64 x.e) ∧ w'.cell? ⟨w.heap.size, 5, none⟩ = some (.int .i64 x.f) ∧ w'.cell? ⟨w.heap.size, 6, none⟩ = some (.int .i64 x.g) ∧ w'.cell? ⟨w.heap.size, 7, none⟩ = some (.int .i64 x.h) ∧ w'.cell? ⟨w.heap.size, 8, none⟩ = some (.int .i64 x.r) ∧ w'.cell? ⟨w.heap.size + 1, 0, none⟩ = some (.int .i64 y.a) ∧ w'.cell? ⟨w.heap.size + 1, 1, none⟩ = some (.int .i64 y.b) ∧ w'.cell? ⟨w.heap.size + 1, 2, none⟩ = some (.int .i64 y.c) ∧ w'.cell? ⟨w.heap.size + 1, 3, none⟩ = some (.int .i64 y.d) ∧ w'.cell? ⟨w.heap.size + 1, 4, none⟩ = some (.int .i64 y.e) ∧ w'.cell? ⟨w.heap.size + 1, 5, none⟩ = some (.int .i64 y.f) ∧ w'.cell? ⟨w.heap.size + 1, 6, none⟩ = some (.int .i64 y.g) ∧ w'.cell? ⟨w.heap.size + 1, 7, none⟩ = some (.int .i64 y.h) ∧ w'.cell? ⟨w.heap.size + 1, 8, none⟩ = some (.int .i64 y.r)) ((refine K.out _ ?_; (repeat' first | with_reducible exact Below.refl _ _ | with_reducible refine Below.drew ?_ | with_reducible refine Below.setCell ?_ ?_ _ | with_reducible refine thenB ?_ bc | with_reducible refine thenB ?_ bb | with_reducible refine thenB ?_ ba | with_reducible refine thenB ?_ (belowA _ _) | (simp; try omega)))) (first | (go_at_call 108; refine (CC.out _).mono ?_; rintro e wc ⟨rfl, bc⟩; obtain ⟨hcc, hfc⟩ := bcell bc; have hsc := bc.size; (try simp at hsc); (try have hsc' : w2.heap.size < wc.heap.size := by omega); (try have hsq : wa.heap.size < wc.heap.size := by omega); (try have hsr : wb.heap.size < wc.heap.size := by omega)) | (go_at_call 60; have hz := ba; clear hz; refine (spansOf_ok y _).mono ?_; rintro e wb ⟨rfl, bb⟩; obtain ⟨hcb, hfb⟩ := bcell bb; have hsb := bb.size; (try simp at hsb); (try have hsb' : w2.heap.size < wb.heap.size := by omega); (try have hsp : wa.heap.size < wb.heap.size := by omega)) | (go_at_call 60; refine (spansOf_ok x _).mono ?_; rintro e wa ⟨rfl, ba⟩; obtain ⟨hca, hfa⟩ := bcell ba; have hsa := ba.size; (try simp at hsa); (try have hsa' : w2.heap.size < wa.heap.size := by omega)))
    all_goals
      go_wp2_with fail
      go_meet
      have hvr := VR.1
      refine ⟨_, rfl, ?_, ?_, ?_, ?_, ?_, ?_⟩
      · first | with_reducible exact V.new _ _ _ | with_reducible refine V.fill8 (z0 := .int .i64 0) (z1 := .int .i64 0) (z2 := .int .i64 0) (z3 := .int .i64 0) (z4 := .int .i64 0) (z5 := .int .i64 0) (z6 := .int .i64 0) (z7 := .int .i64 0) ?_ _ _ _ _ _ _ _ _
        all_goals (try (repeat' first | with_reducible exact V.new _ _ _ | with_reducible refine V.kept ?_ bc | with_reducible refine V.kept ?_ bb | with_reducible refine V.kept ?_ ba | with_reducible refine V.kept ?_ ((Below.refl _ _).drew)))
      · repeat' first | with_reducible exact VX | with_reducible exact VY | with_reducible exact VR | with_reducible exact V.new _ _ _ | with_reducible refine V.other ?_ ?_ _ | with_reducible refine V.kept ?_ bc | with_reducible refine V.kept ?_ bb | with_reducible refine V.kept ?_ ba | with_reducible refine V.kept ?_ (belowA _ _) | with_reducible refine V.kept ?_ ((Below.refl _ _).drew) | (simp; done) | (simp; omega)
      · repeat' first | with_reducible exact VX | with_reducible exact VY | with_reducible exact VR | with_reducible exact V.new _ _ _ | with_reducible refine V.other ?_ ?_ _ | with_reducible refine V.kept ?_ bc | with_reducible refine V.kept ?_ bb | with_reducible refine V.kept ?_ ba | with_reducible refine V.kept ?_ (belowA _ _) | with_reducible refine V.kept ?_ ((Below.refl _ _).drew) | (simp; done) | (simp; omega)
      · repeat' first | with_reducible exact VX | with_reducible exact VY | with_reducible exact VR | with_reducible exact V.new _ _ _ | with_reducible refine V.other ?_ ?_ _ | with_reducible refine V.kept ?_ bc | with_reducible refine V.kept ?_ bb | with_reducible refine V.kept ?_ ba | with_reducible refine V.kept ?_ (belowA _ _) | with_reducible refine V.kept ?_ ((Below.refl _ _).drew) | (simp; done) | (simp; omega)
      · refine thenB B ?_
        repeat' first | with_reducible exact Below.refl _ _ | with_reducible refine Below.drew ?_ | with_reducible refine Below.setCell ?_ ?_ _ | with_reducible refine thenB ?_ bc | with_reducible refine thenB ?_ bb | with_reducible refine thenB ?_ ba | with_reducible refine thenB ?_ (belowA _ _) | (simp; try omega)
      · first | exact hvr | (simp; omega) | omega
  case rest =>
    clear VX VY VR B K
    obtain ⟨P, rfl, VP, VX, VY, VR, B, hP⟩ := hcut
    have CN := Hid.mk (fun w => narrowerProto_ok x.r y.r w)
    rw [HR.out] at CN
    obtain ⟨s_VX, f_VX, z_VX⟩ := VX.open
    obtain ⟨s_VY, f_VY, z_VY⟩ := VY.open
    obtain ⟨s_VR, f_VR, z_VR⟩ := VR.open
    obtain ⟨s_VP, f_VP, z_VP⟩ := VP.open
    have Bo := B
    go_wp2_with fail
    refine (areRising_ok m0 m1 m2 m3 m4 m5 m6 m7 _).mono ?_
    rintro e w3 ⟨rfl, b3⟩
    clear s_VX f_VX z_VX s_VY f_VY z_VY s_VR f_VR z_VR s_VP f_VP z_VP
    have S3 := b3.size
    replace VX := VX.kept b3
    replace VY := VY.kept b3
    replace VR := VR.kept b3
    replace VP := VP.kept b3
    replace B := thenB B b3
    clear b3
    obtain ⟨s_VX, f_VX, z_VX⟩ := VX.open
    obtain ⟨s_VY, f_VY, z_VY⟩ := VY.open
    obtain ⟨s_VR, f_VR, z_VR⟩ := VR.open
    obtain ⟨s_VP, f_VP, z_VP⟩ := VP.open
    have Bo := B
    rcases hW with ⟨h3, rfl, rfl⟩ | ⟨h3, h4, h5, rfl, rfl⟩ | ⟨h3, h4, h6, rfl, rfl⟩ | ⟨h3, h4, h6, h7, rfl, rfl⟩ | ⟨h3, h4, h6, h7, rfl, rfl⟩
    · rw [h3]
      go_wp2
      refine bodyPost_ret (v := .agg #[.int .i64 4, .int .i64 0, .int .i64 0, .int .i64 0, .int .i64 0, .int .i64 0, .int .i64 0, .int .i64 0, .int .i64 0, .int .i64 0]) (by first | (simp [results, Tryd.results113, go_sem]; done) | simp [results, Tryd.results113, go_sem, f_VR]) rfl ⟨by first | rfl | rw [zeroS_is], ?_⟩
      repeat' first | with_reducible exact Bo | with_reducible refine Below.setCell ?_ ?_ _ | with_reducible refine Below.alloc ?_ ?_ _ | with_reducible refine Below.drew ?_ | (simp; try omega)
    · rw [h3]
      go_wp2_with (first | (go_at_call 61; refine (takesProto_ok _ _ _).mono ?_; rintro e w3 ⟨rfl, rfl⟩) | (go_at_call 136; refine (CN.out _).mono ?_; rintro e w3 ⟨rfl, rfl⟩) | (go_at_call 106; refine (lacksPorts_ok _ _).mono ?_; rintro e w3 ⟨rfl, rfl⟩) | fail)
      refine bodyPost_ret (v := .agg #[.int .i64 4, .int .i64 0, .int .i64 0, .int .i64 0, .int .i64 0, .int .i64 0, .int .i64 0, .int .i64 0, .int .i64 0, .int .i64 0]) (by first | (simp [results, Tryd.results113, go_sem]; done) | simp [results, Tryd.results113, go_sem, f_VR]) rfl ⟨by first | rfl | rw [zeroS_is], ?_⟩
      repeat' first | with_reducible exact Bo | with_reducible refine Below.setCell ?_ ?_ _ | with_reducible refine Below.alloc ?_ ?_ _ | with_reducible refine Below.drew ?_ | (simp; try omega)
    · rw [h3]
      rcases h4 with h4 | ⟨h4, h5⟩
      · have CZ := selOf_ok ⟨m0, m1, m2, m3, m4, m5, m6, m7, r⟩
        dsimp only at CZ
        replace CZ := Hid.mk CZ
        have q2 := build_res2 ⟨m0, m1, m2, m3, m4, m5, m6, m7, r⟩
        dsimp only at q2
        go_wp2_with (first | (go_at_call 61; refine (takesProto_ok _ _ _).mono ?_; rintro e w3 ⟨rfl, rfl⟩) | (go_at_call 136; refine (CN.out _).mono ?_; rintro e w3 ⟨rfl, rfl⟩) | (go_at_call 106; refine (lacksPorts_ok _ _).mono ?_; rintro e w3 ⟨rfl, rfl⟩) | fail)
        refine (CZ.out _).mono ?_
        rintro e w4 ⟨rfl, b4⟩
        clear s_VX f_VX z_VX s_VY f_VY z_VY s_VR f_VR z_VR s_VP f_VP z_VP
        have S4 := b4.size
        replace VX := VX.kept b4
        replace VY := VY.kept b4
        replace VR := VR.kept b4
        replace VP := VP.kept b4
        replace B := thenB B b4
        clear b4
        obtain ⟨s_VX, f_VX, z_VX⟩ := VX.open
        obtain ⟨s_VY, f_VY, z_VY⟩ := VY.open
        obtain ⟨s_VR, f_VR, z_VR⟩ := VR.open
        obtain ⟨s_VP, f_VP, z_VP⟩ := VP.open
        have Bo := B
        go_wp2
        refine bodyPost_ret (v := .agg #[.int .i64 0, .int .i64 m0, .int .i64 m1, .int .i64 m2, .int .i64 m3, .int .i64 m4, .int .i64 m5, .int .i64 m6, .int .i64 m7, .int .i64 r]) (by first | (simp [results, Tryd.results113, go_sem]; done) | simp [results, Tryd.results113, go_sem, f_VR]) rfl ⟨by first | rfl | rw [zeroS_is], ?_⟩
        repeat' first | with_reducible exact Bo | with_reducible refine Below.setCell ?_ ?_ _ | with_reducible refine Below.alloc ?_ ?_ _ | with_reducible refine Below.drew ?_ | (simp; try omega)
      · have CZ := selOf_ok ⟨m0, m1, m2, m3, m4, m5, m6, m7, r⟩
        dsimp only at CZ
        replace CZ := Hid.mk CZ
        have q2 := build_res2 ⟨m0, m1, m2, m3, m4, m5, m6, m7, r⟩
        dsimp only at q2
        go_wp2_with (first | (go_at_call 61; refine (takesProto_ok _ _ _).mono ?_; rintro e w3 ⟨rfl, rfl⟩) | (go_at_call 136; refine (CN.out _).mono ?_; rintro e w3 ⟨rfl, rfl⟩) | (go_at_call 106; refine (lacksPorts_ok _ _).mono ?_; rintro e w3 ⟨rfl, rfl⟩) | fail)
        refine (CZ.out _).mono ?_
        rintro e w4 ⟨rfl, b4⟩
        clear s_VX f_VX z_VX s_VY f_VY z_VY s_VR f_VR z_VR s_VP f_VP z_VP
        have S4 := b4.size
        replace VX := VX.kept b4
        replace VY := VY.kept b4
        replace VR := VR.kept b4
        replace VP := VP.kept b4
        replace B := thenB B b4
        clear b4
        obtain ⟨s_VX, f_VX, z_VX⟩ := VX.open
        obtain ⟨s_VY, f_VY, z_VY⟩ := VY.open
        obtain ⟨s_VR, f_VR, z_VR⟩ := VR.open
        obtain ⟨s_VP, f_VP, z_VP⟩ := VP.open
        have Bo := B
        go_wp2
        refine bodyPost_ret (v := .agg #[.int .i64 0, .int .i64 m0, .int .i64 m1, .int .i64 m2, .int .i64 m3, .int .i64 m4, .int .i64 m5, .int .i64 m6, .int .i64 m7, .int .i64 r]) (by first | (simp [results, Tryd.results113, go_sem]; done) | simp [results, Tryd.results113, go_sem, f_VR]) rfl ⟨by first | rfl | rw [zeroS_is], ?_⟩
        repeat' first | with_reducible exact Bo | with_reducible refine Below.setCell ?_ ?_ _ | with_reducible refine Below.alloc ?_ ?_ _ | with_reducible refine Below.drew ?_ | (simp; try omega)
    · rw [h3]
      rcases h4 with h4 | ⟨h4, h5⟩
      · skip
        go_wp2_with (first | (go_at_call 61; refine (takesProto_ok _ _ _).mono ?_; rintro e w3 ⟨rfl, rfl⟩) | (go_at_call 136; refine (CN.out _).mono ?_; rintro e w3 ⟨rfl, rfl⟩) | (go_at_call 106; refine (lacksPorts_ok _ _).mono ?_; rintro e w3 ⟨rfl, rfl⟩) | fail)
        refine (holdPortNought_ok m0 m1 m2 m3 m4 m5 m6 m7 _).mono ?_
        rintro e w4 ⟨rfl, b4⟩
        clear s_VX f_VX z_VX s_VY f_VY z_VY s_VR f_VR z_VR s_VP f_VP z_VP
        have S4 := b4.size
        replace VX := VX.kept b4
        replace VY := VY.kept b4
        replace VR := VR.kept b4
        replace VP := VP.kept b4
        replace B := thenB B b4
        clear b4
        obtain ⟨s_VX, f_VX, z_VX⟩ := VX.open
        obtain ⟨s_VY, f_VY, z_VY⟩ := VY.open
        obtain ⟨s_VR, f_VR, z_VR⟩ := VR.open
        obtain ⟨s_VP, f_VP, z_VP⟩ := VP.open
        have Bo := B
        rw [h7]
        go_wp2
        refine bodyPost_ret (v := .agg #[.int .i64 4, .int .i64 0, .int .i64 0, .int .i64 0, .int .i64 0, .int .i64 0, .int .i64 0, .int .i64 0, .int .i64 0, .int .i64 0]) (by first | (simp [results, Tryd.results113, go_sem]; done) | simp [results, Tryd.results113, go_sem, f_VR]) rfl ⟨by first | rfl | rw [zeroS_is], ?_⟩
        repeat' first | with_reducible exact Bo | with_reducible refine Below.setCell ?_ ?_ _ | with_reducible refine Below.alloc ?_ ?_ _ | with_reducible refine Below.drew ?_ | (simp; try omega)
      · skip
        go_wp2_with (first | (go_at_call 61; refine (takesProto_ok _ _ _).mono ?_; rintro e w3 ⟨rfl, rfl⟩) | (go_at_call 136; refine (CN.out _).mono ?_; rintro e w3 ⟨rfl, rfl⟩) | (go_at_call 106; refine (lacksPorts_ok _ _).mono ?_; rintro e w3 ⟨rfl, rfl⟩) | fail)
        refine (holdPortNought_ok m0 m1 m2 m3 m4 m5 m6 m7 _).mono ?_
        rintro e w4 ⟨rfl, b4⟩
        clear s_VX f_VX z_VX s_VY f_VY z_VY s_VR f_VR z_VR s_VP f_VP z_VP
        have S4 := b4.size
        replace VX := VX.kept b4
        replace VY := VY.kept b4
        replace VR := VR.kept b4
        replace VP := VP.kept b4
        replace B := thenB B b4
        clear b4
        obtain ⟨s_VX, f_VX, z_VX⟩ := VX.open
        obtain ⟨s_VY, f_VY, z_VY⟩ := VY.open
        obtain ⟨s_VR, f_VR, z_VR⟩ := VR.open
        obtain ⟨s_VP, f_VP, z_VP⟩ := VP.open
        have Bo := B
        rw [h7]
        go_wp2
        refine bodyPost_ret (v := .agg #[.int .i64 4, .int .i64 0, .int .i64 0, .int .i64 0, .int .i64 0, .int .i64 0, .int .i64 0, .int .i64 0, .int .i64 0, .int .i64 0]) (by first | (simp [results, Tryd.results113, go_sem]; done) | simp [results, Tryd.results113, go_sem, f_VR]) rfl ⟨by first | rfl | rw [zeroS_is], ?_⟩
        repeat' first | with_reducible exact Bo | with_reducible refine Below.setCell ?_ ?_ _ | with_reducible refine Below.alloc ?_ ?_ _ | with_reducible refine Below.drew ?_ | (simp; try omega)
    · rw [h3]
      rcases h4 with h4 | ⟨h4, h5⟩
      · have CZ := selOf_ok ⟨m0, m1, m2, m3, 0, 65535, 0, 65535, r⟩
        dsimp only at CZ
        replace CZ := Hid.mk CZ
        have q2 := build_res2 ⟨m0, m1, m2, m3, 0, 65535, 0, 65535, r⟩
        dsimp only at q2
        go_wp2_with (first | (go_at_call 61; refine (takesProto_ok _ _ _).mono ?_; rintro e w3 ⟨rfl, rfl⟩) | (go_at_call 136; refine (CN.out _).mono ?_; rintro e w3 ⟨rfl, rfl⟩) | (go_at_call 106; refine (lacksPorts_ok _ _).mono ?_; rintro e w3 ⟨rfl, rfl⟩) | fail)
        refine (holdPortNought_ok m0 m1 m2 m3 m4 m5 m6 m7 _).mono ?_
        rintro e w4 ⟨rfl, b4⟩
        clear s_VX f_VX z_VX s_VY f_VY z_VY s_VR f_VR z_VR s_VP f_VP z_VP
        have S4 := b4.size
        replace VX := VX.kept b4
        replace VY := VY.kept b4
        replace VR := VR.kept b4
        replace VP := VP.kept b4
        replace B := thenB B b4
        clear b4
        obtain ⟨s_VX, f_VX, z_VX⟩ := VX.open
        obtain ⟨s_VY, f_VY, z_VY⟩ := VY.open
        obtain ⟨s_VR, f_VR, z_VR⟩ := VR.open
        obtain ⟨s_VP, f_VP, z_VP⟩ := VP.open
        have Bo := B
        rw [h7]
        go_wp2_with fail
        refine (withWholePorts_ok m0 m1 m2 m3 m4 m5 m6 m7 _).mono ?_
        rintro e w5 ⟨rfl, b5⟩
        clear s_VX f_VX z_VX s_VY f_VY z_VY s_VR f_VR z_VR s_VP f_VP z_VP
        have S5 := b5.size
        replace VX := VX.kept b5
        replace VY := VY.kept b5
        replace VR := VR.kept b5
        replace VP := VP.kept b5
        replace B := thenB B b5
        clear b5
        obtain ⟨s_VX, f_VX, z_VX⟩ := VX.open
        obtain ⟨s_VY, f_VY, z_VY⟩ := VY.open
        obtain ⟨s_VR, f_VR, z_VR⟩ := VR.open
        obtain ⟨s_VP, f_VP, z_VP⟩ := VP.open
        have Bo := B
        replace VX := VX.other (p := ⟨P, 0, none⟩) (by (try simp); (try omega)) (.int .i64 m0)
        replace VY := VY.other (p := ⟨P, 0, none⟩) (by (try simp); (try omega)) (.int .i64 m0)
        replace VR := VR.other (p := ⟨P, 0, none⟩) (by (try simp); (try omega)) (.int .i64 m0)
        replace VP := VP.set (i := 0) (by simp) (.int .i64 m0)
        simp only [List.set_cons_zero] at VP
        replace B := B.setCell (p := ⟨P, 0, none⟩) (by (try simp); (try omega)) (.int .i64 m0)
        replace VX := VX.other (p := ⟨P, 1, none⟩) (by (try simp); (try omega)) (.int .i64 m1)
        replace VY := VY.other (p := ⟨P, 1, none⟩) (by (try simp); (try omega)) (.int .i64 m1)
        replace VR := VR.other (p := ⟨P, 1, none⟩) (by (try simp); (try omega)) (.int .i64 m1)
        replace VP := VP.set (i := 1) (by simp) (.int .i64 m1)
        simp only [List.set_cons_zero, List.set_cons_succ] at VP
        replace B := B.setCell (p := ⟨P, 1, none⟩) (by (try simp); (try omega)) (.int .i64 m1)
        replace VX := VX.other (p := ⟨P, 2, none⟩) (by (try simp); (try omega)) (.int .i64 m2)
        replace VY := VY.other (p := ⟨P, 2, none⟩) (by (try simp); (try omega)) (.int .i64 m2)
        replace VR := VR.other (p := ⟨P, 2, none⟩) (by (try simp); (try omega)) (.int .i64 m2)
        replace VP := VP.set (i := 2) (by simp) (.int .i64 m2)
        simp only [List.set_cons_zero, List.set_cons_succ] at VP
        replace B := B.setCell (p := ⟨P, 2, none⟩) (by (try simp); (try omega)) (.int .i64 m2)
        replace VX := VX.other (p := ⟨P, 3, none⟩) (by (try simp); (try omega)) (.int .i64 m3)
        replace VY := VY.other (p := ⟨P, 3, none⟩) (by (try simp); (try omega)) (.int .i64 m3)
        replace VR := VR.other (p := ⟨P, 3, none⟩) (by (try simp); (try omega)) (.int .i64 m3)
        replace VP := VP.set (i := 3) (by simp) (.int .i64 m3)
        simp only [List.set_cons_zero, List.set_cons_succ] at VP
        replace B := B.setCell (p := ⟨P, 3, none⟩) (by (try simp); (try omega)) (.int .i64 m3)
        replace VX := VX.other (p := ⟨P, 4, none⟩) (by (try simp); (try omega)) (.int .i64 0)
        replace VY := VY.other (p := ⟨P, 4, none⟩) (by (try simp); (try omega)) (.int .i64 0)
        replace VR := VR.other (p := ⟨P, 4, none⟩) (by (try simp); (try omega)) (.int .i64 0)
        replace VP := VP.set (i := 4) (by simp) (.int .i64 0)
        simp only [List.set_cons_zero, List.set_cons_succ] at VP
        replace B := B.setCell (p := ⟨P, 4, none⟩) (by (try simp); (try omega)) (.int .i64 0)
        replace VX := VX.other (p := ⟨P, 5, none⟩) (by (try simp); (try omega)) (.int .i64 65535)
        replace VY := VY.other (p := ⟨P, 5, none⟩) (by (try simp); (try omega)) (.int .i64 65535)
        replace VR := VR.other (p := ⟨P, 5, none⟩) (by (try simp); (try omega)) (.int .i64 65535)
        replace VP := VP.set (i := 5) (by simp) (.int .i64 65535)
        simp only [List.set_cons_zero, List.set_cons_succ] at VP
        replace B := B.setCell (p := ⟨P, 5, none⟩) (by (try simp); (try omega)) (.int .i64 65535)
        replace VX := VX.other (p := ⟨P, 6, none⟩) (by (try simp); (try omega)) (.int .i64 0)
        replace VY := VY.other (p := ⟨P, 6, none⟩) (by (try simp); (try omega)) (.int .i64 0)
        replace VR := VR.other (p := ⟨P, 6, none⟩) (by (try simp); (try omega)) (.int .i64 0)
        replace VP := VP.set (i := 6) (by simp) (.int .i64 0)
        simp only [List.set_cons_zero, List.set_cons_succ] at VP
        replace B := B.setCell (p := ⟨P, 6, none⟩) (by (try simp); (try omega)) (.int .i64 0)
        replace VX := VX.other (p := ⟨P, 7, none⟩) (by (try simp); (try omega)) (.int .i64 65535)
        replace VY := VY.other (p := ⟨P, 7, none⟩) (by (try simp); (try omega)) (.int .i64 65535)
        replace VR := VR.other (p := ⟨P, 7, none⟩) (by (try simp); (try omega)) (.int .i64 65535)
        replace VP := VP.set (i := 7) (by simp) (.int .i64 65535)
        simp only [List.set_cons_zero, List.set_cons_succ] at VP
        replace B := B.setCell (p := ⟨P, 7, none⟩) (by (try simp); (try omega)) (.int .i64 65535)
        go_wp2_with fail
        refine (CZ.out _).mono ?_
        rintro e w6 ⟨rfl, b6⟩
        clear s_VX f_VX z_VX s_VY f_VY z_VY s_VR f_VR z_VR s_VP f_VP z_VP
        have S6 := b6.size
        simp only [World.size_setCell] at S6
        replace VX := VX.kept b6
        replace VY := VY.kept b6
        replace VR := VR.kept b6
        replace VP := VP.kept b6
        replace B := thenB B b6
        clear b6
        obtain ⟨s_VX, f_VX, z_VX⟩ := VX.open
        obtain ⟨s_VY, f_VY, z_VY⟩ := VY.open
        obtain ⟨s_VR, f_VR, z_VR⟩ := VR.open
        obtain ⟨s_VP, f_VP, z_VP⟩ := VP.open
        have Bo := B
        go_wp2
        refine bodyPost_ret (v := .agg #[.int .i64 0, .int .i64 m0, .int .i64 m1, .int .i64 m2, .int .i64 m3, .int .i64 0, .int .i64 65535, .int .i64 0, .int .i64 65535, .int .i64 r]) (by first | (simp [results, Tryd.results113, go_sem]; done) | simp [results, Tryd.results113, go_sem, f_VR]) rfl ⟨by first | rfl | rw [zeroS_is], ?_⟩
        repeat' first | with_reducible exact Bo | with_reducible refine Below.setCell ?_ ?_ _ | with_reducible refine Below.alloc ?_ ?_ _ | with_reducible refine Below.drew ?_ | (simp; try omega)
      · have CZ := selOf_ok ⟨m0, m1, m2, m3, 0, 65535, 0, 65535, r⟩
        dsimp only at CZ
        replace CZ := Hid.mk CZ
        have q2 := build_res2 ⟨m0, m1, m2, m3, 0, 65535, 0, 65535, r⟩
        dsimp only at q2
        go_wp2_with (first | (go_at_call 61; refine (takesProto_ok _ _ _).mono ?_; rintro e w3 ⟨rfl, rfl⟩) | (go_at_call 136; refine (CN.out _).mono ?_; rintro e w3 ⟨rfl, rfl⟩) | (go_at_call 106; refine (lacksPorts_ok _ _).mono ?_; rintro e w3 ⟨rfl, rfl⟩) | fail)
        refine (holdPortNought_ok m0 m1 m2 m3 m4 m5 m6 m7 _).mono ?_
        rintro e w4 ⟨rfl, b4⟩
        clear s_VX f_VX z_VX s_VY f_VY z_VY s_VR f_VR z_VR s_VP f_VP z_VP
        have S4 := b4.size
        replace VX := VX.kept b4
        replace VY := VY.kept b4
        replace VR := VR.kept b4
        replace VP := VP.kept b4
        replace B := thenB B b4
        clear b4
        obtain ⟨s_VX, f_VX, z_VX⟩ := VX.open
        obtain ⟨s_VY, f_VY, z_VY⟩ := VY.open
        obtain ⟨s_VR, f_VR, z_VR⟩ := VR.open
        obtain ⟨s_VP, f_VP, z_VP⟩ := VP.open
        have Bo := B
        rw [h7]
        go_wp2_with fail
        refine (withWholePorts_ok m0 m1 m2 m3 m4 m5 m6 m7 _).mono ?_
        rintro e w5 ⟨rfl, b5⟩
        clear s_VX f_VX z_VX s_VY f_VY z_VY s_VR f_VR z_VR s_VP f_VP z_VP
        have S5 := b5.size
        replace VX := VX.kept b5
        replace VY := VY.kept b5
        replace VR := VR.kept b5
        replace VP := VP.kept b5
        replace B := thenB B b5
        clear b5
        obtain ⟨s_VX, f_VX, z_VX⟩ := VX.open
        obtain ⟨s_VY, f_VY, z_VY⟩ := VY.open
        obtain ⟨s_VR, f_VR, z_VR⟩ := VR.open
        obtain ⟨s_VP, f_VP, z_VP⟩ := VP.open
        have Bo := B
        replace VX := VX.other (p := ⟨P, 0, none⟩) (by (try simp); (try omega)) (.int .i64 m0)
        replace VY := VY.other (p := ⟨P, 0, none⟩) (by (try simp); (try omega)) (.int .i64 m0)
        replace VR := VR.other (p := ⟨P, 0, none⟩) (by (try simp); (try omega)) (.int .i64 m0)
        replace VP := VP.set (i := 0) (by simp) (.int .i64 m0)
        simp only [List.set_cons_zero] at VP
        replace B := B.setCell (p := ⟨P, 0, none⟩) (by (try simp); (try omega)) (.int .i64 m0)
        replace VX := VX.other (p := ⟨P, 1, none⟩) (by (try simp); (try omega)) (.int .i64 m1)
        replace VY := VY.other (p := ⟨P, 1, none⟩) (by (try simp); (try omega)) (.int .i64 m1)
        replace VR := VR.other (p := ⟨P, 1, none⟩) (by (try simp); (try omega)) (.int .i64 m1)
        replace VP := VP.set (i := 1) (by simp) (.int .i64 m1)
        simp only [List.set_cons_zero, List.set_cons_succ] at VP
        replace B := B.setCell (p := ⟨P, 1, none⟩) (by (try simp); (try omega)) (.int .i64 m1)
        replace VX := VX.other (p := ⟨P, 2, none⟩) (by (try simp); (try omega)) (.int .i64 m2)
        replace VY := VY.other (p := ⟨P, 2, none⟩) (by (try simp); (try omega)) (.int .i64 m2)
        replace VR := VR.other (p := ⟨P, 2, none⟩) (by (try simp); (try omega)) (.int .i64 m2)
        replace VP := VP.set (i := 2) (by simp) (.int .i64 m2)
        simp only [List.set_cons_zero, List.set_cons_succ] at VP
        replace B := B.setCell (p := ⟨P, 2, none⟩) (by (try simp); (try omega)) (.int .i64 m2)
        replace VX := VX.other (p := ⟨P, 3, none⟩) (by (try simp); (try omega)) (.int .i64 m3)
        replace VY := VY.other (p := ⟨P, 3, none⟩) (by (try simp); (try omega)) (.int .i64 m3)
        replace VR := VR.other (p := ⟨P, 3, none⟩) (by (try simp); (try omega)) (.int .i64 m3)
        replace VP := VP.set (i := 3) (by simp) (.int .i64 m3)
        simp only [List.set_cons_zero, List.set_cons_succ] at VP
        replace B := B.setCell (p := ⟨P, 3, none⟩) (by (try simp); (try omega)) (.int .i64 m3)
        replace VX := VX.other (p := ⟨P, 4, none⟩) (by (try simp); (try omega)) (.int .i64 0)
        replace VY := VY.other (p := ⟨P, 4, none⟩) (by (try simp); (try omega)) (.int .i64 0)
        replace VR := VR.other (p := ⟨P, 4, none⟩) (by (try simp); (try omega)) (.int .i64 0)
        replace VP := VP.set (i := 4) (by simp) (.int .i64 0)
        simp only [List.set_cons_zero, List.set_cons_succ] at VP
        replace B := B.setCell (p := ⟨P, 4, none⟩) (by (try simp); (try omega)) (.int .i64 0)
        replace VX := VX.other (p := ⟨P, 5, none⟩) (by (try simp); (try omega)) (.int .i64 65535)
        replace VY := VY.other (p := ⟨P, 5, none⟩) (by (try simp); (try omega)) (.int .i64 65535)
        replace VR := VR.other (p := ⟨P, 5, none⟩) (by (try simp); (try omega)) (.int .i64 65535)
        replace VP := VP.set (i := 5) (by simp) (.int .i64 65535)
        simp only [List.set_cons_zero, List.set_cons_succ] at VP
        replace B := B.setCell (p := ⟨P, 5, none⟩) (by (try simp); (try omega)) (.int .i64 65535)
        replace VX := VX.other (p := ⟨P, 6, none⟩) (by (try simp); (try omega)) (.int .i64 0)
        replace VY := VY.other (p := ⟨P, 6, none⟩) (by (try simp); (try omega)) (.int .i64 0)
        replace VR := VR.other (p := ⟨P, 6, none⟩) (by (try simp); (try omega)) (.int .i64 0)
        replace VP := VP.set (i := 6) (by simp) (.int .i64 0)
        simp only [List.set_cons_zero, List.set_cons_succ] at VP
        replace B := B.setCell (p := ⟨P, 6, none⟩) (by (try simp); (try omega)) (.int .i64 0)
        replace VX := VX.other (p := ⟨P, 7, none⟩) (by (try simp); (try omega)) (.int .i64 65535)
        replace VY := VY.other (p := ⟨P, 7, none⟩) (by (try simp); (try omega)) (.int .i64 65535)
        replace VR := VR.other (p := ⟨P, 7, none⟩) (by (try simp); (try omega)) (.int .i64 65535)
        replace VP := VP.set (i := 7) (by simp) (.int .i64 65535)
        simp only [List.set_cons_zero, List.set_cons_succ] at VP
        replace B := B.setCell (p := ⟨P, 7, none⟩) (by (try simp); (try omega)) (.int .i64 65535)
        go_wp2_with fail
        refine (CZ.out _).mono ?_
        rintro e w6 ⟨rfl, b6⟩
        clear s_VX f_VX z_VX s_VY f_VY z_VY s_VR f_VR z_VR s_VP f_VP z_VP
        have S6 := b6.size
        simp only [World.size_setCell] at S6
        replace VX := VX.kept b6
        replace VY := VY.kept b6
        replace VR := VR.kept b6
        replace VP := VP.kept b6
        replace B := thenB B b6
        clear b6
        obtain ⟨s_VX, f_VX, z_VX⟩ := VX.open
        obtain ⟨s_VY, f_VY, z_VY⟩ := VY.open
        obtain ⟨s_VR, f_VR, z_VR⟩ := VR.open
        obtain ⟨s_VP, f_VP, z_VP⟩ := VP.open
        have Bo := B
        go_wp2
        refine bodyPost_ret (v := .agg #[.int .i64 0, .int .i64 m0, .int .i64 m1, .int .i64 m2, .int .i64 m3, .int .i64 0, .int .i64 65535, .int .i64 0, .int .i64 65535, .int .i64 r]) (by first | (simp [results, Tryd.results113, go_sem]; done) | simp [results, Tryd.results113, go_sem, f_VR]) rfl ⟨by first | rfl | rw [zeroS_is], ?_⟩
        repeat' first | with_reducible exact Bo | with_reducible refine Below.setCell ?_ ?_ _ | with_reducible refine Below.alloc ?_ ?_ _ | with_reducible refine Below.drew ?_ | (simp; try omega)

theorem meet_hW (x y : S9) (m0 m1 m2 m3 m4 m5 m6 m7 r : Int) (hm : cmS x y = ⟨m0, m1, m2, m3, m4, m5, m6, m7, r⟩) (k : Int) (Z : S9) (hk : k = cmC (tkP x.r y.r || tkP y.r x.r) (cmS x y)) (hZ : Z = if cmC (tkP x.r y.r || tkP y.r x.r) (cmS x y) = 0 then wcS (cmS x y) else zeroS) :
    (upS m0 m1 m2 m3 m4 m5 m6 m7 = false ∧ k = 4 ∧ Z = zeroS) ∨ (upS m0 m1 m2 m3 m4 m5 m6 m7 = true ∧ tkP x.r y.r = false ∧ tkP y.r x.r = false ∧ k = 4 ∧ Z = zeroS) ∨ (upS m0 m1 m2 m3 m4 m5 m6 m7 = true ∧ (tkP x.r y.r = true ∨ (tkP x.r y.r = false ∧ tkP y.r x.r = true)) ∧ bareP r = false ∧ k = 0 ∧ Z = ⟨m0, m1, m2, m3, m4, m5, m6, m7, r⟩) ∨ (upS m0 m1 m2 m3 m4 m5 m6 m7 = true ∧ (tkP x.r y.r = true ∨ (tkP x.r y.r = false ∧ tkP y.r x.r = true)) ∧ bareP r = true ∧ ((m4 == 0) && (m6 == 0)) = false ∧ k = 4 ∧ Z = zeroS) ∨ (upS m0 m1 m2 m3 m4 m5 m6 m7 = true ∧ (tkP x.r y.r = true ∨ (tkP x.r y.r = false ∧ tkP y.r x.r = true)) ∧ bareP r = true ∧ ((m4 == 0) && (m6 == 0)) = true ∧ k = 0 ∧ Z = ⟨m0, m1, m2, m3, 0, 65535, 0, 65535, r⟩) := by
  rw [hm] at hk hZ
  have hw := cmC_ways (tkP x.r y.r || tkP y.r x.r) ⟨m0, m1, m2, m3, m4, m5, m6, m7, r⟩
  have ht : (tkP x.r y.r || tkP y.r x.r) = true ↔ (tkP x.r y.r = true ∨ (tkP x.r y.r = false ∧ tkP y.r x.r = true)) := by cases tkP x.r y.r <;> cases tkP y.r x.r <;> simp
  dsimp only at hw
  rcases hw with ⟨g1, g2⟩ | ⟨g1, g2, g3⟩ | ⟨g1, g2, g3, g4⟩ | ⟨g1, g2, g3, g4, g5⟩ | ⟨g1, g2, g3, g4, g5⟩
  · rw [g2] at hk hZ; exact .inl ⟨g1, hk, by rw [hZ, if_neg (by decide)]⟩
  · rw [g3] at hk hZ
    rw [Bool.or_eq_false_iff] at g2
    exact .inr (.inl ⟨g1, g2.1, g2.2, hk, by rw [hZ, if_neg (by decide)]⟩)
  · rw [g4] at hk hZ
    exact .inr (.inr (.inl ⟨g1, ht.1 g2, g3, hk, by rw [hZ, if_pos rfl, wcS_else g3]⟩))
  · rw [g5] at hk hZ
    exact .inr (.inr (.inr (.inl ⟨g1, ht.1 g2, g3, g4, hk, by rw [hZ, if_neg (by decide)]⟩)))
  · rw [g5] at hk hZ
    exact .inr (.inr (.inr (.inr ⟨g1, ht.1 g2, g3, g4, hk, by rw [hZ, if_pos rfl, wcS_bare g3]⟩)))

theorem implMeetSels_ok (x y : S9) (w : World) :
    Calls Tryd.prog 113 #[.agg #[.int .i64 x.a, .int .i64 x.b, .int .i64 x.c, .int .i64 x.d, .int .i64 x.e, .int .i64 x.f, .int .i64 x.g, .int .i64 x.h, .int .i64 x.r], .agg #[.int .i64 y.a, .int .i64 y.b, .int .i64 y.c, .int .i64 y.d, .int .i64 y.e, .int .i64 y.f, .int .i64 y.g, .int .i64 y.h, .int .i64 y.r]] w fun e w' => e = .returned (.agg #[.int .i64 (mtC x y), .int .i64 (mtS x y).a, .int .i64 (mtS x y).b, .int .i64 (mtS x y).c, .int .i64 (mtS x y).d, .int .i64 (mtS x y).e, .int .i64 (mtS x y).f, .int .i64 (mtS x y).g, .int .i64 (mtS x y).h, .int .i64 (mtS x y).r]) ∧ Below w.heap.size w w' := by
  rcases mt_ways x y with ⟨h1, hr⟩ | ⟨h1, h2, hr⟩ | ⟨h1, h2, hr⟩
  · rw [hr.out.1, hr.out.2, zeroS_is]; exact iMeet1 x y w h1
  · rw [hr.out.1, hr.out.2, zeroS_is]; exact iMeet2 x y w h1 h2
  · obtain ⟨k, hk⟩ : ∃ k, mtC x y = k := ⟨_, rfl⟩
    obtain ⟨Z, hZ⟩ : ∃ Z, mtS x y = Z := ⟨_, rfl⟩
    obtain ⟨m0, m1, m2, m3, m4, m5, m6, m7, r, hm⟩ : ∃ m0 m1 m2 m3 m4 m5 m6 m7 r, cmS x y = ⟨m0, m1, m2, m3, m4, m5, m6, m7, r⟩ := ⟨_, _, _, _, _, _, _, _, _, rfl⟩
    rw [hk, hZ]
    exact iMeet3 x y w h1 h2 m0 m1 m2 m3 m4 m5 m6 m7 r hm k Z (meet_hW x y m0 m1 m2 m3 m4 m5 m6 m7 r hm k Z (hk.symm.trans hr.out.1) (hZ.symm.trans hr.out.2))

end Go.Proofs.YtngkahchhioncaaDoor
