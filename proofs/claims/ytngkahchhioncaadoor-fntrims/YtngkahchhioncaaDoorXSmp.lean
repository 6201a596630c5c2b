/- 'SampleOf' of the model, and the law's walk. -/
import Derived.Test.YtngkahchhioncaaDoorSmpI
import Derived.Test.YtngkahchhioncaaDoorSelG
import Derived.Test.YtngkahchhioncaaDoorSelH
import Derived.Test.YtngkahchhioncaaDoorPktH
namespace Go.Proofs.YtngkahchhioncaaDoor
open Go.RowKit

set_option maxHeartbeats 1000000 in
theorem l2BadS_ok (k : Int) (w : World) :
    Calls Tryd.prog 130 #[.int .i64 k] w fun e w' => e = .returned (.agg #[.int .i64 k, .int .i64 0, .int .i64 0, .int .i64 0, .int .i64 0, .int .i64 0, .int .i64 0, .slice none 0 0]) ∧ Below w.heap.size w w' := by
  have q0 := build_pr0
  go_enter Tryd.func130, Tryd.ntmps130
  have B := Below.refl w.heap.size w
  have Bo := B
  go_wp2
  refine bodyPost_ret (v := .agg #[.int .i64 k, .int .i64 0, .int .i64 0, .int .i64 0, .int .i64 0, .int .i64 0, .int .i64 0, .slice none 0 0]) (by first | (simp [results, Tryd.results130, go_sem]; done) | simp [results, Tryd.results130, go_sem, q0]) rfl ⟨rfl, ?_⟩
  repeat' first | with_reducible exact Bo | with_reducible exact Below.refl _ _ | with_reducible refine Below.setCell ?_ ?_ _ | with_reducible refine Below.alloc ?_ ?_ _ | with_reducible refine Below.drew ?_ | (simp; done) | (simp; omega)

set_option maxHeartbeats 2000000 in
theorem specSmp0 (x : S9) (w : World) (h1 : (sfC x != 0) = true) :
    Calls Tryd.prog 99 #[.agg #[.int .i64 x.a, .int .i64 x.b, .int .i64 x.c, .int .i64 x.d, .int .i64 x.e, .int .i64 x.f, .int .i64 x.g, .int .i64 x.h, .int .i64 x.r]] w fun e w' => e = .returned (.agg #[.int .i64 (sfC x), .int .i64 0, .int .i64 0, .int .i64 0, .int .i64 0, .int .i64 0, .int .i64 0, .slice none 0 0]) ∧ Below w.heap.size w w' := by
  have q0 := build_pr0
  have q1 := build_pr1
  have q2 := build_pk4
  have CX := Hid.mk (fun w => specSelFault_ok x w)
  go_enter Tryd.func99, Tryd.ntmps99
  have B := Below.refl w.heap.size w
  replace B := thenB B (belowA w (.cells #[.int .i64 x.a, .int .i64 x.b, .int .i64 x.c, .int .i64 x.d, .int .i64 x.e, .int .i64 x.f, .int .i64 x.g, .int .i64 x.h, .int .i64 x.r] 32))
  have VX := V.new w [.int .i64 x.a, .int .i64 x.b, .int .i64 x.c, .int .i64 x.d, .int .i64 x.e, .int .i64 x.f, .int .i64 x.g, .int .i64 x.h, .int .i64 x.r] 32
  replace VX := VX.kept (belowA (w.alloc (.cells #[.int .i64 x.a, .int .i64 x.b, .int .i64 x.c, .int .i64 x.d, .int .i64 x.e, .int .i64 x.f, .int .i64 x.g, .int .i64 x.h, .int .i64 x.r] 32)) (.cells #[.int .i64 0, .int .i64 0, .int .i64 0, .int .i64 0, .int .i64 0, .int .i64 0, .int .i64 0, .slice none 0 0] 54))
  replace B := thenB B (belowA (w.alloc (.cells #[.int .i64 x.a, .int .i64 x.b, .int .i64 x.c, .int .i64 x.d, .int .i64 x.e, .int .i64 x.f, .int .i64 x.g, .int .i64 x.h, .int .i64 x.r] 32)) (.cells #[.int .i64 0, .int .i64 0, .int .i64 0, .int .i64 0, .int .i64 0, .int .i64 0, .int .i64 0, .slice none 0 0] 54))
  have VR : V ((w.alloc (.cells #[.int .i64 x.a, .int .i64 x.b, .int .i64 x.c, .int .i64 x.d, .int .i64 x.e, .int .i64 x.f, .int .i64 x.g, .int .i64 x.h, .int .i64 x.r] 32)).alloc (.cells #[.int .i64 0, .int .i64 0, .int .i64 0, .int .i64 0, .int .i64 0, .int .i64 0, .int .i64 0, .slice none 0 0] 54)) (w.heap.size + 1) [.int .i64 0, .int .i64 0, .int .i64 0, .int .i64 0, .int .i64 0, .int .i64 0, .int .i64 0, .slice none 0 0] := V.newAt _ _ _ _ (by simp)
  obtain ⟨s_VX, f_VX, z_VX⟩ := VX.open
  obtain ⟨s_VR, f_VR, z_VR⟩ := VR.open
  go_wp2_with fail
  refine (CX.out _).mono ?_
  rintro e w1 ⟨rfl, b1⟩
  clear s_VX f_VX z_VX s_VR f_VR z_VR
  have S1 := b1.size
  simp only [World.size_alloc] at S1
  replace VX := VX.kept b1
  replace VR := VR.kept b1
  replace B := thenB B b1
  clear b1
  obtain ⟨s_VX, f_VX, z_VX⟩ := VX.open
  obtain ⟨s_VR, f_VR, z_VR⟩ := VR.open
  have Bo := B
  go_wp2_with fail
  refine (l2BadS_ok (sfC x) _).mono ?_
  rintro e w2 ⟨rfl, b2⟩
  clear s_VX f_VX z_VX s_VR f_VR z_VR
  have S2 := b2.size
  replace VX := VX.kept b2
  replace VR := VR.kept b2
  replace B := thenB B b2
  clear b2
  obtain ⟨s_VX, f_VX, z_VX⟩ := VX.open
  obtain ⟨s_VR, f_VR, z_VR⟩ := VR.open
  have Bo := B
  go_wp2
  refine bodyPost_ret (v := .agg #[.int .i64 (sfC x), .int .i64 0, .int .i64 0, .int .i64 0, .int .i64 0, .int .i64 0, .int .i64 0, .slice none 0 0]) (by first | (simp [results, Tryd.results99, go_sem]; done) | simp [results, Tryd.results99, go_sem, f_VR]) rfl ⟨rfl, ?_⟩
  repeat' first | with_reducible exact Bo | with_reducible exact Below.refl _ _ | with_reducible refine Below.setCell ?_ ?_ _ | with_reducible refine Below.alloc ?_ ?_ _ | with_reducible refine Below.drew ?_ | (simp; done) | (simp; omega)

set_option maxHeartbeats 2000000 in
theorem specSmp1 (x : S9) (w : World) (h1 : sfC x = 0) (h2 : (x.r == 0) = true) :
    Calls Tryd.prog 99 #[.agg #[.int .i64 x.a, .int .i64 x.b, .int .i64 x.c, .int .i64 x.d, .int .i64 x.e, .int .i64 x.f, .int .i64 x.g, .int .i64 x.h, .int .i64 x.r]] w fun e w' => e = .returned (.agg #[.int .i64 0, .int .i64 x.a, .int .i64 x.c, .int .i64 6, .int .i64 64, .int .i64 x.e, .int .i64 x.g, .slice none 0 0]) ∧ Below w.heap.size w w' := by
  have q0 := build_pr0
  have q1 := build_pr1
  have q2 := build_pk4
  have CX := Hid.mk (fun w => specSelFault_ok x w)
  rw [h1] at CX
  clear h1
  have h3 : portsP 6 = true := by rw [portsP_iff]; exact .inl rfl
  go_enter Tryd.func99, Tryd.ntmps99
  have B := Below.refl w.heap.size w
  replace B := thenB B (belowA w (.cells #[.int .i64 x.a, .int .i64 x.b, .int .i64 x.c, .int .i64 x.d, .int .i64 x.e, .int .i64 x.f, .int .i64 x.g, .int .i64 x.h, .int .i64 x.r] 32))
  have VX := V.new w [.int .i64 x.a, .int .i64 x.b, .int .i64 x.c, .int .i64 x.d, .int .i64 x.e, .int .i64 x.f, .int .i64 x.g, .int .i64 x.h, .int .i64 x.r] 32
  replace VX := VX.kept (belowA (w.alloc (.cells #[.int .i64 x.a, .int .i64 x.b, .int .i64 x.c, .int .i64 x.d, .int .i64 x.e, .int .i64 x.f, .int .i64 x.g, .int .i64 x.h, .int .i64 x.r] 32)) (.cells #[.int .i64 0, .int .i64 0, .int .i64 0, .int .i64 0, .int .i64 0, .int .i64 0, .int .i64 0, .slice none 0 0] 54))
  replace B := thenB B (belowA (w.alloc (.cells #[.int .i64 x.a, .int .i64 x.b, .int .i64 x.c, .int .i64 x.d, .int .i64 x.e, .int .i64 x.f, .int .i64 x.g, .int .i64 x.h, .int .i64 x.r] 32)) (.cells #[.int .i64 0, .int .i64 0, .int .i64 0, .int .i64 0, .int .i64 0, .int .i64 0, .int .i64 0, .slice none 0 0] 54))
  have VR : V ((w.alloc (.cells #[.int .i64 x.a, .int .i64 x.b, .int .i64 x.c, .int .i64 x.d, .int .i64 x.e, .int .i64 x.f, .int .i64 x.g, .int .i64 x.h, .int .i64 x.r] 32)).alloc (.cells #[.int .i64 0, .int .i64 0, .int .i64 0, .int .i64 0, .int .i64 0, .int .i64 0, .int .i64 0, .slice none 0 0] 54)) (w.heap.size + 1) [.int .i64 0, .int .i64 0, .int .i64 0, .int .i64 0, .int .i64 0, .int .i64 0, .int .i64 0, .slice none 0 0] := V.newAt _ _ _ _ (by simp)
  obtain ⟨s_VX, f_VX, z_VX⟩ := VX.open
  obtain ⟨s_VR, f_VR, z_VR⟩ := VR.open
  go_wp2_with fail
  refine (CX.out _).mono ?_
  rintro e w1 ⟨rfl, b1⟩
  clear s_VX f_VX z_VX s_VR f_VR z_VR
  have S1 := b1.size
  simp only [World.size_alloc] at S1
  replace VX := VX.kept b1
  replace VR := VR.kept b1
  replace B := thenB B b1
  clear b1
  obtain ⟨s_VX, f_VX, z_VX⟩ := VX.open
  obtain ⟨s_VR, f_VR, z_VR⟩ := VR.open
  have Bo := B
  go_wp2_with (first | (go_at_call 119; refine (specHasPorts_ok _ _).mono ?_; rintro e wq ⟨rfl, rfl⟩) | fail)
  refine bodyPost_ret (v := .agg #[.int .i64 0, .int .i64 x.a, .int .i64 x.c, .int .i64 6, .int .i64 64, .int .i64 x.e, .int .i64 x.g, .slice none 0 0]) (by first | (simp [results, Tryd.results99, go_sem]; done) | simp [results, Tryd.results99, go_sem, f_VR, s_VR]) rfl ⟨rfl, ?_⟩
  repeat' first | with_reducible exact Bo | with_reducible exact Below.refl _ _ | with_reducible refine Below.setCell ?_ ?_ _ | with_reducible refine Below.alloc ?_ ?_ _ | with_reducible refine Below.drew ?_ | (simp; done) | (simp; omega)

set_option maxHeartbeats 2000000 in
theorem specSmp2 (x : S9) (w : World) (h1 : sfC x = 0) (h2 : (x.r == 0) = false) (h3 : portsP x.r = true) :
    Calls Tryd.prog 99 #[.agg #[.int .i64 x.a, .int .i64 x.b, .int .i64 x.c, .int .i64 x.d, .int .i64 x.e, .int .i64 x.f, .int .i64 x.g, .int .i64 x.h, .int .i64 x.r]] w fun e w' => e = .returned (.agg #[.int .i64 0, .int .i64 x.a, .int .i64 x.c, .int .i64 x.r, .int .i64 64, .int .i64 x.e, .int .i64 x.g, .slice none 0 0]) ∧ Below w.heap.size w w' := by
  have q0 := build_pr0
  have q1 := build_pr1
  have q2 := build_pk4
  have CX := Hid.mk (fun w => specSelFault_ok x w)
  rw [h1] at CX
  clear h1
  go_enter Tryd.func99, Tryd.ntmps99
  have B := Below.refl w.heap.size w
  replace B := thenB B (belowA w (.cells #[.int .i64 x.a, .int .i64 x.b, .int .i64 x.c, .int .i64 x.d, .int .i64 x.e, .int .i64 x.f, .int .i64 x.g, .int .i64 x.h, .int .i64 x.r] 32))
  have VX := V.new w [.int .i64 x.a, .int .i64 x.b, .int .i64 x.c, .int .i64 x.d, .int .i64 x.e, .int .i64 x.f, .int .i64 x.g, .int .i64 x.h, .int .i64 x.r] 32
  replace VX := VX.kept (belowA (w.alloc (.cells #[.int .i64 x.a, .int .i64 x.b, .int .i64 x.c, .int .i64 x.d, .int .i64 x.e, .int .i64 x.f, .int .i64 x.g, .int .i64 x.h, .int .i64 x.r] 32)) (.cells #[.int .i64 0, .int .i64 0, .int .i64 0, .int .i64 0, .int .i64 0, .int .i64 0, .int .i64 0, .slice none 0 0] 54))
  replace B := thenB B (belowA (w.alloc (.cells #[.int .i64 x.a, .int .i64 x.b, .int .i64 x.c, .int .i64 x.d, .int .i64 x.e, .int .i64 x.f, .int .i64 x.g, .int .i64 x.h, .int .i64 x.r] 32)) (.cells #[.int .i64 0, .int .i64 0, .int .i64 0, .int .i64 0, .int .i64 0, .int .i64 0, .int .i64 0, .slice none 0 0] 54))
  have VR : V ((w.alloc (.cells #[.int .i64 x.a, .int .i64 x.b, .int .i64 x.c, .int .i64 x.d, .int .i64 x.e, .int .i64 x.f, .int .i64 x.g, .int .i64 x.h, .int .i64 x.r] 32)).alloc (.cells #[.int .i64 0, .int .i64 0, .int .i64 0, .int .i64 0, .int .i64 0, .int .i64 0, .int .i64 0, .slice none 0 0] 54)) (w.heap.size + 1) [.int .i64 0, .int .i64 0, .int .i64 0, .int .i64 0, .int .i64 0, .int .i64 0, .int .i64 0, .slice none 0 0] := V.newAt _ _ _ _ (by simp)
  obtain ⟨s_VX, f_VX, z_VX⟩ := VX.open
  obtain ⟨s_VR, f_VR, z_VR⟩ := VR.open
  go_wp2_with fail
  refine (CX.out _).mono ?_
  rintro e w1 ⟨rfl, b1⟩
  clear s_VX f_VX z_VX s_VR f_VR z_VR
  have S1 := b1.size
  simp only [World.size_alloc] at S1
  replace VX := VX.kept b1
  replace VR := VR.kept b1
  replace B := thenB B b1
  clear b1
  obtain ⟨s_VX, f_VX, z_VX⟩ := VX.open
  obtain ⟨s_VR, f_VR, z_VR⟩ := VR.open
  have Bo := B
  go_wp2_with (first | (go_at_call 119; refine (specHasPorts_ok _ _).mono ?_; rintro e wq ⟨rfl, rfl⟩) | fail)
  refine bodyPost_ret (v := .agg #[.int .i64 0, .int .i64 x.a, .int .i64 x.c, .int .i64 x.r, .int .i64 64, .int .i64 x.e, .int .i64 x.g, .slice none 0 0]) (by first | (simp [results, Tryd.results99, go_sem]; done) | simp [results, Tryd.results99, go_sem, f_VR, s_VR]) rfl ⟨rfl, ?_⟩
  repeat' first | with_reducible exact Bo | with_reducible exact Below.refl _ _ | with_reducible refine Below.setCell ?_ ?_ _ | with_reducible refine Below.alloc ?_ ?_ _ | with_reducible refine Below.drew ?_ | (simp; done) | (simp; omega)

set_option maxHeartbeats 2000000 in
theorem specSmp3 (x : S9) (w : World) (h1 : sfC x = 0) (h2 : (x.r == 0) = false) (h3 : portsP x.r = false) :
    Calls Tryd.prog 99 #[.agg #[.int .i64 x.a, .int .i64 x.b, .int .i64 x.c, .int .i64 x.d, .int .i64 x.e, .int .i64 x.f, .int .i64 x.g, .int .i64 x.h, .int .i64 x.r]] w fun e w' => e = .returned (.agg #[.int .i64 0, .int .i64 x.a, .int .i64 x.c, .int .i64 x.r, .int .i64 64, .int .i64 0, .int .i64 0, .slice none 0 0]) ∧ Below w.heap.size w w' := by
  have q0 := build_pr0
  have q1 := build_pr1
  have q2 := build_pk4
  have CX := Hid.mk (fun w => specSelFault_ok x w)
  rw [h1] at CX
  clear h1
  go_enter Tryd.func99, Tryd.ntmps99
  have B := Below.refl w.heap.size w
  replace B := thenB B (belowA w (.cells #[.int .i64 x.a, .int .i64 x.b, .int .i64 x.c, .int .i64 x.d, .int .i64 x.e, .int .i64 x.f, .int .i64 x.g, .int .i64 x.h, .int .i64 x.r] 32))
  have VX := V.new w [.int .i64 x.a, .int .i64 x.b, .int .i64 x.c, .int .i64 x.d, .int .i64 x.e, .int .i64 x.f, .int .i64 x.g, .int .i64 x.h, .int .i64 x.r] 32
  replace VX := VX.kept (belowA (w.alloc (.cells #[.int .i64 x.a, .int .i64 x.b, .int .i64 x.c, .int .i64 x.d, .int .i64 x.e, .int .i64 x.f, .int .i64 x.g, .int .i64 x.h, .int .i64 x.r] 32)) (.cells #[.int .i64 0, .int .i64 0, .int .i64 0, .int .i64 0, .int .i64 0, .int .i64 0, .int .i64 0, .slice none 0 0] 54))
  replace B := thenB B (belowA (w.alloc (.cells #[.int .i64 x.a, .int .i64 x.b, .int .i64 x.c, .int .i64 x.d, .int .i64 x.e, .int .i64 x.f, .int .i64 x.g, .int .i64 x.h, .int .i64 x.r] 32)) (.cells #[.int .i64 0, .int .i64 0, .int .i64 0, .int .i64 0, .int .i64 0, .int .i64 0, .int .i64 0, .slice none 0 0] 54))
  have VR : V ((w.alloc (.cells #[.int .i64 x.a, .int .i64 x.b, .int .i64 x.c, .int .i64 x.d, .int .i64 x.e, .int .i64 x.f, .int .i64 x.g, .int .i64 x.h, .int .i64 x.r] 32)).alloc (.cells #[.int .i64 0, .int .i64 0, .int .i64 0, .int .i64 0, .int .i64 0, .int .i64 0, .int .i64 0, .slice none 0 0] 54)) (w.heap.size + 1) [.int .i64 0, .int .i64 0, .int .i64 0, .int .i64 0, .int .i64 0, .int .i64 0, .int .i64 0, .slice none 0 0] := V.newAt _ _ _ _ (by simp)
  obtain ⟨s_VX, f_VX, z_VX⟩ := VX.open
  obtain ⟨s_VR, f_VR, z_VR⟩ := VR.open
  go_wp2_with fail
  refine (CX.out _).mono ?_
  rintro e w1 ⟨rfl, b1⟩
  clear s_VX f_VX z_VX s_VR f_VR z_VR
  have S1 := b1.size
  simp only [World.size_alloc] at S1
  replace VX := VX.kept b1
  replace VR := VR.kept b1
  replace B := thenB B b1
  clear b1
  obtain ⟨s_VX, f_VX, z_VX⟩ := VX.open
  obtain ⟨s_VR, f_VR, z_VR⟩ := VR.open
  have Bo := B
  go_wp2_with (first | (go_at_call 119; refine (specHasPorts_ok _ _).mono ?_; rintro e wq ⟨rfl, rfl⟩) | fail)
  refine bodyPost_ret (v := .agg #[.int .i64 0, .int .i64 x.a, .int .i64 x.c, .int .i64 x.r, .int .i64 64, .int .i64 0, .int .i64 0, .slice none 0 0]) (by first | (simp [results, Tryd.results99, go_sem]; done) | simp [results, Tryd.results99, go_sem, f_VR, s_VR]) rfl ⟨rfl, ?_⟩
  repeat' first | with_reducible exact Bo | with_reducible exact Below.refl _ _ | with_reducible refine Below.setCell ?_ ?_ _ | with_reducible refine Below.alloc ?_ ?_ _ | with_reducible refine Below.drew ?_ | (simp; done) | (simp; omega)

theorem smp_both (x : S9) : ∃ k f t r l u v : Int, (∀ w, Calls Tryd.prog 99 #[.agg #[.int .i64 x.a, .int .i64 x.b, .int .i64 x.c, .int .i64 x.d, .int .i64 x.e, .int .i64 x.f, .int .i64 x.g, .int .i64 x.h, .int .i64 x.r]] w fun e w' => e = .returned (.agg #[.int .i64 k, .int .i64 f, .int .i64 t, .int .i64 r, .int .i64 l, .int .i64 u, .int .i64 v, .slice none 0 0]) ∧ Below w.heap.size w w') ∧ ∀ w, Calls Tryd.prog 25 #[.agg #[.int .i64 x.a, .int .i64 x.b, .int .i64 x.c, .int .i64 x.d, .int .i64 x.e, .int .i64 x.f, .int .i64 x.g, .int .i64 x.h, .int .i64 x.r]] w fun e w' => e = .returned (.agg #[.int .i64 k, .int .i64 f, .int .i64 t, .int .i64 r, .int .i64 l, .int .i64 u, .int .i64 v, .slice none 0 0]) ∧ Below w.heap.size w w' := by
  by_cases h0 : sfC x = 0
  · by_cases h1 : x.r = 0
    · have h2 : (x.r == 0) = true := by simp [h1]
      exact ⟨_, _, _, _, _, _, _, fun w => specSmp1 x w h0 h2, fun w => implSmp1 x w h0 h2⟩
    · have h2 : (x.r == 0) = false := by simp [h1]
      cases h3 : portsP x.r
      · obtain ⟨hf, hb⟩ := sfC_zero h0
        have hbp : bareP x.r = true := by unfold bareP; simp [h1, h3]
        have hw := wholeP_iff.1 (hb hbp)
        exact ⟨_, _, _, _, _, _, _, fun w => specSmp3 x w h0 h2 h3, fun w => (implSmp2 x w h0 h2).mono fun e w' h => ⟨by rw [h.1, hw.1, hw.2.2.1], h.2⟩⟩
      · exact ⟨_, _, _, _, _, _, _, fun w => specSmp2 x w h0 h2 h3, fun w => implSmp2 x w h0 h2⟩
  · have h1 : (sfC x != 0) = true := by simp [h0]
    exact ⟨_, _, _, _, _, _, _, fun w => specSmp0 x w h1, fun w => implSmp0 x w h1⟩

theorem belowNone {w w' : World} (h : w.grownBy w' none) : Below w.heap.size w w' := (Below.refl _ _).grown h (Nat.le_refl _) fun k hk => by cases hk

end Go.Proofs.YtngkahchhioncaaDoor
