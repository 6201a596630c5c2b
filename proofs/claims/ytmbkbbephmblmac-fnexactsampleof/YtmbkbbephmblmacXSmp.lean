/- 'SampleOf' of the model, and the law's walk. -/
import Derived.Test.YtmbkbbephmblmacSmpI
import Derived.Test.YtmbkbbephmblmacSelG
import Derived.Test.YtmbkbbephmblmacSelH
import Derived.Test.YtmbkbbephmblmacPktH
namespace Go.Proofs.Ytmbkbbephmblmac
open Go.RowKit

set_option maxHeartbeats 1000000 in
theorem l2BadS_ok (k : Int) (w : World) :
    Calls Try.prog 11 #[.int .i64 k] w fun e w' => e = .returned (.agg #[.int .i64 k, .int .i64 0, .int .i64 0, .int .i64 0, .int .i64 0, .int .i64 0, .int .i64 0, .slice none 0 0]) ∧ Below w.heap.size w w' := by
  have q0 := build_pr0
  go_enter Try.func11, Try.ntmps11
  have B := Below.refl w.heap.size w
  have Bo := B
  go_wp2
  refine bodyPost_ret (v := .agg #[.int .i64 k, .int .i64 0, .int .i64 0, .int .i64 0, .int .i64 0, .int .i64 0, .int .i64 0, .slice none 0 0]) (by first | (simp [results, Try.results11, go_sem]; done) | simp [results, Try.results11, go_sem, q0]) rfl ⟨rfl, ?_⟩
  repeat' first | with_reducible exact Bo | with_reducible exact Below.refl _ _ | with_reducible refine Below.setCell ?_ ?_ _ | with_reducible refine Below.alloc ?_ ?_ _ | with_reducible refine Below.drew ?_ | (simp; done) | (simp; omega)

set_option maxHeartbeats 2000000 in
theorem specSmp0 (x : S9) (w : World) (h1 : (sfC x != 0) = true) :
    Calls Try.prog 4 #[.agg #[.int .i64 x.a, .int .i64 x.b, .int .i64 x.c, .int .i64 x.d, .int .i64 x.e, .int .i64 x.f, .int .i64 x.g, .int .i64 x.h, .int .i64 x.r]] w fun e w' => e = .returned (.agg #[.int .i64 (sfC x), .int .i64 0, .int .i64 0, .int .i64 0, .int .i64 0, .int .i64 0, .int .i64 0, .slice none 0 0]) ∧ Below w.heap.size w w' := by
  have q0 := build_pr0
  have q1 := build_pr1
  have q2 := build_pk4
  have CX := Hid.mk (fun w => specSelFault_ok x w)
  go_enter Try.func4, Try.ntmps4
  have B := Below.refl w.heap.size w
  replace B := thenB B (belowA w (.cells #[.int .i64 x.a, .int .i64 x.b, .int .i64 x.c, .int .i64 x.d, .int .i64 x.e, .int .i64 x.f, .int .i64 x.g, .int .i64 x.h, .int .i64 x.r] 34))
  have VX := V.new w [.int .i64 x.a, .int .i64 x.b, .int .i64 x.c, .int .i64 x.d, .int .i64 x.e, .int .i64 x.f, .int .i64 x.g, .int .i64 x.h, .int .i64 x.r] 34
  replace VX := VX.kept (belowA (w.alloc (.cells #[.int .i64 x.a, .int .i64 x.b, .int .i64 x.c, .int .i64 x.d, .int .i64 x.e, .int .i64 x.f, .int .i64 x.g, .int .i64 x.h, .int .i64 x.r] 34)) (.cells #[.int .i64 0, .int .i64 0, .int .i64 0, .int .i64 0, .int .i64 0, .int .i64 0, .int .i64 0, .slice none 0 0] 30))
  replace B := thenB B (belowA (w.alloc (.cells #[.int .i64 x.a, .int .i64 x.b, .int .i64 x.c, .int .i64 x.d, .int .i64 x.e, .int .i64 x.f, .int .i64 x.g, .int .i64 x.h, .int .i64 x.r] 34)) (.cells #[.int .i64 0, .int .i64 0, .int .i64 0, .int .i64 0, .int .i64 0, .int .i64 0, .int .i64 0, .slice none 0 0] 30))
  have VR : V ((w.alloc (.cells #[.int .i64 x.a, .int .i64 x.b, .int .i64 x.c, .int .i64 x.d, .int .i64 x.e, .int .i64 x.f, .int .i64 x.g, .int .i64 x.h, .int .i64 x.r] 34)).alloc (.cells #[.int .i64 0, .int .i64 0, .int .i64 0, .int .i64 0, .int .i64 0, .int .i64 0, .int .i64 0, .slice none 0 0] 30)) (w.heap.size + 1) [.int .i64 0, .int .i64 0, .int .i64 0, .int .i64 0, .int .i64 0, .int .i64 0, .int .i64 0, .slice none 0 0] := V.newAt _ _ _ _ (by simp)
  obtain ⟨s_VX, f_VX, z_VX⟩ := VX.open
  obtain ⟨s_VR, f_VR, z_VR⟩ := VR.open
  go_wp2_with fail
  refine (CX.out _).mono ?_
  rintro e w1 ⟨rfl, b1⟩
  clear s_VX f_VX z_VX s_VR f_VR z_VR
  have S1 := b1.size
  simp only [World.size_alloc] at S1
  replace VX := VX.kept b1
  replace VR := VR.kept b1
  replace B := thenB B b1
  clear b1
  obtain ⟨s_VX, f_VX, z_VX⟩ := VX.open
  obtain ⟨s_VR, f_VR, z_VR⟩ := VR.open
  have Bo := B
  go_wp2_with fail
  refine (l2BadS_ok (sfC x) _).mono ?_
  rintro e w2 ⟨rfl, b2⟩
  clear s_VX f_VX z_VX s_VR f_VR z_VR
  have S2 := b2.size
  replace VX := VX.kept b2
  replace VR := VR.kept b2
  replace B := thenB B b2
  clear b2
  obtain ⟨s_VX, f_VX, z_VX⟩ := VX.open
  obtain ⟨s_VR, f_VR, z_VR⟩ := VR.open
  have Bo := B
  go_wp2
  refine bodyPost_ret (v := .agg #[.int .i64 (sfC x), .int .i64 0, .int .i64 0, .int .i64 0, .int .i64 0, .int .i64 0, .int .i64 0, .slice none 0 0]) (by first | (simp [results, Try.results4, go_sem]; done) | simp [results, Try.results4, go_sem, f_VR]) rfl ⟨rfl, ?_⟩
  repeat' first | with_reducible exact Bo | with_reducible exact Below.refl _ _ | with_reducible refine Below.setCell ?_ ?_ _ | with_reducible refine Below.alloc ?_ ?_ _ | with_reducible refine Below.drew ?_ | (simp; done) | (simp; omega)

set_option maxHeartbeats 2000000 in
theorem specSmp1 (x : S9) (w : World) (h1 : sfC x = 0) (h2 : (x.r == 0) = true) :
    Calls Try.prog 4 #[.agg #[.int .i64 x.a, .int .i64 x.b, .int .i64 x.c, .int .i64 x.d, .int .i64 x.e, .int .i64 x.f, .int .i64 x.g, .int .i64 x.h, .int .i64 x.r]] w fun e w' => e = .returned (.agg #[.int .i64 0, .int .i64 x.a, .int .i64 x.c, .int .i64 6, .int .i64 64, .int .i64 x.e, .int .i64 x.g, .slice none 0 0]) ∧ Below w.heap.size w w' := by
  have q0 := build_pr0
  have q1 := build_pr1
  have q2 := build_pk4
  have CX := Hid.mk (fun w => specSelFault_ok x w)
  rw [h1] at CX
  clear h1
  have h3 : portsP 6 = true := by rw [portsP_iff]; exact .inl rfl
  go_enter Try.func4, Try.ntmps4
  have B := Below.refl w.heap.size w
  replace B := thenB B (belowA w (.cells #[.int .i64 x.a, .int .i64 x.b, .int .i64 x.c, .int .i64 x.d, .int .i64 x.e, .int .i64 x.f, .int .i64 x.g, .int .i64 x.h, .int .i64 x.r] 34))
  have VX := V.new w [.int .i64 x.a, .int .i64 x.b, .int .i64 x.c, .int .i64 x.d, .int .i64 x.e, .int .i64 x.f, .int .i64 x.g, .int .i64 x.h, .int .i64 x.r] 34
  replace VX := VX.kept (belowA (w.alloc (.cells #[.int .i64 x.a, .int .i64 x.b, .int .i64 x.c, .int .i64 x.d, .int .i64 x.e, .int .i64 x.f, .int .i64 x.g, .int .i64 x.h, .int .i64 x.r] 34)) (.cells #[.int .i64 0, .int .i64 0, .int .i64 0, .int .i64 0, .int .i64 0, .int .i64 0, .int .i64 0, .slice none 0 0] 30))
  replace B := thenB B (belowA (w.alloc (.cells #[.int .i64 x.a, .int .i64 x.b, .int .i64 x.c, .int .i64 x.d, .int .i64 x.e, .int .i64 x.f, .int .i64 x.g, .int .i64 x.h, .int .i64 x.r] 34)) (.cells #[.int .i64 0, .int .i64 0, .int .i64 0, .int .i64 0, .int .i64 0, .int .i64 0, .int .i64 0, .slice none 0 0] 30))
  have VR : V ((w.alloc (.cells #[.int .i64 x.a, .int .i64 x.b, .int .i64 x.c, .int .i64 x.d, .int .i64 x.e, .int .i64 x.f, .int .i64 x.g, .int .i64 x.h, .int .i64 x.r] 34)).alloc (.cells #[.int .i64 0, .int .i64 0, .int .i64 0, .int .i64 0, .int .i64 0, .int .i64 0, .int .i64 0, .slice none 0 0] 30)) (w.heap.size + 1) [.int .i64 0, .int .i64 0, .int .i64 0, .int .i64 0, .int .i64 0, .int .i64 0, .int .i64 0, .slice none 0 0] := V.newAt _ _ _ _ (by simp)
  obtain ⟨s_VX, f_VX, z_VX⟩ := VX.open
  obtain ⟨s_VR, f_VR, z_VR⟩ := VR.open
  go_wp2_with fail
  refine (CX.out _).mono ?_
  rintro e w1 ⟨rfl, b1⟩
  clear s_VX f_VX z_VX s_VR f_VR z_VR
  have S1 := b1.size
  simp only [World.size_alloc] at S1
  replace VX := VX.kept b1
  replace VR := VR.kept b1
  replace B := thenB B b1
  clear b1
  obtain ⟨s_VX, f_VX, z_VX⟩ := VX.open
  obtain ⟨s_VR, f_VR, z_VR⟩ := VR.open
  have Bo := B
  go_wp2_with (first | (go_at_call 12; refine (specHasPorts_ok _ _).mono ?_; rintro e wq ⟨rfl, rfl⟩) | fail)
  refine bodyPost_ret (v := .agg #[.int .i64 0, .int .i64 x.a, .int .i64 x.c, .int .i64 6, .int .i64 64, .int .i64 x.e, .int .i64 x.g, .slice none 0 0]) (by first | (simp [results, Try.results4, go_sem]; done) | simp [results, Try.results4, go_sem, f_VR, s_VR]) rfl ⟨rfl, ?_⟩
  repeat' first | with_reducible exact Bo | with_reducible exact Below.refl _ _ | with_reducible refine Below.setCell ?_ ?_ _ | with_reducible refine Below.alloc ?_ ?_ _ | with_reducible refine Below.drew ?_ | (simp; done) | (simp; omega)

set_option maxHeartbeats 2000000 in
theorem specSmp2 (x : S9) (w : World) (h1 : sfC x = 0) (h2 : (x.r == 0) = false) (h3 : portsP x.r = true) :
    Calls Try.prog 4 #[.agg #[.int .i64 x.a, .int .i64 x.b, .int .i64 x.c, .int .i64 x.d, .int .i64 x.e, .int .i64 x.f, .int .i64 x.g, .int .i64 x.h, .int .i64 x.r]] w fun e w' => e = .returned (.agg #[.int .i64 0, .int .i64 x.a, .int .i64 x.c, .int .i64 x.r, .int .i64 64, .int .i64 x.e, .int .i64 x.g, .slice none 0 0]) ∧ Below w.heap.size w w' := by
  have q0 := build_pr0
  have q1 := build_pr1
  have q2 := build_pk4
  have CX := Hid.mk (fun w => specSelFault_ok x w)
  rw [h1] at CX
  clear h1
  go_enter Try.func4, Try.ntmps4
  have B := Below.refl w.heap.size w
  replace B := thenB B (belowA w (.cells #[.int .i64 x.a, .int .i64 x.b, .int .i64 x.c, .int .i64 x.d, .int .i64 x.e, .int .i64 x.f, .int .i64 x.g, .int .i64 x.h, .int .i64 x.r] 34))
  have VX := V.new w [.int .i64 x.a, .int .i64 x.b, .int .i64 x.c, .int .i64 x.d, .int .i64 x.e, .int .i64 x.f, .int .i64 x.g, .int .i64 x.h, .int .i64 x.r] 34
  replace VX := VX.kept (belowA (w.alloc (.cells #[.int .i64 x.a, .int .i64 x.b, .int .i64 x.c, .int .i64 x.d, .int .i64 x.e, .int .i64 x.f, .int .i64 x.g, .int .i64 x.h, .int .i64 x.r] 34)) (.cells #[.int .i64 0, .int .i64 0, .int .i64 0, .int .i64 0, .int .i64 0, .int .i64 0, .int .i64 0, .slice none 0 0] 30))
  replace B := thenB B (belowA (w.alloc (.cells #[.int .i64 x.a, .int .i64 x.b, .int .i64 x.c, .int .i64 x.d, .int .i64 x.e, .int .i64 x.f, .int .i64 x.g, .int .i64 x.h, .int .i64 x.r] 34)) (.cells #[.int .i64 0, .int .i64 0, .int .i64 0, .int .i64 0, .int .i64 0, .int .i64 0, .int .i64 0, .slice none 0 0] 30))
  have VR : V ((w.alloc (.cells #[.int .i64 x.a, .int .i64 x.b, .int .i64 x.c, .int .i64 x.d, .int .i64 x.e, .int .i64 x.f, .int .i64 x.g, .int .i64 x.h, .int .i64 x.r] 34)).alloc (.cells #[.int .i64 0, .int .i64 0, .int .i64 0, .int .i64 0, .int .i64 0, .int .i64 0, .int .i64 0, .slice none 0 0] 30)) (w.heap.size + 1) [.int .i64 0, .int .i64 0, .int .i64 0, .int .i64 0, .int .i64 0, .int .i64 0, .int .i64 0, .slice none 0 0] := V.newAt _ _ _ _ (by simp)
  obtain ⟨s_VX, f_VX, z_VX⟩ := VX.open
  obtain ⟨s_VR, f_VR, z_VR⟩ := VR.open
  go_wp2_with fail
  refine (CX.out _).mono ?_
  rintro e w1 ⟨rfl, b1⟩
  clear s_VX f_VX z_VX s_VR f_VR z_VR
  have S1 := b1.size
  simp only [World.size_alloc] at S1
  replace VX := VX.kept b1
  replace VR := VR.kept b1
  replace B := thenB B b1
  clear b1
  obtain ⟨s_VX, f_VX, z_VX⟩ := VX.open
  obtain ⟨s_VR, f_VR, z_VR⟩ := VR.open
  have Bo := B
  go_wp2_with (first | (go_at_call 12; refine (specHasPorts_ok _ _).mono ?_; rintro e wq ⟨rfl, rfl⟩) | fail)
  refine bodyPost_ret (v := .agg #[.int .i64 0, .int .i64 x.a, .int .i64 x.c, .int .i64 x.r, .int .i64 64, .int .i64 x.e, .int .i64 x.g, .slice none 0 0]) (by first | (simp [results, Try.results4, go_sem]; done) | simp [results, Try.results4, go_sem, f_VR, s_VR]) rfl ⟨rfl, ?_⟩
  repeat' first | with_reducible exact Bo | with_reducible exact Below.refl _ _ | with_reducible refine Below.setCell ?_ ?_ _ | with_reducible refine Below.alloc ?_ ?_ _ | with_reducible refine Below.drew ?_ | (simp; done) | (simp; omega)

set_option maxHeartbeats 2000000 in
theorem specSmp3 (x : S9) (w : World) (h1 : sfC x = 0) (h2 : (x.r == 0) = false) (h3 : portsP x.r = false) :
    Calls Try.prog 4 #[.agg #[.int .i64 x.a, .int .i64 x.b, .int .i64 x.c, .int .i64 x.d, .int .i64 x.e, .int .i64 x.f, .int .i64 x.g, .int .i64 x.h, .int .i64 x.r]] w fun e w' => e = .returned (.agg #[.int .i64 0, .int .i64 x.a, .int .i64 x.c, .int .i64 x.r, .int .i64 64, .int .i64 0, .int .i64 0, .slice none 0 0]) ∧ Below w.heap.size w w' := by
  have q0 := build_pr0
  have q1 := build_pr1
  have q2 := build_pk4
  have CX := Hid.mk (fun w => specSelFault_ok x w)
  rw [h1] at CX
  clear h1
  go_enter Try.func4, Try.ntmps4
  have B := Below.refl w.heap.size w
  replace B := thenB B (belowA w (.cells #[.int .i64 x.a, .int .i64 x.b, .int .i64 x.c, .int .i64 x.d, .int .i64 x.e, .int .i64 x.f, .int .i64 x.g, .int .i64 x.h, .int .i64 x.r] 34))
  have VX := V.new w [.int .i64 x.a, .int .i64 x.b, .int .i64 x.c, .int .i64 x.d, .int .i64 x.e, .int .i64 x.f, .int .i64 x.g, .int .i64 x.h, .int .i64 x.r] 34
  replace VX := VX.kept (belowA (w.alloc (.cells #[.int .i64 x.a, .int .i64 x.b, .int .i64 x.c, .int .i64 x.d, .int .i64 x.e, .int .i64 x.f, .int .i64 x.g, .int .i64 x.h, .int .i64 x.r] 34)) (.cells #[.int .i64 0, .int .i64 0, .int .i64 0, .int .i64 0, .int .i64 0, .int .i64 0, .int .i64 0, .slice none 0 0] 30))
  replace B := thenB B (belowA (w.alloc (.cells #[.int .i64 x.a, .int .i64 x.b, .int .i64 x.c, .int .i64 x.d, .int .i64 x.e, .int .i64 x.f, .int .i64 x.g, .int .i64 x.h, .int .i64 x.r] 34)) (.cells #[.int .i64 0, .int .i64 0, .int .i64 0, .int .i64 0, .int .i64 0, .int .i64 0, .int .i64 0, .slice none 0 0] 30))
  have VR : V ((w.alloc (.cells #[.int .i64 x.a, .int .i64 x.b, .int .i64 x.c, .int .i64 x.d, .int .i64 x.e, .int .i64 x.f, .int .i64 x.g, .int .i64 x.h, .int .i64 x.r] 34)).alloc (.cells #[.int .i64 0, .int .i64 0, .int .i64 0, .int .i64 0, .int .i64 0, .int .i64 0, .int .i64 0, .slice none 0 0] 30)) (w.heap.size + 1) [.int .i64 0, .int .i64 0, .int .i64 0, .int .i64 0, .int .i64 0, .int .i64 0, .int .i64 0, .slice none 0 0] := V.newAt _ _ _ _ (by simp)
  obtain ⟨s_VX, f_VX, z_VX⟩ := VX.open
  obtain ⟨s_VR, f_VR, z_VR⟩ := VR.open
  go_wp2_with fail
  refine (CX.out _).mono ?_
  rintro e w1 ⟨rfl, b1⟩
  clear s_VX f_VX z_VX s_VR f_VR z_VR
  have S1 := b1.size
  simp only [World.size_alloc] at S1
  replace VX := VX.kept b1
  replace VR := VR.kept b1
  replace B := thenB B b1
  clear b1
  obtain ⟨s_VX, f_VX, z_VX⟩ := VX.open
  obtain ⟨s_VR, f_VR, z_VR⟩ := VR.open
  have Bo := B
  go_wp2_with (first | (go_at_call 12; refine (specHasPorts_ok _ _).mono ?_; rintro e wq ⟨rfl, rfl⟩) | fail)
  refine bodyPost_ret (v := .agg #[.int .i64 0, .int .i64 x.a, .int .i64 x.c, .int .i64 x.r, .int .i64 64, .int .i64 0, .int .i64 0, .slice none 0 0]) (by first | (simp [results, Try.results4, go_sem]; done) | simp [results, Try.results4, go_sem, f_VR, s_VR]) rfl ⟨rfl, ?_⟩
  repeat' first | with_reducible exact Bo | with_reducible exact Below.refl _ _ | with_reducible refine Below.setCell ?_ ?_ _ | with_reducible refine Below.alloc ?_ ?_ _ | with_reducible refine Below.drew ?_ | (simp; done) | (simp; omega)

theorem smp_both (x : S9) : ∃ k f t r l u v : Int, (∀ w, Calls Try.prog 4 #[.agg #[.int .i64 x.a, .int .i64 x.b, .int .i64 x.c, .int .i64 x.d, .int .i64 x.e, .int .i64 x.f, .int .i64 x.g, .int .i64 x.h, .int .i64 x.r]] w fun e w' => e = .returned (.agg #[.int .i64 k, .int .i64 f, .int .i64 t, .int .i64 r, .int .i64 l, .int .i64 u, .int .i64 v, .slice none 0 0]) ∧ Below w.heap.size w w') ∧ ∀ w, Calls Try.prog 6 #[.agg #[.int .i64 x.a, .int .i64 x.b, .int .i64 x.c, .int .i64 x.d, .int .i64 x.e, .int .i64 x.f, .int .i64 x.g, .int .i64 x.h, .int .i64 x.r]] w fun e w' => e = .returned (.agg #[.int .i64 k, .int .i64 f, .int .i64 t, .int .i64 r, .int .i64 l, .int .i64 u, .int .i64 v, .slice none 0 0]) ∧ Below w.heap.size w w' := by
  by_cases h0 : sfC x = 0
  · by_cases h1 : x.r = 0
    · have h2 : (x.r == 0) = true := by simp [h1]
      exact ⟨_, _, _, _, _, _, _, fun w => specSmp1 x w h0 h2, fun w => implSmp1 x w h0 h2⟩
    · have h2 : (x.r == 0) = false := by simp [h1]
      cases h3 : portsP x.r
      · obtain ⟨hf, hb⟩ := sfC_zero h0
        have hbp : bareP x.r = true := by unfold bareP; simp [h1, h3]
        have hw := wholeP_iff.1 (hb hbp)
        exact ⟨_, _, _, _, _, _, _, fun w => specSmp3 x w h0 h2 h3, fun w => (implSmp2 x w h0 h2).mono fun e w' h => ⟨by rw [h.1, hw.1, hw.2.2.1], h.2⟩⟩
      · exact ⟨_, _, _, _, _, _, _, fun w => specSmp2 x w h0 h2 h3, fun w => implSmp2 x w h0 h2⟩
  · have h1 : (sfC x != 0) = true := by simp [h0]
    exact ⟨_, _, _, _, _, _, _, fun w => specSmp0 x w h1, fun w => implSmp0 x w h1⟩

theorem belowNone {w w' : World} (h : w.grownBy w' none) : Below w.heap.size w w' := (Below.refl _ _).grown h (Nat.le_refl _) fun k hk => by cases hk

theorem markNil_ok (k f t r l x y : Int) (w : World) :
    Calls Try.prog 8 #[.agg #[.int .i64 k, .int .i64 f, .int .i64 t, .int .i64 r, .int .i64 l, .int .i64 x, .int .i64 y, .slice none 0 0], .int .i64 1] w fun e w' => e = .returned (.int .i64 1) ∧ Below w.heap.size w w' :=
  (markPacketResult_ok k f t r l x y none 0 0 w.heap.size [] 1 w own_none rfl (by decide) (by decide)).mono fun e w' h => ⟨by rw [h.1]; rfl, belowNone h.2.2⟩

theorem heldNil_ok (k f t r l x y : Int) (w : World) :
    Calls Try.prog 9 #[.agg #[.int .i64 k, .int .i64 f, .int .i64 t, .int .i64 r, .int .i64 l, .int .i64 x, .int .i64 y, .slice none 0 0], .int .i64 1] w fun e w' => e = .returned (.int .i64 1) ∧ Below w.heap.size w w' :=
  (heldPacketResult_ok k f t r l x y none 0 0 1 w Rd.nil (by decide) (by decide)).mono fun e w' h => ⟨by rw [h.1]; rfl, h.2⟩

set_option maxRecDepth 20000 in
set_option maxHeartbeats 4000000 in
theorem xSmp_walk (x : S9) (w : World) :
    Calls Try.prog 3 #[.agg #[.int .i64 x.a, .int .i64 x.b, .int .i64 x.c, .int .i64 x.d, .int .i64 x.e, .int .i64 x.f, .int .i64 x.g, .int .i64 x.h, .int .i64 x.r]] w fun e w' => e = .returned (.bool true) ∧ Below w.heap.size w w' := by
  obtain ⟨k, f, t, r, l, u, v, CS, CI⟩ := smp_both x
  replace CS := Hid.mk CS
  replace CI := Hid.mk CI
  go_enter Try.func3, Try.ntmps3
  have B := Below.refl w.heap.size w
  replace B := thenB B (belowA w (.cells #[.int .i64 x.a, .int .i64 x.b, .int .i64 x.c, .int .i64 x.d, .int .i64 x.e, .int .i64 x.f, .int .i64 x.g, .int .i64 x.h, .int .i64 x.r] 25))
  have VX := V.new w [.int .i64 x.a, .int .i64 x.b, .int .i64 x.c, .int .i64 x.d, .int .i64 x.e, .int .i64 x.f, .int .i64 x.g, .int .i64 x.h, .int .i64 x.r] 25
  obtain ⟨s_VX, f_VX, z_VX⟩ := VX.open
  go_wp2_with fail
  refine (toSel_ok x _).mono ?_
  rintro e w1 ⟨rfl, b1⟩
  clear s_VX f_VX z_VX
  have S1 := b1.size
  simp only [World.size_alloc] at S1
  replace VX := VX.kept b1
  replace B := thenB B b1
  clear b1
  obtain ⟨s_VX, f_VX, z_VX⟩ := VX.open
  have Bo := B
  go_wp2_with fail
  refine (CS.out _).mono ?_
  rintro e w2 ⟨rfl, b2⟩
  clear s_VX f_VX z_VX
  have S2 := b2.size
  replace VX := VX.kept b2
  replace B := thenB B b2
  clear b2
  obtain ⟨s_VX, f_VX, z_VX⟩ := VX.open
  have Bo := B
  replace VX := VX.kept (belowA w2 (.cells #[.int .i64 k, .int .i64 f, .int .i64 t, .int .i64 r, .int .i64 l, .int .i64 u, .int .i64 v, .slice none 0 0] 30))
  replace B := thenB B (belowA w2 (.cells #[.int .i64 k, .int .i64 f, .int .i64 t, .int .i64 r, .int .i64 l, .int .i64 u, .int .i64 v, .slice none 0 0] 30))
  have VW := V.new w2 [.int .i64 k, .int .i64 f, .int .i64 t, .int .i64 r, .int .i64 l, .int .i64 u, .int .i64 v, .slice none 0 0] 30
  go_wp2_with fail
  refine (toSel_ok x _).mono ?_
  rintro e w3 ⟨rfl, b3⟩
  clear s_VX f_VX z_VX
  have S3 := b3.size
  simp only [World.size_alloc] at S3
  replace VX := VX.kept b3
  replace VW := VW.kept b3
  replace B := thenB B b3
  clear b3
  obtain ⟨s_VX, f_VX, z_VX⟩ := VX.open
  obtain ⟨s_VW, f_VW, z_VW⟩ := VW.open
  have Bo := B
  go_wp2_with fail
  refine (CI.out _).mono ?_
  rintro e w4 ⟨rfl, b4⟩
  clear s_VX f_VX z_VX s_VW f_VW z_VW
  have S4 := b4.size
  replace VX := VX.kept b4
  replace VW := VW.kept b4
  replace B := thenB B b4
  clear b4
  obtain ⟨s_VX, f_VX, z_VX⟩ := VX.open
  obtain ⟨s_VW, f_VW, z_VW⟩ := VW.open
  have Bo := B
  replace VX := VX.kept (belowA w4 (.cells #[.int .i64 k, .int .i64 f, .int .i64 t, .int .i64 r, .int .i64 l, .int .i64 u, .int .i64 v, .slice none 0 0] 30))
  replace VW := VW.kept (belowA w4 (.cells #[.int .i64 k, .int .i64 f, .int .i64 t, .int .i64 r, .int .i64 l, .int .i64 u, .int .i64 v, .slice none 0 0] 30))
  replace B := thenB B (belowA w4 (.cells #[.int .i64 k, .int .i64 f, .int .i64 t, .int .i64 r, .int .i64 l, .int .i64 u, .int .i64 v, .slice none 0 0] 30))
  have VG := V.new w4 [.int .i64 k, .int .i64 f, .int .i64 t, .int .i64 r, .int .i64 l, .int .i64 u, .int .i64 v, .slice none 0 0] 30
  go_wp2_with fail
  refine (eqPacketResult_ok k f t r l u v none none 0 0 0 [] _ Rd.nil Rd.nil rfl (Nat.zero_le _)).mono ?_
  rintro e w5 ⟨rfl, b5⟩
  clear s_VX f_VX z_VX s_VW f_VW z_VW
  have S5 := b5.size
  simp only [World.size_alloc] at S5
  replace VX := VX.kept b5
  replace VW := VW.kept b5
  replace VG := VG.kept b5
  replace B := thenB B b5
  clear b5
  obtain ⟨s_VX, f_VX, z_VX⟩ := VX.open
  obtain ⟨s_VW, f_VW, z_VW⟩ := VW.open
  obtain ⟨s_VG, f_VG, z_VG⟩ := VG.open
  have Bo := B
  go_wp2_with fail
  refine (markNil_ok k f t r l u v _).mono ?_
  rintro e w6 ⟨rfl, b6⟩
  clear s_VX f_VX z_VX s_VW f_VW z_VW s_VG f_VG z_VG
  have S6 := b6.size
  replace VX := VX.kept b6
  replace VW := VW.kept b6
  replace VG := VG.kept b6
  replace B := thenB B b6
  clear b6
  obtain ⟨s_VX, f_VX, z_VX⟩ := VX.open
  obtain ⟨s_VW, f_VW, z_VW⟩ := VW.open
  obtain ⟨s_VG, f_VG, z_VG⟩ := VG.open
  have Bo := B
  go_wp2_with fail
  refine (heldNil_ok k f t r l u v _).mono ?_
  rintro e w7 ⟨rfl, b7⟩
  clear s_VX f_VX z_VX s_VW f_VW z_VW s_VG f_VG z_VG
  have S7 := b7.size
  replace VX := VX.kept b7
  replace VW := VW.kept b7
  replace VG := VG.kept b7
  replace B := thenB B b7
  clear b7
  obtain ⟨s_VX, f_VX, z_VX⟩ := VX.open
  obtain ⟨s_VW, f_VW, z_VW⟩ := VW.open
  obtain ⟨s_VG, f_VG, z_VG⟩ := VG.open
  have Bo := B
  go_wp2_with fail
  refine (toSel_ok x _).mono ?_
  rintro e w8 ⟨rfl, b8⟩
  clear s_VX f_VX z_VX s_VW f_VW z_VW s_VG f_VG z_VG
  have S8 := b8.size
  replace VX := VX.kept b8
  replace VW := VW.kept b8
  replace VG := VG.kept b8
  replace B := thenB B b8
  clear b8
  obtain ⟨s_VX, f_VX, z_VX⟩ := VX.open
  obtain ⟨s_VW, f_VW, z_VW⟩ := VW.open
  obtain ⟨s_VG, f_VG, z_VG⟩ := VG.open
  have Bo := B
  go_wp2_with fail
  refine (CI.out _).mono ?_
  rintro e w9 ⟨rfl, b9⟩
  clear s_VX f_VX z_VX s_VW f_VW z_VW s_VG f_VG z_VG
  have S9 := b9.size
  replace VX := VX.kept b9
  replace VW := VW.kept b9
  replace VG := VG.kept b9
  replace B := thenB B b9
  clear b9
  obtain ⟨s_VX, f_VX, z_VX⟩ := VX.open
  obtain ⟨s_VW, f_VW, z_VW⟩ := VW.open
  obtain ⟨s_VG, f_VG, z_VG⟩ := VG.open
  have Bo := B
  replace VX := VX.kept (belowA w9 (.cells #[.int .i64 k, .int .i64 f, .int .i64 t, .int .i64 r, .int .i64 l, .int .i64 u, .int .i64 v, .slice none 0 0] 30))
  replace VW := VW.kept (belowA w9 (.cells #[.int .i64 k, .int .i64 f, .int .i64 t, .int .i64 r, .int .i64 l, .int .i64 u, .int .i64 v, .slice none 0 0] 30))
  replace VG := VG.kept (belowA w9 (.cells #[.int .i64 k, .int .i64 f, .int .i64 t, .int .i64 r, .int .i64 l, .int .i64 u, .int .i64 v, .slice none 0 0] 30))
  replace B := thenB B (belowA w9 (.cells #[.int .i64 k, .int .i64 f, .int .i64 t, .int .i64 r, .int .i64 l, .int .i64 u, .int .i64 v, .slice none 0 0] 30))
  have VH := V.new w9 [.int .i64 k, .int .i64 f, .int .i64 t, .int .i64 r, .int .i64 l, .int .i64 u, .int .i64 v, .slice none 0 0] 30
  go_wp2_with fail
  refine (eqPacketResult_ok k f t r l u v none none 0 0 0 [] _ Rd.nil Rd.nil rfl (Nat.zero_le _)).mono ?_
  rintro e w10 ⟨rfl, b10⟩
  clear s_VX f_VX z_VX s_VW f_VW z_VW s_VG f_VG z_VG
  have S10 := b10.size
  simp only [World.size_alloc] at S10
  replace VX := VX.kept b10
  replace VW := VW.kept b10
  replace VG := VG.kept b10
  replace VH := VH.kept b10
  replace B := thenB B b10
  clear b10
  obtain ⟨s_VX, f_VX, z_VX⟩ := VX.open
  obtain ⟨s_VW, f_VW, z_VW⟩ := VW.open
  obtain ⟨s_VG, f_VG, z_VG⟩ := VG.open
  obtain ⟨s_VH, f_VH, z_VH⟩ := VH.open
  have Bo := B
  go_wp2_with fail
  refine (heldNil_ok k f t r l u v _).mono ?_
  rintro e w11 ⟨rfl, b11⟩
  clear s_VX f_VX z_VX s_VW f_VW z_VW s_VG f_VG z_VG s_VH f_VH z_VH
  have S11 := b11.size
  replace VX := VX.kept b11
  replace VW := VW.kept b11
  replace VG := VG.kept b11
  replace VH := VH.kept b11
  replace B := thenB B b11
  clear b11
  obtain ⟨s_VX, f_VX, z_VX⟩ := VX.open
  obtain ⟨s_VW, f_VW, z_VW⟩ := VW.open
  obtain ⟨s_VG, f_VG, z_VG⟩ := VG.open
  obtain ⟨s_VH, f_VH, z_VH⟩ := VH.open
  have Bo := B
  go_wp2
  go_ret
  exact ⟨rfl, Bo⟩

end Go.Proofs.Ytmbkbbephmblmac
