/- The law on 'SelFault': its walk. -/
import Derived.Test.YtmbkbbephmblmaaSelF
import Derived.Test.YtmbkbbephmblmaaSelG
import Derived.Test.YtmbkbbephmblmaaSelH
namespace Go.Proofs.Ytmbkbbephmblmaa
open Go.RowKit

set_option maxHeartbeats 2000000 in
theorem xSelF_walk (x : S9) (w : World) :
    Calls Try.prog 6 #[.agg #[.int .i64 x.a, .int .i64 x.b, .int .i64 x.c, .int .i64 x.d, .int .i64 x.e, .int .i64 x.f, .int .i64 x.g, .int .i64 x.h, .int .i64 x.r]] w fun e w' => e = .returned (.bool true) ∧ Below w.heap.size w w' := by
  have CS := Hid.mk (fun w => specSelFault_ok x w)
  have CI := Hid.mk (fun w => implSelFault_ok x w)
  generalize sfC x = k at *
  go_enter Try.func6, Try.ntmps6
  have B := Below.refl w.heap.size w
  replace B := thenB B (belowA w (.cells #[.int .i64 x.a, .int .i64 x.b, .int .i64 x.c, .int .i64 x.d, .int .i64 x.e, .int .i64 x.f, .int .i64 x.g, .int .i64 x.h, .int .i64 x.r] 57))
  have VX := V.new w [.int .i64 x.a, .int .i64 x.b, .int .i64 x.c, .int .i64 x.d, .int .i64 x.e, .int .i64 x.f, .int .i64 x.g, .int .i64 x.h, .int .i64 x.r] 57
  obtain ⟨s_VX, f_VX, z_VX⟩ := VX.open
  go_wp2_with fail
  refine (toSel_ok x _).mono ?_
  rintro e w1 ⟨rfl, b1⟩
  clear s_VX f_VX z_VX
  have S1 := b1.size
  simp only [World.size_alloc] at S1
  replace VX := VX.kept b1
  replace B := thenB B b1
  clear b1
  obtain ⟨s_VX, f_VX, z_VX⟩ := VX.open
  have Bo := B
  go_wp2_with fail
  refine (CS.out _).mono ?_
  rintro e w2 ⟨rfl, b2⟩
  clear s_VX f_VX z_VX
  have S2 := b2.size
  replace VX := VX.kept b2
  replace B := thenB B b2
  clear b2
  obtain ⟨s_VX, f_VX, z_VX⟩ := VX.open
  have Bo := B
  go_wp2_with fail
  refine (toSel_ok x _).mono ?_
  rintro e w3 ⟨rfl, b3⟩
  clear s_VX f_VX z_VX
  have S3 := b3.size
  replace VX := VX.kept b3
  replace B := thenB B b3
  clear b3
  obtain ⟨s_VX, f_VX, z_VX⟩ := VX.open
  have Bo := B
  go_wp2_with fail
  refine (CI.out _).mono ?_
  rintro e w4 ⟨rfl, b4⟩
  clear s_VX f_VX z_VX
  have S4 := b4.size
  replace VX := VX.kept b4
  replace B := thenB B b4
  clear b4
  obtain ⟨s_VX, f_VX, z_VX⟩ := VX.open
  have Bo := B
  go_wp2
  go_ret
  exact ⟨rfl, Bo⟩

end Go.Proofs.Ytmbkbbephmblmaa
