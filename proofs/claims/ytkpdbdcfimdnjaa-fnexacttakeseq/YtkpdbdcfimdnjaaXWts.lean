/- The law on 'TakeSeq': its walk. -/
import Derived.Test.YtkpdbdcfimdnjaaWnE
import Derived.Test.YtkpdbdcfimdnjaaWnH
namespace Go.Proofs.Ytkpdbdcfimdnjaa
open Go.RowKit


set_option maxRecDepth 20000 in
set_option maxHeartbeats 8000000 in
theorem xWts_walk (x : Wn) (s : Int) (w : World) (hs : -9223372036854775808 ≤ s ∧ s ≤ 9223372036854775807) :
    Calls Try.prog 7 #[.agg #[.int .i64 x.t, .int .i64 x.b], .int .i64 s] w fun e w' => e = .returned (.bool true) ∧ Below w.heap.size w w' := by
  have CS := Hid.mk (fun w => specTake_ok x s hs w)
  have CI := Hid.mk (fun w => implTake_ok x s hs w)
  generalize tsR x s = P at *
  obtain ⟨kc, kv, zq⟩ := P
  simp only at CS CI
  go_enter Try.func7, Try.ntmps7
  have B := Below.refl w.heap.size w
  replace B := thenB B (belowA w (.cells #[.int .i64 x.t, .int .i64 x.b] 44))
  have VAx := V.new w [.int .i64 x.t, .int .i64 x.b] 44
  obtain ⟨s_VAx, f_VAx, z_VAx⟩ := VAx.open
  have Bo := B
  go_wp2_with fail
  refine (toWindow_ok x _).mono ?_
  rintro e w1 ⟨rfl, b1⟩
  clear s_VAx f_VAx z_VAx
  have S1 := b1.size
  simp only [World.size_alloc] at S1
  replace VAx := VAx.kept b1
  replace B := thenB B b1
  clear b1
  obtain ⟨s_VAx, f_VAx, z_VAx⟩ := VAx.open
  have Bo := B
  go_wp2_with fail
  refine (CS.out _).mono ?_
  rintro e w2 ⟨rfl, b2⟩
  clear s_VAx f_VAx z_VAx
  have S2 := b2.size
  replace VAx := VAx.kept b2
  replace B := thenB B b2
  clear b2
  obtain ⟨s_VAx, f_VAx, z_VAx⟩ := VAx.open
  have Bo := B
  replace VAx := VAx.kept (belowA w2 (.cells #[.int .i64 kc, .int .i64 kv, .int .i64 zq.t, .int .i64 zq.b] 35))
  replace B := thenB B (belowA w2 (.cells #[.int .i64 kc, .int .i64 kv, .int .i64 zq.t, .int .i64 zq.b] 35))
  have VW := V.new w2 [.int .i64 kc, .int .i64 kv, .int .i64 zq.t, .int .i64 zq.b] 35
  clear s_VAx f_VAx z_VAx
  obtain ⟨s_VAx, f_VAx, z_VAx⟩ := VAx.open
  obtain ⟨s_VW, f_VW, z_VW⟩ := VW.open
  have Bo := B
  go_wp2_with fail
  refine (toWindow_ok x _).mono ?_
  rintro e w3 ⟨rfl, b3⟩
  clear s_VAx f_VAx z_VAx s_VW f_VW z_VW
  have S3 := b3.size
  simp only [World.size_alloc] at S3
  replace VAx := VAx.kept b3
  replace VW := VW.kept b3
  replace B := thenB B b3
  clear b3
  obtain ⟨s_VAx, f_VAx, z_VAx⟩ := VAx.open
  obtain ⟨s_VW, f_VW, z_VW⟩ := VW.open
  have Bo := B
  go_wp2_with fail
  refine (CI.out _).mono ?_
  rintro e w4 ⟨rfl, b4⟩
  clear s_VAx f_VAx z_VAx s_VW f_VW z_VW
  have S4 := b4.size
  replace VAx := VAx.kept b4
  replace VW := VW.kept b4
  replace B := thenB B b4
  clear b4
  obtain ⟨s_VAx, f_VAx, z_VAx⟩ := VAx.open
  obtain ⟨s_VW, f_VW, z_VW⟩ := VW.open
  have Bo := B
  replace VAx := VAx.kept (belowA w4 (.cells #[.int .i64 kc, .int .i64 kv, .int .i64 zq.t, .int .i64 zq.b] 35))
  replace VW := VW.kept (belowA w4 (.cells #[.int .i64 kc, .int .i64 kv, .int .i64 zq.t, .int .i64 zq.b] 35))
  replace B := thenB B (belowA w4 (.cells #[.int .i64 kc, .int .i64 kv, .int .i64 zq.t, .int .i64 zq.b] 35))
  have VG := V.new w4 [.int .i64 kc, .int .i64 kv, .int .i64 zq.t, .int .i64 zq.b] 35
  clear s_VAx f_VAx z_VAx s_VW f_VW z_VW
  obtain ⟨s_VAx, f_VAx, z_VAx⟩ := VAx.open
  obtain ⟨s_VW, f_VW, z_VW⟩ := VW.open
  obtain ⟨s_VG, f_VG, z_VG⟩ := VG.open
  have Bo := B
  go_wp2_with fail
  refine (eqWindowResult_ok kc kv zq _).mono ?_
  rintro e w5 ⟨rfl, b5⟩
  clear s_VAx f_VAx z_VAx s_VW f_VW z_VW s_VG f_VG z_VG
  have S5 := b5.size
  simp only [World.size_alloc] at S5
  replace VAx := VAx.kept b5
  replace VW := VW.kept b5
  replace VG := VG.kept b5
  replace B := thenB B b5
  clear b5
  obtain ⟨s_VAx, f_VAx, z_VAx⟩ := VAx.open
  obtain ⟨s_VW, f_VW, z_VW⟩ := VW.open
  obtain ⟨s_VG, f_VG, z_VG⟩ := VG.open
  have Bo := B
  go_wp2
  go_ret
  exact ⟨rfl, Bo⟩

end Go.Proofs.Ytkpdbdcfimdnjaa
