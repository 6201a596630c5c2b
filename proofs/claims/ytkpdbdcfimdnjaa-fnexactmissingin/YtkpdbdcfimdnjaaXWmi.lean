/- The law on 'MissingIn': its walk. -/
import Derived.Test.YtkpdbdcfimdnjaaWnG
import Derived.Test.YtkpdbdcfimdnjaaWnH
namespace Go.Proofs.Ytkpdbdcfimdnjaa
open Go.RowKit


set_option maxRecDepth 20000 in
set_option maxHeartbeats 8000000 in
theorem xWmi_walk (x : Wn) (w : World) :
    Calls Try.prog 11 #[.agg #[.int .i64 x.t, .int .i64 x.b]] w fun e w' => e = .returned (.bool true) ∧ Below w.heap.size w w' := by
  have CS := Hid.mk (fun w => specMissing_ok x w)
  have CI := Hid.mk (fun w => implMissing_ok x w)
  have hm4 := miL_len x
  generalize wF x = kc at *
  generalize miL x = zs at *
  obtain ⟨kl, hkl0⟩ : ∃ m, zs.length = m := ⟨_, rfl⟩
  rw [hkl0] at CS CI hm4
  have hkl : kl ≤ maxLen := by unfold maxLen; omega
  have HK := Hid.mk hkl0
  clear hkl0
  have hmk : ¬ (1) < 0 := by omega
  go_enter Try.func11, Try.ntmps11
  have B := Below.refl w.heap.size w
  replace B := thenB B (belowA w (.cells #[.int .i64 x.t, .int .i64 x.b] 44))
  have VAx := V.new w [.int .i64 x.t, .int .i64 x.b] 44
  obtain ⟨s_VAx, f_VAx, z_VAx⟩ := VAx.open
  have Bo := B
  go_wp2_with fail
  refine (toWindow_ok x _).mono ?_
  rintro e w1 ⟨rfl, b1⟩
  clear s_VAx f_VAx z_VAx
  have S1 := b1.size
  simp only [World.size_alloc] at S1
  replace VAx := VAx.kept b1
  replace B := thenB B b1
  clear b1
  obtain ⟨s_VAx, f_VAx, z_VAx⟩ := VAx.open
  have Bo := B
  go_wp2_with fail
  refine (CS.out _).mono ?_
  rintro e w2 ⟨cw, dw, rfl, ow, b2⟩
  clear s_VAx f_VAx z_VAx
  have S2 := b2.size
  replace VAx := VAx.kept b2
  replace B := thenB B b2
  clear b2
  obtain ⟨s_VAx, f_VAx, z_VAx⟩ := VAx.open
  have Bo := B
  have L_ow : ∀ b : Addr, cw = some b → w1.heap.size ≤ b.block ∧ b.block < w2.heap.size := fun b hb => by have h := ow.lt b hb; (try simp only [World.size_alloc] at h); omega
  replace VAx := VAx.kept (belowA w2 (.cells #[.int .i64 kc, .slice cw kl dw] 30))
  replace ow := ow.kept (belowA w2 (.cells #[.int .i64 kc, .slice cw kl dw] 30))
  replace B := thenB B (belowA w2 (.cells #[.int .i64 kc, .slice cw kl dw] 30))
  have VW := V.new w2 [.int .i64 kc, .slice cw kl dw] 30
  clear s_VAx f_VAx z_VAx
  obtain ⟨s_VAx, f_VAx, z_VAx⟩ := VAx.open
  obtain ⟨s_VW, f_VW, z_VW⟩ := VW.open
  have Bo := B
  go_wp2_with fail
  refine (toWindow_ok x _).mono ?_
  rintro e w3 ⟨rfl, b3⟩
  clear s_VAx f_VAx z_VAx s_VW f_VW z_VW
  have S3 := b3.size
  simp only [World.size_alloc] at S3
  replace VAx := VAx.kept b3
  replace VW := VW.kept b3
  replace ow := ow.kept b3
  replace B := thenB B b3
  clear b3
  obtain ⟨s_VAx, f_VAx, z_VAx⟩ := VAx.open
  obtain ⟨s_VW, f_VW, z_VW⟩ := VW.open
  have Bo := B
  go_wp2_with fail
  refine (CI.out _).mono ?_
  rintro e w4 ⟨cg, dg, rfl, og, b4⟩
  clear s_VAx f_VAx z_VAx s_VW f_VW z_VW
  have S4 := b4.size
  replace VAx := VAx.kept b4
  replace VW := VW.kept b4
  replace ow := ow.kept b4
  replace B := thenB B b4
  clear b4
  obtain ⟨s_VAx, f_VAx, z_VAx⟩ := VAx.open
  obtain ⟨s_VW, f_VW, z_VW⟩ := VW.open
  have Bo := B
  have L_og : ∀ b : Addr, cg = some b → w3.heap.size ≤ b.block ∧ b.block < w4.heap.size := fun b hb => by have h := og.lt b hb; (try simp only [World.size_alloc] at h); omega
  replace VAx := VAx.kept (belowA w4 (.cells #[.int .i64 kc, .slice cg kl dg] 30))
  replace VW := VW.kept (belowA w4 (.cells #[.int .i64 kc, .slice cg kl dg] 30))
  replace ow := ow.kept (belowA w4 (.cells #[.int .i64 kc, .slice cg kl dg] 30))
  replace og := og.kept (belowA w4 (.cells #[.int .i64 kc, .slice cg kl dg] 30))
  replace B := thenB B (belowA w4 (.cells #[.int .i64 kc, .slice cg kl dg] 30))
  have VG := V.new w4 [.int .i64 kc, .slice cg kl dg] 30
  clear s_VAx f_VAx z_VAx s_VW f_VW z_VW
  obtain ⟨s_VAx, f_VAx, z_VAx⟩ := VAx.open
  obtain ⟨s_VW, f_VW, z_VW⟩ := VW.open
  obtain ⟨s_VG, f_VG, z_VG⟩ := VG.open
  have Bo := B
  go_wp2_with fail
  refine (eqIntsResult_ok kc cg cw kl dg dw zs _ og.rd ow.rd HK.out hkl).mono ?_
  rintro e w5 ⟨rfl, b5⟩
  clear s_VAx f_VAx z_VAx s_VW f_VW z_VW s_VG f_VG z_VG
  have S5 := b5.size
  simp only [World.size_alloc] at S5
  replace VAx := VAx.kept b5
  replace VW := VW.kept b5
  replace VG := VG.kept b5
  replace ow := ow.kept b5
  replace og := og.kept b5
  replace B := thenB B b5
  clear b5
  obtain ⟨s_VAx, f_VAx, z_VAx⟩ := VAx.open
  obtain ⟨s_VW, f_VW, z_VW⟩ := VW.open
  obtain ⟨s_VG, f_VG, z_VG⟩ := VG.open
  have Bo := B
  have hqm : ¬ (1 + (kl : Int)) < 0 := by omega
  go_wp2_with fail
  refine (markIntsResult_ok kc cg kl dg _ zs 1 _ og HK.out (by omega) (by omega)).mono ?_
  rintro e w6 ⟨rfl, oq, gm⟩
  clear s_VAx f_VAx z_VAx s_VW f_VW z_VW s_VG f_VG z_VG
  replace VAx := VAx.grownR gm (row_ne fun b hb => by have h := L_og b hb; omega)
  replace VW := VW.grownR gm (row_ne fun b hb => by have h := L_og b hb; omega)
  replace VG := VG.grownR gm (row_ne fun b hb => by have h := L_og b hb; omega)
  replace ow := ow.grown gm (fun b hb => row_ne fun b' hb' => by have h1 := L_ow b hb; have h2 := L_og b' hb'; omega)
  replace B := belowG B gm (by omega) (fun b hb => by have h := L_og b hb; omega)
  have S6 := gm.size
  clear gm og
  have og := oq
  clear oq
  obtain ⟨s_VAx, f_VAx, z_VAx⟩ := VAx.open
  obtain ⟨s_VW, f_VW, z_VW⟩ := VW.open
  obtain ⟨s_VG, f_VG, z_VG⟩ := VG.open
  have Bo := B
  go_wp2_with fail
  refine (heldIntsResult_ok kc cg kl dg 1 _ og.rd (by omega) (by omega)).mono ?_
  rintro e w7 ⟨rfl, b7⟩
  clear s_VAx f_VAx z_VAx s_VW f_VW z_VW s_VG f_VG z_VG
  have S7 := b7.size
  replace VAx := VAx.kept b7
  replace VW := VW.kept b7
  replace VG := VG.kept b7
  replace ow := ow.kept b7
  replace og := og.kept b7
  replace B := thenB B b7
  clear b7
  obtain ⟨s_VAx, f_VAx, z_VAx⟩ := VAx.open
  obtain ⟨s_VW, f_VW, z_VW⟩ := VW.open
  obtain ⟨s_VG, f_VG, z_VG⟩ := VG.open
  have Bo := B
  go_wp2_with fail
  refine (toWindow_ok x _).mono ?_
  rintro e w8 ⟨rfl, b8⟩
  clear s_VAx f_VAx z_VAx s_VW f_VW z_VW s_VG f_VG z_VG
  have S8 := b8.size
  replace VAx := VAx.kept b8
  replace VW := VW.kept b8
  replace VG := VG.kept b8
  replace ow := ow.kept b8
  replace og := og.kept b8
  replace B := thenB B b8
  clear b8
  obtain ⟨s_VAx, f_VAx, z_VAx⟩ := VAx.open
  obtain ⟨s_VW, f_VW, z_VW⟩ := VW.open
  obtain ⟨s_VG, f_VG, z_VG⟩ := VG.open
  have Bo := B
  go_wp2_with fail
  refine (CI.out _).mono ?_
  rintro e w9 ⟨ch, dh, rfl, oh, b9⟩
  clear s_VAx f_VAx z_VAx s_VW f_VW z_VW s_VG f_VG z_VG
  have S9 := b9.size
  replace VAx := VAx.kept b9
  replace VW := VW.kept b9
  replace VG := VG.kept b9
  replace ow := ow.kept b9
  replace og := og.kept b9
  replace B := thenB B b9
  clear b9
  obtain ⟨s_VAx, f_VAx, z_VAx⟩ := VAx.open
  obtain ⟨s_VW, f_VW, z_VW⟩ := VW.open
  obtain ⟨s_VG, f_VG, z_VG⟩ := VG.open
  have Bo := B
  have L_oh : ∀ b : Addr, ch = some b → w8.heap.size ≤ b.block ∧ b.block < w9.heap.size := fun b hb => by have h := oh.lt b hb; (try simp only [World.size_alloc] at h); omega
  replace VAx := VAx.kept (belowA w9 (.cells #[.int .i64 kc, .slice ch kl dh] 30))
  replace VW := VW.kept (belowA w9 (.cells #[.int .i64 kc, .slice ch kl dh] 30))
  replace VG := VG.kept (belowA w9 (.cells #[.int .i64 kc, .slice ch kl dh] 30))
  replace ow := ow.kept (belowA w9 (.cells #[.int .i64 kc, .slice ch kl dh] 30))
  replace og := og.kept (belowA w9 (.cells #[.int .i64 kc, .slice ch kl dh] 30))
  replace oh := oh.kept (belowA w9 (.cells #[.int .i64 kc, .slice ch kl dh] 30))
  replace B := thenB B (belowA w9 (.cells #[.int .i64 kc, .slice ch kl dh] 30))
  have VH := V.new w9 [.int .i64 kc, .slice ch kl dh] 30
  clear s_VAx f_VAx z_VAx s_VW f_VW z_VW s_VG f_VG z_VG
  obtain ⟨s_VAx, f_VAx, z_VAx⟩ := VAx.open
  obtain ⟨s_VW, f_VW, z_VW⟩ := VW.open
  obtain ⟨s_VG, f_VG, z_VG⟩ := VG.open
  obtain ⟨s_VH, f_VH, z_VH⟩ := VH.open
  have Bo := B
  go_wp2_with fail
  refine (eqIntsResult_ok kc ch cw kl dh dw zs _ oh.rd ow.rd HK.out hkl).mono ?_
  rintro e w10 ⟨rfl, b10⟩
  clear s_VAx f_VAx z_VAx s_VW f_VW z_VW s_VG f_VG z_VG s_VH f_VH z_VH
  have S10 := b10.size
  simp only [World.size_alloc] at S10
  replace VAx := VAx.kept b10
  replace VW := VW.kept b10
  replace VG := VG.kept b10
  replace VH := VH.kept b10
  replace ow := ow.kept b10
  replace og := og.kept b10
  replace oh := oh.kept b10
  replace B := thenB B b10
  clear b10
  obtain ⟨s_VAx, f_VAx, z_VAx⟩ := VAx.open
  obtain ⟨s_VW, f_VW, z_VW⟩ := VW.open
  obtain ⟨s_VG, f_VG, z_VG⟩ := VG.open
  obtain ⟨s_VH, f_VH, z_VH⟩ := VH.open
  have Bo := B
  go_wp2_with fail
  refine (heldIntsResult_ok kc cg kl dg 1 _ og.rd (by omega) (by omega)).mono ?_
  rintro e w11 ⟨rfl, b11⟩
  clear s_VAx f_VAx z_VAx s_VW f_VW z_VW s_VG f_VG z_VG s_VH f_VH z_VH
  have S11 := b11.size
  replace VAx := VAx.kept b11
  replace VW := VW.kept b11
  replace VG := VG.kept b11
  replace VH := VH.kept b11
  replace ow := ow.kept b11
  replace og := og.kept b11
  replace oh := oh.kept b11
  replace B := thenB B b11
  clear b11
  obtain ⟨s_VAx, f_VAx, z_VAx⟩ := VAx.open
  obtain ⟨s_VW, f_VW, z_VW⟩ := VW.open
  obtain ⟨s_VG, f_VG, z_VG⟩ := VG.open
  obtain ⟨s_VH, f_VH, z_VH⟩ := VH.open
  have Bo := B
  go_wp2
  go_ret
  exact ⟨rfl, Bo⟩

end Go.Proofs.Ytkpdbdcfimdnjaa
