/- The law on 'TakeAll': its walk. -/
import Derived.Test.YtkpdbdcfimdnjaaWnI
import Derived.Test.YtkpdbdcfimdnjaaWnH
import Derived.Test.YtkpdbdcfimdnjaaIntT
namespace Go.Proofs.Ytkpdbdcfimdnjaa
open Go.RowKit


set_option maxRecDepth 20000 in
set_option maxHeartbeats 8000000 in
theorem xWta_walk (x : Wn) (al : Option Addr) (nl cl : Nat) (zsl : List Int) (w : World) (hRl : Rd .i64 w al zsl) (hnl : zsl.length = nl) (hxl : nl ≤ maxLen) (hzb : ∀ z ∈ zsl, -9223372036854775808 ≤ z ∧ z ≤ 9223372036854775807) :
    Calls Try.prog 10 #[.agg #[.int .i64 x.t, .int .i64 x.b], .slice al nl cl] w fun e w' => e = .returned (.bool true) ∧ Below w.heap.size w w' := by
  by_cases hLl : (nl : Int) ≤ 1048576
  · skip
    have CTl := Hid.mk (fun w h => toInt64S_ok al nl cl zsl w h hnl (by omega))
    have CEl := Hid.mk (fun c c' d d' w h h' => eqInt64S_ok c c' nl d d' zsl w h h' hnl hxl)
    have CS := Hid.mk (fun c d w h => specAll_ok x c nl d zsl hzb w h hnl (by omega))
    have CI := Hid.mk (fun c d w h => implAll_ok x c nl d zsl hzb w h hnl (by omega))
    have hm4 := taL_len x zsl
    generalize taC x zsl = kc at *
    generalize taL x zsl = zs at *
    obtain ⟨kl, hkl0⟩ : ∃ m, zs.length = m := ⟨_, rfl⟩
    rw [hkl0] at CS CI hm4
    have hkl : kl ≤ maxLen := by unfold maxLen; omega
    have HK := Hid.mk hkl0
    clear hkl0
    have CMl := Hid.mk (fun c d base w h => markInt64S_ok c nl d base zsl (1) w h hnl (by omega) (by omega))
    have hmk : ¬ (1 + (nl : Int)) < 0 := by omega
    have hL2l : ¬ ((1048576 : Int) < (nl : Int)) := by omega
    have hL3l : decide ((1048576 : Int) < (nl : Int)) = false := by simp; omega
    clear hnl hLl
    go_enter Try.func10, Try.ntmps10
    have B := Below.refl w.heap.size w
    have HWl := Hid.mk hRl
    replace hRl := hRl.kept (belowA w (.cells #[.int .i64 x.t, .int .i64 x.b] 44))
    replace B := thenB B (belowA w (.cells #[.int .i64 x.t, .int .i64 x.b] 44))
    have VAx := V.new w [.int .i64 x.t, .int .i64 x.b] 44
    obtain ⟨s_VAx, f_VAx, z_VAx⟩ := VAx.open
    have Bo := B
    go_wp2_with fail
    refine (toWindow_ok x _).mono ?_
    rintro e w1 ⟨rfl, b1⟩
    clear s_VAx f_VAx z_VAx
    have S1 := b1.size
    simp only [World.size_alloc] at S1
    replace VAx := VAx.kept b1
    replace hRl := hRl.kept b1
    replace B := thenB B b1
    clear b1
    obtain ⟨s_VAx, f_VAx, z_VAx⟩ := VAx.open
    have Bo := B
    go_wp2_with fail
    refine (CTl.out _ hRl).mono ?_
    rintro e w2 ⟨rfl, pl, b2⟩
    clear s_VAx f_VAx z_VAx
    have S2 := b2.size
    replace VAx := VAx.kept b2
    replace hRl := hRl.kept b2
    replace B := thenB B b2
    clear b2
    obtain ⟨s_VAx, f_VAx, z_VAx⟩ := VAx.open
    have Bo := B
    have L_pl : ∀ b : Addr, (some ⟨w1.heap.size, 0, none⟩) = some b → w1.heap.size ≤ b.block ∧ b.block < w2.heap.size := fun b hb => by have h := pl.lt b hb; (try simp only [World.size_alloc] at h); omega
    go_wp2_with fail
    refine (CS.out _ _ _ pl.rd).mono ?_
    rintro e w3 ⟨cw, dw, rfl, ow, b3⟩
    clear s_VAx f_VAx z_VAx
    have S3 := b3.size
    replace VAx := VAx.kept b3
    replace hRl := hRl.kept b3
    replace pl := pl.kept b3
    replace B := thenB B b3
    clear b3
    obtain ⟨s_VAx, f_VAx, z_VAx⟩ := VAx.open
    have Bo := B
    have L_ow : ∀ b : Addr, cw = some b → w2.heap.size ≤ b.block ∧ b.block < w3.heap.size := fun b hb => by have h := ow.lt b hb; (try simp only [World.size_alloc] at h); omega
    clear L_pl
    clear pl
    replace VAx := VAx.kept (belowA w3 (.cells #[.int .i64 kc, .slice cw kl dw] 30))
    replace hRl := hRl.kept (belowA w3 (.cells #[.int .i64 kc, .slice cw kl dw] 30))
    replace ow := ow.kept (belowA w3 (.cells #[.int .i64 kc, .slice cw kl dw] 30))
    replace B := thenB B (belowA w3 (.cells #[.int .i64 kc, .slice cw kl dw] 30))
    have VW := V.new w3 [.int .i64 kc, .slice cw kl dw] 30
    clear s_VAx f_VAx z_VAx
    obtain ⟨s_VAx, f_VAx, z_VAx⟩ := VAx.open
    obtain ⟨s_VW, f_VW, z_VW⟩ := VW.open
    have Bo := B
    go_wp2_with fail
    refine (CTl.out _ hRl).mono ?_
    rintro e w4 ⟨rfl, ql, b4⟩
    clear s_VAx f_VAx z_VAx s_VW f_VW z_VW
    have S4 := b4.size
    simp only [World.size_alloc] at S4
    replace VAx := VAx.kept b4
    replace VW := VW.kept b4
    replace hRl := hRl.kept b4
    replace ow := ow.kept b4
    replace B := thenB B b4
    clear b4
    obtain ⟨s_VAx, f_VAx, z_VAx⟩ := VAx.open
    obtain ⟨s_VW, f_VW, z_VW⟩ := VW.open
    have Bo := B
    simp only [World.size_alloc] at ql
    have L_ql : ∀ b : Addr, (some ⟨w3.heap.size + 1, 0, none⟩) = some b → w3.heap.size + 1 ≤ b.block ∧ b.block < w4.heap.size := fun b hb => by have h := ql.lt b hb; (try simp only [World.size_alloc] at h); omega
    go_wp2_with fail
    refine (toWindow_ok x _).mono ?_
    rintro e w5 ⟨rfl, b5⟩
    clear s_VAx f_VAx z_VAx s_VW f_VW z_VW
    have S5 := b5.size
    replace VAx := VAx.kept b5
    replace VW := VW.kept b5
    replace hRl := hRl.kept b5
    replace ow := ow.kept b5
    replace ql := ql.kept b5
    replace B := thenB B b5
    clear b5
    obtain ⟨s_VAx, f_VAx, z_VAx⟩ := VAx.open
    obtain ⟨s_VW, f_VW, z_VW⟩ := VW.open
    have Bo := B
    go_wp2_with fail
    refine (CI.out _ _ _ ql.rd).mono ?_
    rintro e w6 ⟨cg, dg, rfl, og, b6⟩
    clear s_VAx f_VAx z_VAx s_VW f_VW z_VW
    have S6 := b6.size
    replace VAx := VAx.kept b6
    replace VW := VW.kept b6
    replace hRl := hRl.kept b6
    replace ow := ow.kept b6
    replace ql := ql.kept b6
    replace B := thenB B b6
    clear b6
    obtain ⟨s_VAx, f_VAx, z_VAx⟩ := VAx.open
    obtain ⟨s_VW, f_VW, z_VW⟩ := VW.open
    have Bo := B
    have L_og : ∀ b : Addr, cg = some b → w5.heap.size ≤ b.block ∧ b.block < w6.heap.size := fun b hb => by have h := og.lt b hb; (try simp only [World.size_alloc] at h); omega
    replace VAx := VAx.kept (belowA w6 (.cells #[.int .i64 kc, .slice cg kl dg] 30))
    replace VW := VW.kept (belowA w6 (.cells #[.int .i64 kc, .slice cg kl dg] 30))
    replace hRl := hRl.kept (belowA w6 (.cells #[.int .i64 kc, .slice cg kl dg] 30))
    replace ow := ow.kept (belowA w6 (.cells #[.int .i64 kc, .slice cg kl dg] 30))
    replace ql := ql.kept (belowA w6 (.cells #[.int .i64 kc, .slice cg kl dg] 30))
    replace og := og.kept (belowA w6 (.cells #[.int .i64 kc, .slice cg kl dg] 30))
    replace B := thenB B (belowA w6 (.cells #[.int .i64 kc, .slice cg kl dg] 30))
    have VG := V.new w6 [.int .i64 kc, .slice cg kl dg] 30
    clear s_VAx f_VAx z_VAx s_VW f_VW z_VW
    obtain ⟨s_VAx, f_VAx, z_VAx⟩ := VAx.open
    obtain ⟨s_VW, f_VW, z_VW⟩ := VW.open
    obtain ⟨s_VG, f_VG, z_VG⟩ := VG.open
    have Bo := B
    go_wp2_with fail
    refine (eqIntsResult_ok kc cg cw kl dg dw zs _ og.rd ow.rd HK.out hkl).mono ?_
    rintro e w7 ⟨rfl, b7⟩
    clear s_VAx f_VAx z_VAx s_VW f_VW z_VW s_VG f_VG z_VG
    have S7 := b7.size
    simp only [World.size_alloc] at S7
    replace VAx := VAx.kept b7
    replace VW := VW.kept b7
    replace VG := VG.kept b7
    replace hRl := hRl.kept b7
    replace ow := ow.kept b7
    replace ql := ql.kept b7
    replace og := og.kept b7
    replace B := thenB B b7
    clear b7
    obtain ⟨s_VAx, f_VAx, z_VAx⟩ := VAx.open
    obtain ⟨s_VW, f_VW, z_VW⟩ := VW.open
    obtain ⟨s_VG, f_VG, z_VG⟩ := VG.open
    have Bo := B
    go_wp2_with fail
    refine (CTl.out _ hRl).mono ?_
    rintro e w8 ⟨rfl, rl, b8⟩
    clear s_VAx f_VAx z_VAx s_VW f_VW z_VW s_VG f_VG z_VG
    have S8 := b8.size
    replace VAx := VAx.kept b8
    replace VW := VW.kept b8
    replace VG := VG.kept b8
    replace hRl := hRl.kept b8
    replace ow := ow.kept b8
    replace ql := ql.kept b8
    replace og := og.kept b8
    replace B := thenB B b8
    clear b8
    obtain ⟨s_VAx, f_VAx, z_VAx⟩ := VAx.open
    obtain ⟨s_VW, f_VW, z_VW⟩ := VW.open
    obtain ⟨s_VG, f_VG, z_VG⟩ := VG.open
    have Bo := B
    have L_rl : ∀ b : Addr, (some ⟨w7.heap.size, 0, none⟩) = some b → w7.heap.size ≤ b.block ∧ b.block < w8.heap.size := fun b hb => by have h := rl.lt b hb; (try simp only [World.size_alloc] at h); omega
    go_wp2_with fail
    refine (CEl.out _ _ _ _ _ ql.rd rl.rd).mono ?_
    rintro e w9 ⟨rfl, b9⟩
    clear s_VAx f_VAx z_VAx s_VW f_VW z_VW s_VG f_VG z_VG
    have S9 := b9.size
    replace VAx := VAx.kept b9
    replace VW := VW.kept b9
    replace VG := VG.kept b9
    replace hRl := hRl.kept b9
    replace ow := ow.kept b9
    replace ql := ql.kept b9
    replace og := og.kept b9
    replace rl := rl.kept b9
    replace B := thenB B b9
    clear b9
    obtain ⟨s_VAx, f_VAx, z_VAx⟩ := VAx.open
    obtain ⟨s_VW, f_VW, z_VW⟩ := VW.open
    obtain ⟨s_VG, f_VG, z_VG⟩ := VG.open
    have Bo := B
    clear L_rl
    clear rl
    go_wp2_with fail
    refine (CMl.out _ _ _ _ ql).mono ?_
    rintro e w10 ⟨rfl, oq, gm⟩
    clear s_VAx f_VAx z_VAx s_VW f_VW z_VW s_VG f_VG z_VG
    replace VAx := VAx.grownR gm (row_ne fun b hb => by have h := L_ql b hb; omega)
    replace VW := VW.grownR gm (row_ne fun b hb => by have h := L_ql b hb; omega)
    replace VG := VG.grownR gm (row_ne fun b hb => by have h := L_ql b hb; omega)
    replace ow := ow.grown gm (fun b hb => row_ne fun b' hb' => by have h1 := L_ow b hb; have h2 := L_ql b' hb'; omega)
    replace og := og.grown gm (fun b hb => row_ne fun b' hb' => by have h1 := L_og b hb; have h2 := L_ql b' hb'; omega)
    replace B := belowG B gm (by omega) (fun b hb => by have h := L_ql b hb; omega)
    replace hRl := HWl.out.kept B
    have S10 := gm.size
    clear gm ql
    have ql := oq
    clear oq
    obtain ⟨s_VAx, f_VAx, z_VAx⟩ := VAx.open
    obtain ⟨s_VW, f_VW, z_VW⟩ := VW.open
    obtain ⟨s_VG, f_VG, z_VG⟩ := VG.open
    have Bo := B
    go_wp2_with fail
    refine (eqIntsResult_ok kc cg cw kl dg dw zs _ og.rd ow.rd HK.out hkl).mono ?_
    rintro e w11 ⟨rfl, b11⟩
    clear s_VAx f_VAx z_VAx s_VW f_VW z_VW s_VG f_VG z_VG
    have S11 := b11.size
    replace VAx := VAx.kept b11
    replace VW := VW.kept b11
    replace VG := VG.kept b11
    replace hRl := hRl.kept b11
    replace ow := ow.kept b11
    replace ql := ql.kept b11
    replace og := og.kept b11
    replace B := thenB B b11
    clear b11
    obtain ⟨s_VAx, f_VAx, z_VAx⟩ := VAx.open
    obtain ⟨s_VW, f_VW, z_VW⟩ := VW.open
    obtain ⟨s_VG, f_VG, z_VG⟩ := VG.open
    have Bo := B
    have hqm : ¬ (1 + (kl : Int)) < 0 := by omega
    go_wp2_with fail
    refine (markIntsResult_ok kc cg kl dg _ zs 1 _ og HK.out (by omega) (by omega)).mono ?_
    rintro e w12 ⟨rfl, oq, gm⟩
    clear s_VAx f_VAx z_VAx s_VW f_VW z_VW s_VG f_VG z_VG
    replace VAx := VAx.grownR gm (row_ne fun b hb => by have h := L_og b hb; omega)
    replace VW := VW.grownR gm (row_ne fun b hb => by have h := L_og b hb; omega)
    replace VG := VG.grownR gm (row_ne fun b hb => by have h := L_og b hb; omega)
    replace ow := ow.grown gm (fun b hb => row_ne fun b' hb' => by have h1 := L_ow b hb; have h2 := L_og b' hb'; omega)
    replace ql := ql.grown gm (fun b hb => row_ne fun b' hb' => by have h1 := L_ql b hb; have h2 := L_og b' hb'; omega)
    replace B := belowG B gm (by omega) (fun b hb => by have h := L_og b hb; omega)
    replace hRl := HWl.out.kept B
    have S12 := gm.size
    clear gm og
    have og := oq
    clear oq
    obtain ⟨s_VAx, f_VAx, z_VAx⟩ := VAx.open
    obtain ⟨s_VW, f_VW, z_VW⟩ := VW.open
    obtain ⟨s_VG, f_VG, z_VG⟩ := VG.open
    have Bo := B
    go_wp2_with fail
    refine (heldIntsResult_ok kc cg kl dg 1 _ og.rd (by omega) (by omega)).mono ?_
    rintro e w13 ⟨rfl, b13⟩
    clear s_VAx f_VAx z_VAx s_VW f_VW z_VW s_VG f_VG z_VG
    have S13 := b13.size
    replace VAx := VAx.kept b13
    replace VW := VW.kept b13
    replace VG := VG.kept b13
    replace hRl := hRl.kept b13
    replace ow := ow.kept b13
    replace ql := ql.kept b13
    replace og := og.kept b13
    replace B := thenB B b13
    clear b13
    obtain ⟨s_VAx, f_VAx, z_VAx⟩ := VAx.open
    obtain ⟨s_VW, f_VW, z_VW⟩ := VW.open
    obtain ⟨s_VG, f_VG, z_VG⟩ := VG.open
    have Bo := B
    go_wp2_with fail
    refine (toWindow_ok x _).mono ?_
    rintro e w14 ⟨rfl, b14⟩
    clear s_VAx f_VAx z_VAx s_VW f_VW z_VW s_VG f_VG z_VG
    have S14 := b14.size
    replace VAx := VAx.kept b14
    replace VW := VW.kept b14
    replace VG := VG.kept b14
    replace hRl := hRl.kept b14
    replace ow := ow.kept b14
    replace ql := ql.kept b14
    replace og := og.kept b14
    replace B := thenB B b14
    clear b14
    obtain ⟨s_VAx, f_VAx, z_VAx⟩ := VAx.open
    obtain ⟨s_VW, f_VW, z_VW⟩ := VW.open
    obtain ⟨s_VG, f_VG, z_VG⟩ := VG.open
    have Bo := B
    go_wp2_with fail
    refine (CTl.out _ hRl).mono ?_
    rintro e w15 ⟨rfl, sl, b15⟩
    clear s_VAx f_VAx z_VAx s_VW f_VW z_VW s_VG f_VG z_VG
    have S15 := b15.size
    replace VAx := VAx.kept b15
    replace VW := VW.kept b15
    replace VG := VG.kept b15
    replace hRl := hRl.kept b15
    replace ow := ow.kept b15
    replace ql := ql.kept b15
    replace og := og.kept b15
    replace B := thenB B b15
    clear b15
    obtain ⟨s_VAx, f_VAx, z_VAx⟩ := VAx.open
    obtain ⟨s_VW, f_VW, z_VW⟩ := VW.open
    obtain ⟨s_VG, f_VG, z_VG⟩ := VG.open
    have Bo := B
    have L_sl : ∀ b : Addr, (some ⟨w14.heap.size, 0, none⟩) = some b → w14.heap.size ≤ b.block ∧ b.block < w15.heap.size := fun b hb => by have h := sl.lt b hb; (try simp only [World.size_alloc] at h); omega
    go_wp2_with fail
    refine (CI.out _ _ _ sl.rd).mono ?_
    rintro e w16 ⟨ch, dh, rfl, oh, b16⟩
    clear s_VAx f_VAx z_VAx s_VW f_VW z_VW s_VG f_VG z_VG
    have S16 := b16.size
    replace VAx := VAx.kept b16
    replace VW := VW.kept b16
    replace VG := VG.kept b16
    replace hRl := hRl.kept b16
    replace ow := ow.kept b16
    replace ql := ql.kept b16
    replace og := og.kept b16
    replace sl := sl.kept b16
    replace B := thenB B b16
    clear b16
    obtain ⟨s_VAx, f_VAx, z_VAx⟩ := VAx.open
    obtain ⟨s_VW, f_VW, z_VW⟩ := VW.open
    obtain ⟨s_VG, f_VG, z_VG⟩ := VG.open
    have Bo := B
    have L_oh : ∀ b : Addr, ch = some b → w15.heap.size ≤ b.block ∧ b.block < w16.heap.size := fun b hb => by have h := oh.lt b hb; (try simp only [World.size_alloc] at h); omega
    clear L_sl
    clear sl
    replace VAx := VAx.kept (belowA w16 (.cells #[.int .i64 kc, .slice ch kl dh] 30))
    replace VW := VW.kept (belowA w16 (.cells #[.int .i64 kc, .slice ch kl dh] 30))
    replace VG := VG.kept (belowA w16 (.cells #[.int .i64 kc, .slice ch kl dh] 30))
    replace hRl := hRl.kept (belowA w16 (.cells #[.int .i64 kc, .slice ch kl dh] 30))
    replace ow := ow.kept (belowA w16 (.cells #[.int .i64 kc, .slice ch kl dh] 30))
    replace ql := ql.kept (belowA w16 (.cells #[.int .i64 kc, .slice ch kl dh] 30))
    replace og := og.kept (belowA w16 (.cells #[.int .i64 kc, .slice ch kl dh] 30))
    replace oh := oh.kept (belowA w16 (.cells #[.int .i64 kc, .slice ch kl dh] 30))
    replace B := thenB B (belowA w16 (.cells #[.int .i64 kc, .slice ch kl dh] 30))
    have VH := V.new w16 [.int .i64 kc, .slice ch kl dh] 30
    clear s_VAx f_VAx z_VAx s_VW f_VW z_VW s_VG f_VG z_VG
    obtain ⟨s_VAx, f_VAx, z_VAx⟩ := VAx.open
    obtain ⟨s_VW, f_VW, z_VW⟩ := VW.open
    obtain ⟨s_VG, f_VG, z_VG⟩ := VG.open
    obtain ⟨s_VH, f_VH, z_VH⟩ := VH.open
    have Bo := B
    go_wp2_with fail
    refine (eqIntsResult_ok kc ch cw kl dh dw zs _ oh.rd ow.rd HK.out hkl).mono ?_
    rintro e w17 ⟨rfl, b17⟩
    clear s_VAx f_VAx z_VAx s_VW f_VW z_VW s_VG f_VG z_VG s_VH f_VH z_VH
    have S17 := b17.size
    simp only [World.size_alloc] at S17
    replace VAx := VAx.kept b17
    replace VW := VW.kept b17
    replace VG := VG.kept b17
    replace VH := VH.kept b17
    replace hRl := hRl.kept b17
    replace ow := ow.kept b17
    replace ql := ql.kept b17
    replace og := og.kept b17
    replace oh := oh.kept b17
    replace B := thenB B b17
    clear b17
    obtain ⟨s_VAx, f_VAx, z_VAx⟩ := VAx.open
    obtain ⟨s_VW, f_VW, z_VW⟩ := VW.open
    obtain ⟨s_VG, f_VG, z_VG⟩ := VG.open
    obtain ⟨s_VH, f_VH, z_VH⟩ := VH.open
    have Bo := B
    go_wp2_with fail
    refine (heldIntsResult_ok kc cg kl dg 1 _ og.rd (by omega) (by omega)).mono ?_
    rintro e w18 ⟨rfl, b18⟩
    clear s_VAx f_VAx z_VAx s_VW f_VW z_VW s_VG f_VG z_VG s_VH f_VH z_VH
    have S18 := b18.size
    replace VAx := VAx.kept b18
    replace VW := VW.kept b18
    replace VG := VG.kept b18
    replace VH := VH.kept b18
    replace hRl := hRl.kept b18
    replace ow := ow.kept b18
    replace ql := ql.kept b18
    replace og := og.kept b18
    replace oh := oh.kept b18
    replace B := thenB B b18
    clear b18
    obtain ⟨s_VAx, f_VAx, z_VAx⟩ := VAx.open
    obtain ⟨s_VW, f_VW, z_VW⟩ := VW.open
    obtain ⟨s_VG, f_VG, z_VG⟩ := VG.open
    obtain ⟨s_VH, f_VH, z_VH⟩ := VH.open
    have Bo := B
    go_wp2
    go_ret
    exact ⟨rfl, Bo⟩
  · have hlt : decide ((1048576 : Int) < (nl : Int)) = true := by simp; omega
    unfold maxLen at hxl
    go_enter Try.func10, Try.ntmps10
    go_wp2
    go_ret
    exact ⟨rfl, belowA _ _⟩

end Go.Proofs.Ytkpdbdcfimdnjaa
