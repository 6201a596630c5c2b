/- The law on 'SwapRules': its walk. -/
import Derived.Test.YtngkahchhioncaaDoorPolN
import Derived.Test.YtngkahchhioncaaDoorPolD
import Derived.Test.YtngkahchhioncaaDoorRuleG
namespace Go.Proofs.YtngkahchhioncaaDoor
open Go.RowKit

theorem swL_len (xs : List R11) (t : Int) : (swL xs t).length ≤ 20 := by
  rcases sw_ways2 xs t with ⟨_, _, h⟩ | ⟨_, _, _, h⟩ | ⟨k, x, y, _, _, h1, _, _, _, ⟨_, _, h⟩ | ⟨_, _, h⟩⟩
  · rw [h]; exact Nat.zero_le _
  · rw [h]; exact Nat.zero_le _
  · rw [h]; exact Nat.zero_le _
  · rw [h, List.length_set, List.length_set]; exact (pyC_zero h1).1

set_option maxRecDepth 20000 in
set_option maxHeartbeats 8000000 in
theorem xSwap_walk (a : Option Addr) (n ca : Nat) (xs : List R11) (t : Int) (w : World) (hR : RdRule w a xs) (hn : xs.length = n) (hx' : n ≤ maxLen) (ht : -9223372036854775808 ≤ t ∧ t ≤ 9223372036854775807) :
    Calls Tryd.prog 10 #[.slice a n ca, .int .i64 t] w fun e w' => e = .returned (.bool true) ∧ Below w.heap.size w w' := by
  by_cases hbig : (n : Int) ≤ 1048576
  · have h0 : 0 ≤ 1048576 - (n : Int) := by omega
    have CT := Hid.mk (fun w h => toRuleS_ok a n ca xs w h hn (by omega))
    have CS := Hid.mk (fun c d w h => specSwapRules_ok c n d xs t w h hn hx' ht)
    have CI := Hid.mk (fun c d w h => implSwapRules_ok c n d xs t w h hn hx' ht)
    have CE := Hid.mk (fun c c' d d' w h h' => eqRuleS_ok c c' n d d' xs w h h' hn hx')
    have CM := Hid.mk (fun c d base w h => markRuleS_ok c n d base xs 1 w h hn (by omega) (by omega))
    have hzl := swL_len xs t
    generalize swL xs t = zs at *
    generalize swC xs t = kk at *
    have HB1 := Hid.mk hbig
    have hmk : ¬ (1 + 11 * (n : Int)) < 0 := by omega
    clear hbig hn
    go_enter Tryd.func10, Tryd.ntmps10
    have B := Below.refl w.heap.size w
    go_wp2_with fail
    refine (szRuleS_in a n ca 1048576 _ HB1.out (by omega)).mono ?_
    rintro e wq ⟨rfl, rfl⟩
    have HR0 := Hid.mk hR
    go_wp2_with fail
    refine (CT.out _ hR).mono ?_
    rintro e w1 ⟨rfl, o1, b1⟩
    have S1 := b1.size
    replace hR := hR.kept b1
    replace B := thenB B b1
    clear b1
    have Bo := B
    have L_o1 : ∀ b : Addr, (some ⟨wq.heap.size, 0, none⟩) = some b → wq.heap.size ≤ b.block ∧ b.block < w1.heap.size := fun b hb => by have h := o1.lt b hb; (try simp only [World.size_alloc] at h); omega
    go_wp2_with fail
    refine (CS.out _ _ _ o1.rd).mono ?_
    rintro e w2 ⟨cw, dw, kw, rfl, hkw, ow, b2⟩
    have S2 := b2.size
    replace hR := hR.kept b2
    replace o1 := o1.kept b2
    replace B := thenB B b2
    clear b2
    have Bo := B
    have L_ow : ∀ b : Addr, cw = some b → w1.heap.size ≤ b.block ∧ b.block < w2.heap.size := fun b hb => by have h := ow.lt b hb; (try simp only [World.size_alloc] at h); omega
    clear L_o1
    clear o1
    replace hR := hR.kept (belowA w2 (.cells #[.int .i64 kk, .slice cw kw dw] 45))
    replace ow := ow.kept (belowA w2 (.cells #[.int .i64 kk, .slice cw kw dw] 45))
    replace B := thenB B (belowA w2 (.cells #[.int .i64 kk, .slice cw kw dw] 45))
    have VW := V.new w2 [.int .i64 kk, .slice cw kw dw] 45
    obtain ⟨s_VW, f_VW, z_VW⟩ := VW.open
    have Bo := B
    go_wp2_with fail
    refine (CT.out _ hR).mono ?_
    rintro e w3 ⟨rfl, o3, b3⟩
    clear s_VW f_VW z_VW
    have S3 := b3.size
    simp only [World.size_alloc] at S3
    replace VW := VW.kept b3
    replace hR := hR.kept b3
    replace ow := ow.kept b3
    replace B := thenB B b3
    clear b3
    obtain ⟨s_VW, f_VW, z_VW⟩ := VW.open
    have Bo := B
    simp only [World.size_alloc] at o3
    have L_o3 : ∀ b : Addr, (some ⟨w2.heap.size + 1, 0, none⟩) = some b → w2.heap.size + 1 ≤ b.block ∧ b.block < w3.heap.size := fun b hb => by have h := o3.lt b hb; (try simp only [World.size_alloc] at h); omega
    go_wp2_with fail
    refine (CI.out _ _ _ o3.rd).mono ?_
    rintro e w4 ⟨cg, dg, kg, rfl, hkg, og, b4⟩
    clear s_VW f_VW z_VW
    have S4 := b4.size
    replace VW := VW.kept b4
    replace hR := hR.kept b4
    replace ow := ow.kept b4
    replace o3 := o3.kept b4
    replace B := thenB B b4
    clear b4
    obtain ⟨s_VW, f_VW, z_VW⟩ := VW.open
    have Bo := B
    have L_og : ∀ b : Addr, cg = some b → w3.heap.size ≤ b.block ∧ b.block < w4.heap.size := fun b hb => by have h := og.lt b hb; (try simp only [World.size_alloc] at h); omega
    obtain rfl : kg = kw := hkg.symm.trans hkw
    have hkm : kg ≤ 20 := by omega
    have hkl : kg ≤ maxLen := by unfold maxLen; omega
    have HK := Hid.mk hkg
    clear hkg hkw hzl
    replace VW := VW.kept (belowA w4 (.cells #[.int .i64 kk, .slice cg kg dg] 45))
    replace hR := hR.kept (belowA w4 (.cells #[.int .i64 kk, .slice cg kg dg] 45))
    replace ow := ow.kept (belowA w4 (.cells #[.int .i64 kk, .slice cg kg dg] 45))
    replace o3 := o3.kept (belowA w4 (.cells #[.int .i64 kk, .slice cg kg dg] 45))
    replace og := og.kept (belowA w4 (.cells #[.int .i64 kk, .slice cg kg dg] 45))
    replace B := thenB B (belowA w4 (.cells #[.int .i64 kk, .slice cg kg dg] 45))
    have VG := V.new w4 [.int .i64 kk, .slice cg kg dg] 45
    clear s_VW f_VW z_VW
    obtain ⟨s_VW, f_VW, z_VW⟩ := VW.open
    obtain ⟨s_VG, f_VG, z_VG⟩ := VG.open
    have Bo := B
    go_wp2_with fail
    refine (eqRulesResult_ok kk cg cw kg dg dw zs _ og.rd ow.rd HK.out hkl).mono ?_
    rintro e w5 ⟨rfl, b5⟩
    clear s_VW f_VW z_VW s_VG f_VG z_VG
    have S5 := b5.size
    simp only [World.size_alloc] at S5
    replace VW := VW.kept b5
    replace VG := VG.kept b5
    replace hR := hR.kept b5
    replace ow := ow.kept b5
    replace o3 := o3.kept b5
    replace og := og.kept b5
    replace B := thenB B b5
    clear b5
    obtain ⟨s_VW, f_VW, z_VW⟩ := VW.open
    obtain ⟨s_VG, f_VG, z_VG⟩ := VG.open
    have Bo := B
    go_wp2_with fail
    refine (CT.out _ hR).mono ?_
    rintro e w6 ⟨rfl, o5, b6⟩
    clear s_VW f_VW z_VW s_VG f_VG z_VG
    have S6 := b6.size
    replace VW := VW.kept b6
    replace VG := VG.kept b6
    replace hR := hR.kept b6
    replace ow := ow.kept b6
    replace o3 := o3.kept b6
    replace og := og.kept b6
    replace B := thenB B b6
    clear b6
    obtain ⟨s_VW, f_VW, z_VW⟩ := VW.open
    obtain ⟨s_VG, f_VG, z_VG⟩ := VG.open
    have Bo := B
    have L_o5 : ∀ b : Addr, (some ⟨w5.heap.size, 0, none⟩) = some b → w5.heap.size ≤ b.block ∧ b.block < w6.heap.size := fun b hb => by have h := o5.lt b hb; (try simp only [World.size_alloc] at h); omega
    go_wp2_with fail
    refine (CE.out _ _ _ _ _ o3.rd o5.rd).mono ?_
    rintro e w7 ⟨rfl, b7⟩
    clear s_VW f_VW z_VW s_VG f_VG z_VG
    have S7 := b7.size
    replace VW := VW.kept b7
    replace VG := VG.kept b7
    replace hR := hR.kept b7
    replace ow := ow.kept b7
    replace o3 := o3.kept b7
    replace og := og.kept b7
    replace o5 := o5.kept b7
    replace B := thenB B b7
    clear b7
    obtain ⟨s_VW, f_VW, z_VW⟩ := VW.open
    obtain ⟨s_VG, f_VG, z_VG⟩ := VG.open
    have Bo := B
    clear L_o5
    clear o5
    go_wp2_with fail
    refine (CM.out _ _ _ _ o3).mono ?_
    rintro e w8 ⟨rfl, oq, gm⟩
    clear s_VW f_VW z_VW s_VG f_VG z_VG
    replace VW := VW.grownR gm (row_ne fun b hb => by have h := L_o3 b hb; omega)
    replace VG := VG.grownR gm (row_ne fun b hb => by have h := L_o3 b hb; omega)
    replace ow := ow.grown gm (fun b hb => row_ne fun b' hb' => by have h1 := L_ow b hb; have h2 := L_o3 b' hb'; omega)
    replace og := og.grown gm (fun b hb => row_ne fun b' hb' => by have h1 := L_og b hb; have h2 := L_o3 b' hb'; omega)
    replace B := belowG B gm (by omega) (fun b hb => by have h := L_o3 b hb; omega)
    replace hR := HR0.out.kept B
    have S8 := gm.size
    clear gm o3
    have o3 := oq
    clear oq
    obtain ⟨s_VW, f_VW, z_VW⟩ := VW.open
    obtain ⟨s_VG, f_VG, z_VG⟩ := VG.open
    have Bo := B
    go_wp2_with fail
    refine (eqRulesResult_ok kk cg cw kg dg dw zs _ og.rd ow.rd HK.out hkl).mono ?_
    rintro e w9 ⟨rfl, b9⟩
    clear s_VW f_VW z_VW s_VG f_VG z_VG
    have S9 := b9.size
    replace VW := VW.kept b9
    replace VG := VG.kept b9
    replace hR := hR.kept b9
    replace ow := ow.kept b9
    replace o3 := o3.kept b9
    replace og := og.kept b9
    replace B := thenB B b9
    clear b9
    obtain ⟨s_VW, f_VW, z_VW⟩ := VW.open
    obtain ⟨s_VG, f_VG, z_VG⟩ := VG.open
    have Bo := B
    have hqm : ¬ (1 + 11 * (kg : Int)) < 0 := by omega
    go_wp2_with fail
    refine (markRulesResult_ok kk cg kg dg _ zs 1 _ og HK.out (by omega) (by omega)).mono ?_
    rintro e w10 ⟨rfl, oq, gm⟩
    clear s_VW f_VW z_VW s_VG f_VG z_VG
    replace VW := VW.grownR gm (row_ne fun b hb => by have h := L_og b hb; omega)
    replace VG := VG.grownR gm (row_ne fun b hb => by have h := L_og b hb; omega)
    replace ow := ow.grown gm (fun b hb => row_ne fun b' hb' => by have h1 := L_ow b hb; have h2 := L_og b' hb'; omega)
    replace o3 := o3.grown gm (fun b hb => row_ne fun b' hb' => by have h1 := L_o3 b hb; have h2 := L_og b' hb'; omega)
    replace B := belowG B gm (by omega) (fun b hb => by have h := L_og b hb; omega)
    replace hR := HR0.out.kept B
    have S10 := gm.size
    clear gm og
    have og := oq
    clear oq
    obtain ⟨s_VW, f_VW, z_VW⟩ := VW.open
    obtain ⟨s_VG, f_VG, z_VG⟩ := VG.open
    have Bo := B
    go_wp2_with fail
    refine (heldRulesResult_ok kk cg kg dg 1 _ og.rd (by omega) (by omega)).mono ?_
    rintro e w11 ⟨rfl, b11⟩
    clear s_VW f_VW z_VW s_VG f_VG z_VG
    have S11 := b11.size
    replace VW := VW.kept b11
    replace VG := VG.kept b11
    replace hR := hR.kept b11
    replace ow := ow.kept b11
    replace o3 := o3.kept b11
    replace og := og.kept b11
    replace B := thenB B b11
    clear b11
    obtain ⟨s_VW, f_VW, z_VW⟩ := VW.open
    obtain ⟨s_VG, f_VG, z_VG⟩ := VG.open
    have Bo := B
    go_wp2_with fail
    refine (CT.out _ hR).mono ?_
    rintro e w12 ⟨rfl, o7, b12⟩
    clear s_VW f_VW z_VW s_VG f_VG z_VG
    have S12 := b12.size
    replace VW := VW.kept b12
    replace VG := VG.kept b12
    replace hR := hR.kept b12
    replace ow := ow.kept b12
    replace o3 := o3.kept b12
    replace og := og.kept b12
    replace B := thenB B b12
    clear b12
    obtain ⟨s_VW, f_VW, z_VW⟩ := VW.open
    obtain ⟨s_VG, f_VG, z_VG⟩ := VG.open
    have Bo := B
    have L_o7 : ∀ b : Addr, (some ⟨w11.heap.size, 0, none⟩) = some b → w11.heap.size ≤ b.block ∧ b.block < w12.heap.size := fun b hb => by have h := o7.lt b hb; (try simp only [World.size_alloc] at h); omega
    go_wp2_with fail
    refine (CI.out _ _ _ o7.rd).mono ?_
    rintro e w13 ⟨ch, dh, kh, rfl, hkh, oh, b13⟩
    clear s_VW f_VW z_VW s_VG f_VG z_VG
    have S13 := b13.size
    replace VW := VW.kept b13
    replace VG := VG.kept b13
    replace hR := hR.kept b13
    replace ow := ow.kept b13
    replace o3 := o3.kept b13
    replace og := og.kept b13
    replace o7 := o7.kept b13
    replace B := thenB B b13
    clear b13
    obtain ⟨s_VW, f_VW, z_VW⟩ := VW.open
    obtain ⟨s_VG, f_VG, z_VG⟩ := VG.open
    have Bo := B
    have L_oh : ∀ b : Addr, ch = some b → w12.heap.size ≤ b.block ∧ b.block < w13.heap.size := fun b hb => by have h := oh.lt b hb; (try simp only [World.size_alloc] at h); omega
    clear L_o7
    clear o7
    obtain rfl : kg = kh := HK.out.symm.trans hkh
    clear hkh
    replace VW := VW.kept (belowA w13 (.cells #[.int .i64 kk, .slice ch kg dh] 45))
    replace VG := VG.kept (belowA w13 (.cells #[.int .i64 kk, .slice ch kg dh] 45))
    replace hR := hR.kept (belowA w13 (.cells #[.int .i64 kk, .slice ch kg dh] 45))
    replace ow := ow.kept (belowA w13 (.cells #[.int .i64 kk, .slice ch kg dh] 45))
    replace o3 := o3.kept (belowA w13 (.cells #[.int .i64 kk, .slice ch kg dh] 45))
    replace og := og.kept (belowA w13 (.cells #[.int .i64 kk, .slice ch kg dh] 45))
    replace oh := oh.kept (belowA w13 (.cells #[.int .i64 kk, .slice ch kg dh] 45))
    replace B := thenB B (belowA w13 (.cells #[.int .i64 kk, .slice ch kg dh] 45))
    have VH := V.new w13 [.int .i64 kk, .slice ch kg dh] 45
    clear s_VW f_VW z_VW s_VG f_VG z_VG
    obtain ⟨s_VW, f_VW, z_VW⟩ := VW.open
    obtain ⟨s_VG, f_VG, z_VG⟩ := VG.open
    obtain ⟨s_VH, f_VH, z_VH⟩ := VH.open
    have Bo := B
    go_wp2_with fail
    refine (eqRulesResult_ok kk ch cw kg dh dw zs _ oh.rd ow.rd HK.out hkl).mono ?_
    rintro e w14 ⟨rfl, b14⟩
    clear s_VW f_VW z_VW s_VG f_VG z_VG s_VH f_VH z_VH
    have S14 := b14.size
    simp only [World.size_alloc] at S14
    replace VW := VW.kept b14
    replace VG := VG.kept b14
    replace VH := VH.kept b14
    replace hR := hR.kept b14
    replace ow := ow.kept b14
    replace o3 := o3.kept b14
    replace og := og.kept b14
    replace oh := oh.kept b14
    replace B := thenB B b14
    clear b14
    obtain ⟨s_VW, f_VW, z_VW⟩ := VW.open
    obtain ⟨s_VG, f_VG, z_VG⟩ := VG.open
    obtain ⟨s_VH, f_VH, z_VH⟩ := VH.open
    have Bo := B
    go_wp2_with fail
    refine (heldRulesResult_ok kk cg kg dg 1 _ og.rd (by omega) (by omega)).mono ?_
    rintro e w15 ⟨rfl, b15⟩
    clear s_VW f_VW z_VW s_VG f_VG z_VG s_VH f_VH z_VH
    have S15 := b15.size
    replace VW := VW.kept b15
    replace VG := VG.kept b15
    replace VH := VH.kept b15
    replace hR := hR.kept b15
    replace ow := ow.kept b15
    replace o3 := o3.kept b15
    replace og := og.kept b15
    replace oh := oh.kept b15
    replace B := thenB B b15
    clear b15
    obtain ⟨s_VW, f_VW, z_VW⟩ := VW.open
    obtain ⟨s_VG, f_VG, z_VG⟩ := VG.open
    obtain ⟨s_VH, f_VH, z_VH⟩ := VH.open
    have Bo := B
    go_wp2
    go_ret
    exact ⟨rfl, Bo⟩
  · have hlt : 1048576 < (n : Int) := by omega
    go_enter Tryd.func10, Tryd.ntmps10
    go_wp2_with fail
    refine (szRuleS_out a n ca 1048576 _ hlt (by omega) (by omega) hx').mono ?_
    rintro e wq ⟨rfl, rfl⟩
    go_wp2
    go_ret
    exact ⟨rfl, Below.refl _ _⟩

end Go.Proofs.YtngkahchhioncaaDoor
