/- The law on 'NarrowSels': its walk. -/
import Derived.Test.YtmbkbbephmblmabNrF
import Derived.Test.YtmbkbbephmblmabNrG
import Derived.Test.YtmbkbbephmblmabNewC
namespace Go.Proofs.Ytmbkbbephmblmab
open Go.RowKit

theorem naL_len (xs ys : List S9) : (naL xs ys).length ≤ 12 := by
  rcases na_ways xs ys with ⟨_, _, h⟩ | ⟨_, _, _, h⟩ | ⟨_, _, _, h⟩
  · rw [h]; exact Nat.zero_le _
  · rw [h]; exact Nat.zero_le _
  · rw [h]
    rcases nr_ways (nall ys xs []) with ⟨_, _, h2⟩ | ⟨_, _, _, h2⟩ | ⟨_, h1, _, h2⟩
    · rw [h2]; exact Nat.zero_le _
    · rw [h2]; exact Nat.zero_le _
    · rw [h2]; omega

set_option maxRecDepth 20000 in
set_option maxHeartbeats 8000000 in
theorem xNar_walk (a : Option Addr) (n ca : Nat) (xs : List S9) (b : Option Addr) (m cb : Nat) (ys : List S9) (w : World) (hR : RdL w a xs) (hn : xs.length = n) (hx' : n ≤ maxLen) (hQ : RdL w b ys) (hm : ys.length = m) (hy' : m ≤ maxLen) :
    Calls Try.prog 6 #[.slice a n ca, .slice b m cb] w fun e w' => e = .returned (.bool true) ∧ Below w.heap.size w w' := by
  by_cases hbig : (n : Int) ≤ 1048576
  · have h0 : 0 ≤ 1048576 - (n : Int) := by omega
    by_cases hbig2 : (m : Int) ≤ 1048576 - (n : Int)
    · have h1 : 0 ≤ 1048576 - (n : Int) - (m : Int) := by omega
      have CT := Hid.mk (fun w h => toSelS_ok a n ca xs w h hn (by omega))
      have CU := Hid.mk (fun w h => toSelS_ok b m cb ys w h hm (by omega))
      have CS := Hid.mk (fun c d c' d' w h h' => specNarrowSels_ok c c' n m d d' xs ys w h h' hn hm hx' hy')
      have CI := Hid.mk (fun c d c' d' w h h' => implNarrowSels_ok c c' n m d d' xs ys w h h' hn hm hx' hy')
      have CE := Hid.mk (fun c c' d d' w h h' => eqSelS_ok c c' n d d' xs w h h' hn hx')
      have CF := Hid.mk (fun c c' d d' w h h' => eqSelS_ok c c' m d d' ys w h h' hm hy')
      have CM := Hid.mk (fun c d base w h => markSelS_ok c n d base xs 1 w h hn (by omega) (by omega))
      have CN := Hid.mk (fun c d base w h => markSelS_ok c m d base ys (1 + 9 * (n : Int)) w h hm (by omega) (by omega))
      have hzl := naL_len xs ys
      generalize naL xs ys = zs at *
      generalize naC xs ys = kk at *
      have HB1 := Hid.mk hbig
      have HB2 := Hid.mk hbig2
      have hmk : ¬ (1 + 9 * (n : Int) + 9 * (m : Int)) < 0 := by omega
      clear hbig hbig2 hn hm
      go_enter Try.func6, Try.ntmps6
      have B := Below.refl w.heap.size w
      go_wp2_with fail
      refine (szSelS_in a n ca 1048576 _ HB1.out (by omega)).mono ?_
      rintro e wq ⟨rfl, rfl⟩
      go_wp2_with fail
      refine (szSelS_in b m cb (1048576 - (n : Int)) _ HB2.out (by omega)).mono ?_
      rintro e wq2 ⟨rfl, rfl⟩
      have HR0 := Hid.mk hR
      have HQ0 := Hid.mk hQ
      go_wp2_with fail
      refine (CT.out _ hR).mono ?_
      rintro e w1 ⟨rfl, o1, b1⟩
      have S1 := b1.size
      replace hR := hR.kept b1
      replace hQ := hQ.kept b1
      replace B := thenB B b1
      clear b1
      have Bo := B
      have L_o1 : ∀ b : Addr, (some ⟨wq2.heap.size, 0, none⟩) = some b → wq2.heap.size ≤ b.block ∧ b.block < w1.heap.size := fun b hb => by have h := o1.lt b hb; (try simp only [World.size_alloc] at h); omega
      go_wp2_with fail
      refine (CU.out _ hQ).mono ?_
      rintro e w2 ⟨rfl, o2, b2⟩
      have S2 := b2.size
      replace hR := hR.kept b2
      replace hQ := hQ.kept b2
      replace o1 := o1.kept b2
      replace B := thenB B b2
      clear b2
      have Bo := B
      have L_o2 : ∀ b : Addr, (some ⟨w1.heap.size, 0, none⟩) = some b → w1.heap.size ≤ b.block ∧ b.block < w2.heap.size := fun b hb => by have h := o2.lt b hb; (try simp only [World.size_alloc] at h); omega
      go_wp2_with fail
      refine (CS.out _ _ _ _ _ o1.rd o2.rd).mono ?_
      rintro e w3 ⟨cw, dw, kw, rfl, hkw, ow, b3⟩
      have S3 := b3.size
      replace hR := hR.kept b3
      replace hQ := hQ.kept b3
      replace o1 := o1.kept b3
      replace o2 := o2.kept b3
      replace B := thenB B b3
      clear b3
      have Bo := B
      have L_ow : ∀ b : Addr, cw = some b → w2.heap.size ≤ b.block ∧ b.block < w3.heap.size := fun b hb => by have h := ow.lt b hb; (try simp only [World.size_alloc] at h); omega
      clear L_o1 L_o2
      clear o1 o2
      replace hR := hR.kept (belowA w3 (.cells #[.int .i64 kk, .slice cw kw dw] 49))
      replace hQ := hQ.kept (belowA w3 (.cells #[.int .i64 kk, .slice cw kw dw] 49))
      replace ow := ow.kept (belowA w3 (.cells #[.int .i64 kk, .slice cw kw dw] 49))
      replace B := thenB B (belowA w3 (.cells #[.int .i64 kk, .slice cw kw dw] 49))
      have VW := V.new w3 [.int .i64 kk, .slice cw kw dw] 49
      obtain ⟨s_VW, f_VW, z_VW⟩ := VW.open
      have Bo := B
      go_wp2_with fail
      refine (CT.out _ hR).mono ?_
      rintro e w4 ⟨rfl, o3, b4⟩
      clear s_VW f_VW z_VW
      have S4 := b4.size
      simp only [World.size_alloc] at S4
      replace VW := VW.kept b4
      replace hR := hR.kept b4
      replace hQ := hQ.kept b4
      replace ow := ow.kept b4
      replace B := thenB B b4
      clear b4
      obtain ⟨s_VW, f_VW, z_VW⟩ := VW.open
      have Bo := B
      simp only [World.size_alloc] at o3
      have L_o3 : ∀ b : Addr, (some ⟨w3.heap.size + 1, 0, none⟩) = some b → w3.heap.size + 1 ≤ b.block ∧ b.block < w4.heap.size := fun b hb => by have h := o3.lt b hb; (try simp only [World.size_alloc] at h); omega
      go_wp2_with fail
      refine (CU.out _ hQ).mono ?_
      rintro e w5 ⟨rfl, o4, b5⟩
      clear s_VW f_VW z_VW
      have S5 := b5.size
      replace VW := VW.kept b5
      replace hR := hR.kept b5
      replace hQ := hQ.kept b5
      replace ow := ow.kept b5
      replace o3 := o3.kept b5
      replace B := thenB B b5
      clear b5
      obtain ⟨s_VW, f_VW, z_VW⟩ := VW.open
      have Bo := B
      have L_o4 : ∀ b : Addr, (some ⟨w4.heap.size, 0, none⟩) = some b → w4.heap.size ≤ b.block ∧ b.block < w5.heap.size := fun b hb => by have h := o4.lt b hb; (try simp only [World.size_alloc] at h); omega
      go_wp2_with fail
      refine (CI.out _ _ _ _ _ o3.rd o4.rd).mono ?_
      rintro e w6 ⟨cg, dg, kg, rfl, hkg, og, b6⟩
      clear s_VW f_VW z_VW
      have S6 := b6.size
      replace VW := VW.kept b6
      replace hR := hR.kept b6
      replace hQ := hQ.kept b6
      replace ow := ow.kept b6
      replace o3 := o3.kept b6
      replace o4 := o4.kept b6
      replace B := thenB B b6
      clear b6
      obtain ⟨s_VW, f_VW, z_VW⟩ := VW.open
      have Bo := B
      have L_og : ∀ b : Addr, cg = some b → w5.heap.size ≤ b.block ∧ b.block < w6.heap.size := fun b hb => by have h := og.lt b hb; (try simp only [World.size_alloc] at h); omega
      obtain rfl : kg = kw := hkg.symm.trans hkw
      have hkl : kg ≤ maxLen := by unfold maxLen; omega
      have hk12 : kg ≤ 12 := by omega
      have HK := Hid.mk hkg
      clear hkg hkw hzl
      replace VW := VW.kept (belowA w6 (.cells #[.int .i64 kk, .slice cg kg dg] 49))
      replace hR := hR.kept (belowA w6 (.cells #[.int .i64 kk, .slice cg kg dg] 49))
      replace hQ := hQ.kept (belowA w6 (.cells #[.int .i64 kk, .slice cg kg dg] 49))
      replace ow := ow.kept (belowA w6 (.cells #[.int .i64 kk, .slice cg kg dg] 49))
      replace o3 := o3.kept (belowA w6 (.cells #[.int .i64 kk, .slice cg kg dg] 49))
      replace o4 := o4.kept (belowA w6 (.cells #[.int .i64 kk, .slice cg kg dg] 49))
      replace og := og.kept (belowA w6 (.cells #[.int .i64 kk, .slice cg kg dg] 49))
      replace B := thenB B (belowA w6 (.cells #[.int .i64 kk, .slice cg kg dg] 49))
      have VG := V.new w6 [.int .i64 kk, .slice cg kg dg] 49
      clear s_VW f_VW z_VW
      obtain ⟨s_VW, f_VW, z_VW⟩ := VW.open
      obtain ⟨s_VG, f_VG, z_VG⟩ := VG.open
      have Bo := B
      go_wp2_with fail
      refine (eqSelsResult_ok kk cg cw kg dg dw zs _ og.rd ow.rd HK.out hkl).mono ?_
      rintro e w7 ⟨rfl, b7⟩
      clear s_VW f_VW z_VW s_VG f_VG z_VG
      have S7 := b7.size
      simp only [World.size_alloc] at S7
      replace VW := VW.kept b7
      replace VG := VG.kept b7
      replace hR := hR.kept b7
      replace hQ := hQ.kept b7
      replace ow := ow.kept b7
      replace o3 := o3.kept b7
      replace o4 := o4.kept b7
      replace og := og.kept b7
      replace B := thenB B b7
      clear b7
      obtain ⟨s_VW, f_VW, z_VW⟩ := VW.open
      obtain ⟨s_VG, f_VG, z_VG⟩ := VG.open
      have Bo := B
      go_wp2_with fail
      refine (CT.out _ hR).mono ?_
      rintro e w8 ⟨rfl, o5, b8⟩
      clear s_VW f_VW z_VW s_VG f_VG z_VG
      have S8 := b8.size
      replace VW := VW.kept b8
      replace VG := VG.kept b8
      replace hR := hR.kept b8
      replace hQ := hQ.kept b8
      replace ow := ow.kept b8
      replace o3 := o3.kept b8
      replace o4 := o4.kept b8
      replace og := og.kept b8
      replace B := thenB B b8
      clear b8
      obtain ⟨s_VW, f_VW, z_VW⟩ := VW.open
      obtain ⟨s_VG, f_VG, z_VG⟩ := VG.open
      have Bo := B
      have L_o5 : ∀ b : Addr, (some ⟨w7.heap.size, 0, none⟩) = some b → w7.heap.size ≤ b.block ∧ b.block < w8.heap.size := fun b hb => by have h := o5.lt b hb; (try simp only [World.size_alloc] at h); omega
      go_wp2_with fail
      refine (CE.out _ _ _ _ _ o3.rd o5.rd).mono ?_
      rintro e w9 ⟨rfl, b9⟩
      clear s_VW f_VW z_VW s_VG f_VG z_VG
      have S9 := b9.size
      replace VW := VW.kept b9
      replace VG := VG.kept b9
      replace hR := hR.kept b9
      replace hQ := hQ.kept b9
      replace ow := ow.kept b9
      replace o3 := o3.kept b9
      replace o4 := o4.kept b9
      replace og := og.kept b9
      replace o5 := o5.kept b9
      replace B := thenB B b9
      clear b9
      obtain ⟨s_VW, f_VW, z_VW⟩ := VW.open
      obtain ⟨s_VG, f_VG, z_VG⟩ := VG.open
      have Bo := B
      clear L_o5
      clear o5
      go_wp2_with fail
      refine (CU.out _ hQ).mono ?_
      rintro e w10 ⟨rfl, o6, b10⟩
      clear s_VW f_VW z_VW s_VG f_VG z_VG
      have S10 := b10.size
      replace VW := VW.kept b10
      replace VG := VG.kept b10
      replace hR := hR.kept b10
      replace hQ := hQ.kept b10
      replace ow := ow.kept b10
      replace o3 := o3.kept b10
      replace o4 := o4.kept b10
      replace og := og.kept b10
      replace B := thenB B b10
      clear b10
      obtain ⟨s_VW, f_VW, z_VW⟩ := VW.open
      obtain ⟨s_VG, f_VG, z_VG⟩ := VG.open
      have Bo := B
      have L_o6 : ∀ b : Addr, (some ⟨w9.heap.size, 0, none⟩) = some b → w9.heap.size ≤ b.block ∧ b.block < w10.heap.size := fun b hb => by have h := o6.lt b hb; (try simp only [World.size_alloc] at h); omega
      go_wp2_with fail
      refine (CF.out _ _ _ _ _ o4.rd o6.rd).mono ?_
      rintro e w11 ⟨rfl, b11⟩
      clear s_VW f_VW z_VW s_VG f_VG z_VG
      have S11 := b11.size
      replace VW := VW.kept b11
      replace VG := VG.kept b11
      replace hR := hR.kept b11
      replace hQ := hQ.kept b11
      replace ow := ow.kept b11
      replace o3 := o3.kept b11
      replace o4 := o4.kept b11
      replace og := og.kept b11
      replace o6 := o6.kept b11
      replace B := thenB B b11
      clear b11
      obtain ⟨s_VW, f_VW, z_VW⟩ := VW.open
      obtain ⟨s_VG, f_VG, z_VG⟩ := VG.open
      have Bo := B
      clear L_o6
      clear o6
      go_wp2_with fail
      refine (CM.out _ _ _ _ o3).mono ?_
      rintro e w12 ⟨rfl, oq, gm⟩
      clear s_VW f_VW z_VW s_VG f_VG z_VG
      replace VW := VW.grownR gm (row_ne fun b hb => by have h := L_o3 b hb; omega)
      replace VG := VG.grownR gm (row_ne fun b hb => by have h := L_o3 b hb; omega)
      replace ow := ow.grown gm (fun b hb => row_ne fun b' hb' => by have h1 := L_ow b hb; have h2 := L_o3 b' hb'; omega)
      replace o4 := o4.grown gm (fun b hb => row_ne fun b' hb' => by have h1 := L_o4 b hb; have h2 := L_o3 b' hb'; omega)
      replace og := og.grown gm (fun b hb => row_ne fun b' hb' => by have h1 := L_og b hb; have h2 := L_o3 b' hb'; omega)
      replace B := belowG B gm (by omega) (fun b hb => by have h := L_o3 b hb; omega)
      replace hR := HR0.out.kept B
      replace hQ := HQ0.out.kept B
      have S12 := gm.size
      clear gm o3
      have o3 := oq
      clear oq
      obtain ⟨s_VW, f_VW, z_VW⟩ := VW.open
      obtain ⟨s_VG, f_VG, z_VG⟩ := VG.open
      have Bo := B
      go_wp2_with fail
      refine (CN.out _ _ _ _ o4).mono ?_
      rintro e w13 ⟨rfl, oq, gm⟩
      clear s_VW f_VW z_VW s_VG f_VG z_VG
      replace VW := VW.grownR gm (row_ne fun b hb => by have h := L_o4 b hb; omega)
      replace VG := VG.grownR gm (row_ne fun b hb => by have h := L_o4 b hb; omega)
      replace ow := ow.grown gm (fun b hb => row_ne fun b' hb' => by have h1 := L_ow b hb; have h2 := L_o4 b' hb'; omega)
      replace o3 := o3.grown gm (fun b hb => row_ne fun b' hb' => by have h1 := L_o3 b hb; have h2 := L_o4 b' hb'; omega)
      replace og := og.grown gm (fun b hb => row_ne fun b' hb' => by have h1 := L_og b hb; have h2 := L_o4 b' hb'; omega)
      replace B := belowG B gm (by omega) (fun b hb => by have h := L_o4 b hb; omega)
      replace hR := HR0.out.kept B
      replace hQ := HQ0.out.kept B
      have S13 := gm.size
      clear gm o4
      have o4 := oq
      clear oq
      obtain ⟨s_VW, f_VW, z_VW⟩ := VW.open
      obtain ⟨s_VG, f_VG, z_VG⟩ := VG.open
      have Bo := B
      go_wp2_with fail
      refine (eqSelsResult_ok kk cg cw kg dg dw zs _ og.rd ow.rd HK.out hkl).mono ?_
      rintro e w14 ⟨rfl, b14⟩
      clear s_VW f_VW z_VW s_VG f_VG z_VG
      have S14 := b14.size
      replace VW := VW.kept b14
      replace VG := VG.kept b14
      replace hR := hR.kept b14
      replace hQ := hQ.kept b14
      replace ow := ow.kept b14
      replace o3 := o3.kept b14
      replace o4 := o4.kept b14
      replace og := og.kept b14
      replace B := thenB B b14
      clear b14
      obtain ⟨s_VW, f_VW, z_VW⟩ := VW.open
      obtain ⟨s_VG, f_VG, z_VG⟩ := VG.open
      have Bo := B
      have hqm : ¬ (1 + 9 * (kg : Int)) < 0 := by omega
      go_wp2_with fail
      refine (markSelsResult_ok kk cg kg dg _ zs 1 _ og HK.out (by omega) (by omega)).mono ?_
      rintro e w15 ⟨rfl, oq, gm⟩
      clear s_VW f_VW z_VW s_VG f_VG z_VG
      replace VW := VW.grownR gm (row_ne fun b hb => by have h := L_og b hb; omega)
      replace VG := VG.grownR gm (row_ne fun b hb => by have h := L_og b hb; omega)
      replace ow := ow.grown gm (fun b hb => row_ne fun b' hb' => by have h1 := L_ow b hb; have h2 := L_og b' hb'; omega)
      replace o3 := o3.grown gm (fun b hb => row_ne fun b' hb' => by have h1 := L_o3 b hb; have h2 := L_og b' hb'; omega)
      replace o4 := o4.grown gm (fun b hb => row_ne fun b' hb' => by have h1 := L_o4 b hb; have h2 := L_og b' hb'; omega)
      replace B := belowG B gm (by omega) (fun b hb => by have h := L_og b hb; omega)
      replace hR := HR0.out.kept B
      replace hQ := HQ0.out.kept B
      have S15 := gm.size
      clear gm og
      have og := oq
      clear oq
      obtain ⟨s_VW, f_VW, z_VW⟩ := VW.open
      obtain ⟨s_VG, f_VG, z_VG⟩ := VG.open
      have Bo := B
      go_wp2_with fail
      refine (heldSelsResult_ok kk cg kg dg 1 _ og.rd (by omega) (by omega)).mono ?_
      rintro e w16 ⟨rfl, b16⟩
      clear s_VW f_VW z_VW s_VG f_VG z_VG
      have S16 := b16.size
      replace VW := VW.kept b16
      replace VG := VG.kept b16
      replace hR := hR.kept b16
      replace hQ := hQ.kept b16
      replace ow := ow.kept b16
      replace o3 := o3.kept b16
      replace o4 := o4.kept b16
      replace og := og.kept b16
      replace B := thenB B b16
      clear b16
      obtain ⟨s_VW, f_VW, z_VW⟩ := VW.open
      obtain ⟨s_VG, f_VG, z_VG⟩ := VG.open
      have Bo := B
      go_wp2_with fail
      refine (CT.out _ hR).mono ?_
      rintro e w17 ⟨rfl, o7, b17⟩
      clear s_VW f_VW z_VW s_VG f_VG z_VG
      have S17 := b17.size
      replace VW := VW.kept b17
      replace VG := VG.kept b17
      replace hR := hR.kept b17
      replace hQ := hQ.kept b17
      replace ow := ow.kept b17
      replace o3 := o3.kept b17
      replace o4 := o4.kept b17
      replace og := og.kept b17
      replace B := thenB B b17
      clear b17
      obtain ⟨s_VW, f_VW, z_VW⟩ := VW.open
      obtain ⟨s_VG, f_VG, z_VG⟩ := VG.open
      have Bo := B
      have L_o7 : ∀ b : Addr, (some ⟨w16.heap.size, 0, none⟩) = some b → w16.heap.size ≤ b.block ∧ b.block < w17.heap.size := fun b hb => by have h := o7.lt b hb; (try simp only [World.size_alloc] at h); omega
      go_wp2_with fail
      refine (CU.out _ hQ).mono ?_
      rintro e w18 ⟨rfl, o8, b18⟩
      clear s_VW f_VW z_VW s_VG f_VG z_VG
      have S18 := b18.size
      replace VW := VW.kept b18
      replace VG := VG.kept b18
      replace hR := hR.kept b18
      replace hQ := hQ.kept b18
      replace ow := ow.kept b18
      replace o3 := o3.kept b18
      replace o4 := o4.kept b18
      replace og := og.kept b18
      replace o7 := o7.kept b18
      replace B := thenB B b18
      clear b18
      obtain ⟨s_VW, f_VW, z_VW⟩ := VW.open
      obtain ⟨s_VG, f_VG, z_VG⟩ := VG.open
      have Bo := B
      have L_o8 : ∀ b : Addr, (some ⟨w17.heap.size, 0, none⟩) = some b → w17.heap.size ≤ b.block ∧ b.block < w18.heap.size := fun b hb => by have h := o8.lt b hb; (try simp only [World.size_alloc] at h); omega
      go_wp2_with fail
      refine (CI.out _ _ _ _ _ o7.rd o8.rd).mono ?_
      rintro e w19 ⟨ch, dh, kh, rfl, hkh, oh, b19⟩
      clear s_VW f_VW z_VW s_VG f_VG z_VG
      have S19 := b19.size
      replace VW := VW.kept b19
      replace VG := VG.kept b19
      replace hR := hR.kept b19
      replace hQ := hQ.kept b19
      replace ow := ow.kept b19
      replace o3 := o3.kept b19
      replace o4 := o4.kept b19
      replace og := og.kept b19
      replace o7 := o7.kept b19
      replace o8 := o8.kept b19
      replace B := thenB B b19
      clear b19
      obtain ⟨s_VW, f_VW, z_VW⟩ := VW.open
      obtain ⟨s_VG, f_VG, z_VG⟩ := VG.open
      have Bo := B
      have L_oh : ∀ b : Addr, ch = some b → w18.heap.size ≤ b.block ∧ b.block < w19.heap.size := fun b hb => by have h := oh.lt b hb; (try simp only [World.size_alloc] at h); omega
      clear L_o7 L_o8
      clear o7 o8
      obtain rfl : kg = kh := HK.out.symm.trans hkh
      clear hkh
      replace VW := VW.kept (belowA w19 (.cells #[.int .i64 kk, .slice ch kg dh] 49))
      replace VG := VG.kept (belowA w19 (.cells #[.int .i64 kk, .slice ch kg dh] 49))
      replace hR := hR.kept (belowA w19 (.cells #[.int .i64 kk, .slice ch kg dh] 49))
      replace hQ := hQ.kept (belowA w19 (.cells #[.int .i64 kk, .slice ch kg dh] 49))
      replace ow := ow.kept (belowA w19 (.cells #[.int .i64 kk, .slice ch kg dh] 49))
      replace o3 := o3.kept (belowA w19 (.cells #[.int .i64 kk, .slice ch kg dh] 49))
      replace o4 := o4.kept (belowA w19 (.cells #[.int .i64 kk, .slice ch kg dh] 49))
      replace og := og.kept (belowA w19 (.cells #[.int .i64 kk, .slice ch kg dh] 49))
      replace oh := oh.kept (belowA w19 (.cells #[.int .i64 kk, .slice ch kg dh] 49))
      replace B := thenB B (belowA w19 (.cells #[.int .i64 kk, .slice ch kg dh] 49))
      have VH := V.new w19 [.int .i64 kk, .slice ch kg dh] 49
      clear s_VW f_VW z_VW s_VG f_VG z_VG
      obtain ⟨s_VW, f_VW, z_VW⟩ := VW.open
      obtain ⟨s_VG, f_VG, z_VG⟩ := VG.open
      obtain ⟨s_VH, f_VH, z_VH⟩ := VH.open
      have Bo := B
      go_wp2_with fail
      refine (eqSelsResult_ok kk ch cw kg dh dw zs _ oh.rd ow.rd HK.out hkl).mono ?_
      rintro e w20 ⟨rfl, b20⟩
      clear s_VW f_VW z_VW s_VG f_VG z_VG s_VH f_VH z_VH
      have S20 := b20.size
      simp only [World.size_alloc] at S20
      replace VW := VW.kept b20
      replace VG := VG.kept b20
      replace VH := VH.kept b20
      replace hR := hR.kept b20
      replace hQ := hQ.kept b20
      replace ow := ow.kept b20
      replace o3 := o3.kept b20
      replace o4 := o4.kept b20
      replace og := og.kept b20
      replace oh := oh.kept b20
      replace B := thenB B b20
      clear b20
      obtain ⟨s_VW, f_VW, z_VW⟩ := VW.open
      obtain ⟨s_VG, f_VG, z_VG⟩ := VG.open
      obtain ⟨s_VH, f_VH, z_VH⟩ := VH.open
      have Bo := B
      go_wp2_with fail
      refine (heldSelsResult_ok kk cg kg dg 1 _ og.rd (by omega) (by omega)).mono ?_
      rintro e w21 ⟨rfl, b21⟩
      clear s_VW f_VW z_VW s_VG f_VG z_VG s_VH f_VH z_VH
      have S21 := b21.size
      replace VW := VW.kept b21
      replace VG := VG.kept b21
      replace VH := VH.kept b21
      replace hR := hR.kept b21
      replace hQ := hQ.kept b21
      replace ow := ow.kept b21
      replace o3 := o3.kept b21
      replace o4 := o4.kept b21
      replace og := og.kept b21
      replace oh := oh.kept b21
      replace B := thenB B b21
      clear b21
      obtain ⟨s_VW, f_VW, z_VW⟩ := VW.open
      obtain ⟨s_VG, f_VG, z_VG⟩ := VG.open
      obtain ⟨s_VH, f_VH, z_VH⟩ := VH.open
      have Bo := B
      go_wp2
      go_ret
      exact ⟨rfl, Bo⟩
    · have hlt : 1048576 - (n : Int) < (m : Int) := by omega
      go_enter Try.func6, Try.ntmps6
      go_wp2_with fail
      refine (szSelS_in a n ca 1048576 _ hbig (by omega)).mono ?_
      rintro e wq ⟨rfl, rfl⟩
      go_wp2_with fail
      refine (szSelS_out b m cb (1048576 - (n : Int)) _ hlt (by omega) (by omega) hy').mono ?_
      rintro e wq2 ⟨rfl, rfl⟩
      go_wp2
      go_ret
      exact ⟨rfl, Below.refl _ _⟩
  · have hlt : 1048576 < (n : Int) := by omega
    go_enter Try.func6, Try.ntmps6
    go_wp2_with fail
    refine (szSelS_out a n ca 1048576 _ hlt (by omega) (by omega) hx').mono ?_
    rintro e wq ⟨rfl, rfl⟩
    go_wp2
    go_ret
    exact ⟨rfl, Below.refl _ _⟩

end Go.Proofs.Ytmbkbbephmblmab
