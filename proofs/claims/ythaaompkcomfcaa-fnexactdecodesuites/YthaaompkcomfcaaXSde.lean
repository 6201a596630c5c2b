/- The law on 'DecodeSuites': its walk. -/
import Derived.Test.YthaaompkcomfcaaPsO
import Derived.Test.YthaaompkcomfcaaSuiteG
import Derived.Test.YthaaompkcomfcaaHeldR
import Derived.Test.YthaaompkcomfcaaPsL
namespace Go.Proofs.Ythaaompkcomfcaa
open Go.RowKit

theorem eqByteS_same (a b : Option Addr) (n ca cb : Nat) (xs : List Int) (w : World) (ha : Rd .u8 w a xs) (hb : Rd .u8 w b xs) (hn : xs.length = n) (hx : n ≤ maxLen) :
    Calls Try.prog 43 #[.slice a n ca, .slice b n cb] w fun e w' => e = .returned (.bool true) ∧ Below w.heap.size w w' := by
  have h := eqByteS_ok a b n n ca cb xs xs w ha hb hn hn hx hx
  rw [show decide (xs = xs) = true by simp] at h
  exact h

set_option maxRecDepth 20000 in
set_option maxHeartbeats 8000000 in
theorem xSde_walk (ab : Option Addr) (nb cb : Nat) (zsb : List Int) (w : World) (hRb : Rd .u8 w ab zsb) (hnb : zsb.length = nb) (hxb : nb ≤ maxLen) (hbb : Bytes zsb) :
    Calls Try.prog 11 #[.slice ab nb cb] w fun e w' => e = .returned (.bool true) ∧ Below w.heap.size w w' := by
  by_cases hLb : (nb : Int) ≤ 1048576
  · skip
    have CTb := Hid.mk (fun w h => toByteS_at ab nb cb zsb w h hnb (by omega))
    have CEb := Hid.mk (fun c c' d d' w h h' => eqByteS_same c c' nb d d' zsb w h h' hnb hxb)
    have CS := Hid.mk (fun c w h => specDecode_ok c nb nb zsb w h hbb hnb (Nat.le_refl _) (by unfold maxLen; omega))
    have CI := Hid.mk (fun c w h => implDecode_ok c nb nb zsb w h hbb hnb (Nat.le_refl _) (by unfold maxLen; omega))
    have hm4 := dsL_len zsb
    generalize dsC zsb = kc at *
    generalize dsL zsb = zs at *
    obtain ⟨kl, hkl0⟩ : ∃ m, zs.length = m := ⟨_, rfl⟩
    rw [hkl0] at CS CI hm4
    have hkl : kl ≤ maxLen := by unfold maxLen; omega
    have HK := Hid.mk hkl0
    clear hkl0
    have CMb := Hid.mk (fun c d base w h => markByteS_ok c nb d base zsb (1) w h hnb (by omega) (by omega))
    have hmk : ¬ (1 + (nb : Int)) < 0 := by omega
    have hL2b : ¬ ((1048576 : Int) < (nb : Int)) := by omega
    have hL3b : decide ((1048576 : Int) < (nb : Int)) = false := by simp; omega
    clear hnb hLb
    go_enter Try.func11, Try.ntmps11
    have B := Below.refl w.heap.size w
    have HWb := Hid.mk hRb
    go_wp2_with fail
    refine (CTb.out _ hRb).mono ?_
    rintro e w1 ⟨rfl, pb, b1⟩
    have S1 := b1.size
    replace hRb := hRb.kept b1
    replace B := thenB B b1
    clear b1
    have Bo := B
    have L_pb : ∀ b : Addr, (some ⟨w.heap.size, 0, none⟩) = some b → w.heap.size ≤ b.block ∧ b.block < w1.heap.size := fun b hb => by have h := pb.lt b hb; (try simp only [World.size_alloc] at h); omega
    go_wp2_with fail
    refine (CS.out _ _ pb.rd).mono ?_
    rintro e w2 ⟨cw, dw, rfl, ow, b2⟩
    have S2 := b2.size
    replace hRb := hRb.kept b2
    replace pb := pb.kept b2
    replace B := thenB B b2
    clear b2
    have Bo := B
    have L_ow : ∀ b : Addr, cw = some b → w1.heap.size ≤ b.block ∧ b.block < w2.heap.size := fun b hb => by have h := ow.lt b hb; (try simp only [World.size_alloc] at h); omega
    clear L_pb
    clear pb
    replace hRb := hRb.kept (belowA w2 (.cells #[.int .i64 kc, .slice cw kl dw] 33))
    replace ow := ow.kept (belowA w2 (.cells #[.int .i64 kc, .slice cw kl dw] 33))
    replace B := thenB B (belowA w2 (.cells #[.int .i64 kc, .slice cw kl dw] 33))
    have VW := V.new w2 [.int .i64 kc, .slice cw kl dw] 33
    obtain ⟨s_VW, f_VW, z_VW⟩ := VW.open
    have Bo := B
    go_wp2_with fail
    refine (CTb.out _ hRb).mono ?_
    rintro e w3 ⟨rfl, qb, b3⟩
    clear s_VW f_VW z_VW
    have S3 := b3.size
    simp only [World.size_alloc] at S3
    replace VW := VW.kept b3
    replace hRb := hRb.kept b3
    replace ow := ow.kept b3
    replace B := thenB B b3
    clear b3
    obtain ⟨s_VW, f_VW, z_VW⟩ := VW.open
    have Bo := B
    simp only [World.size_alloc] at qb
    have L_qb : ∀ b : Addr, (some ⟨w2.heap.size + 1, 0, none⟩) = some b → w2.heap.size + 1 ≤ b.block ∧ b.block < w3.heap.size := fun b hb => by have h := qb.lt b hb; (try simp only [World.size_alloc] at h); omega
    go_wp2_with fail
    refine (CI.out _ _ qb.rd).mono ?_
    rintro e w4 ⟨cg, dg, rfl, og, b4⟩
    clear s_VW f_VW z_VW
    have S4 := b4.size
    replace VW := VW.kept b4
    replace hRb := hRb.kept b4
    replace ow := ow.kept b4
    replace qb := qb.kept b4
    replace B := thenB B b4
    clear b4
    obtain ⟨s_VW, f_VW, z_VW⟩ := VW.open
    have Bo := B
    have L_og : ∀ b : Addr, cg = some b → w3.heap.size ≤ b.block ∧ b.block < w4.heap.size := fun b hb => by have h := og.lt b hb; (try simp only [World.size_alloc] at h); omega
    replace VW := VW.kept (belowA w4 (.cells #[.int .i64 kc, .slice cg kl dg] 33))
    replace hRb := hRb.kept (belowA w4 (.cells #[.int .i64 kc, .slice cg kl dg] 33))
    replace ow := ow.kept (belowA w4 (.cells #[.int .i64 kc, .slice cg kl dg] 33))
    replace qb := qb.kept (belowA w4 (.cells #[.int .i64 kc, .slice cg kl dg] 33))
    replace og := og.kept (belowA w4 (.cells #[.int .i64 kc, .slice cg kl dg] 33))
    replace B := thenB B (belowA w4 (.cells #[.int .i64 kc, .slice cg kl dg] 33))
    have VG := V.new w4 [.int .i64 kc, .slice cg kl dg] 33
    clear s_VW f_VW z_VW
    obtain ⟨s_VW, f_VW, z_VW⟩ := VW.open
    obtain ⟨s_VG, f_VG, z_VG⟩ := VG.open
    have Bo := B
    go_wp2_with fail
    refine (eqSuitesResult_ok kc cg cw kl dg dw zs _ og.rd ow.rd HK.out hkl).mono ?_
    rintro e w5 ⟨rfl, b5⟩
    clear s_VW f_VW z_VW s_VG f_VG z_VG
    have S5 := b5.size
    simp only [World.size_alloc] at S5
    replace VW := VW.kept b5
    replace VG := VG.kept b5
    replace hRb := hRb.kept b5
    replace ow := ow.kept b5
    replace qb := qb.kept b5
    replace og := og.kept b5
    replace B := thenB B b5
    clear b5
    obtain ⟨s_VW, f_VW, z_VW⟩ := VW.open
    obtain ⟨s_VG, f_VG, z_VG⟩ := VG.open
    have Bo := B
    go_wp2_with fail
    refine (CTb.out _ hRb).mono ?_
    rintro e w6 ⟨rfl, rb, b6⟩
    clear s_VW f_VW z_VW s_VG f_VG z_VG
    have S6 := b6.size
    replace VW := VW.kept b6
    replace VG := VG.kept b6
    replace hRb := hRb.kept b6
    replace ow := ow.kept b6
    replace qb := qb.kept b6
    replace og := og.kept b6
    replace B := thenB B b6
    clear b6
    obtain ⟨s_VW, f_VW, z_VW⟩ := VW.open
    obtain ⟨s_VG, f_VG, z_VG⟩ := VG.open
    have Bo := B
    have L_rb : ∀ b : Addr, (some ⟨w5.heap.size, 0, none⟩) = some b → w5.heap.size ≤ b.block ∧ b.block < w6.heap.size := fun b hb => by have h := rb.lt b hb; (try simp only [World.size_alloc] at h); omega
    go_wp2_with fail
    refine (CEb.out _ _ _ _ _ qb.rd rb.rd).mono ?_
    rintro e w7 ⟨rfl, b7⟩
    clear s_VW f_VW z_VW s_VG f_VG z_VG
    have S7 := b7.size
    replace VW := VW.kept b7
    replace VG := VG.kept b7
    replace hRb := hRb.kept b7
    replace ow := ow.kept b7
    replace qb := qb.kept b7
    replace og := og.kept b7
    replace rb := rb.kept b7
    replace B := thenB B b7
    clear b7
    obtain ⟨s_VW, f_VW, z_VW⟩ := VW.open
    obtain ⟨s_VG, f_VG, z_VG⟩ := VG.open
    have Bo := B
    clear L_rb
    clear rb
    go_wp2_with fail
    refine (CMb.out _ _ _ _ qb).mono ?_
    rintro e w8 ⟨rfl, oq, gm⟩
    clear s_VW f_VW z_VW s_VG f_VG z_VG
    replace VW := VW.grownR gm (row_ne fun b hb => by have h := L_qb b hb; omega)
    replace VG := VG.grownR gm (row_ne fun b hb => by have h := L_qb b hb; omega)
    replace ow := ow.grown gm (fun b hb => row_ne fun b' hb' => by have h1 := L_ow b hb; have h2 := L_qb b' hb'; omega)
    replace og := og.grown gm (fun b hb => row_ne fun b' hb' => by have h1 := L_og b hb; have h2 := L_qb b' hb'; omega)
    replace B := belowG B gm (by omega) (fun b hb => by have h := L_qb b hb; omega)
    replace hRb := HWb.out.kept B
    have S8 := gm.size
    clear gm qb
    have qb := oq
    clear oq
    obtain ⟨s_VW, f_VW, z_VW⟩ := VW.open
    obtain ⟨s_VG, f_VG, z_VG⟩ := VG.open
    have Bo := B
    go_wp2_with fail
    refine (eqSuitesResult_ok kc cg cw kl dg dw zs _ og.rd ow.rd HK.out hkl).mono ?_
    rintro e w9 ⟨rfl, b9⟩
    clear s_VW f_VW z_VW s_VG f_VG z_VG
    have S9 := b9.size
    replace VW := VW.kept b9
    replace VG := VG.kept b9
    replace hRb := hRb.kept b9
    replace ow := ow.kept b9
    replace qb := qb.kept b9
    replace og := og.kept b9
    replace B := thenB B b9
    clear b9
    obtain ⟨s_VW, f_VW, z_VW⟩ := VW.open
    obtain ⟨s_VG, f_VG, z_VG⟩ := VG.open
    have Bo := B
    have hqm : ¬ (1 + 4 * (kl : Int)) < 0 := by omega
    go_wp2_with fail
    refine (markSuitesResult_ok kc cg kl dg _ zs 1 _ og HK.out (by omega) (by omega)).mono ?_
    rintro e w10 ⟨rfl, oq, gm⟩
    clear s_VW f_VW z_VW s_VG f_VG z_VG
    replace VW := VW.grownR gm (row_ne fun b hb => by have h := L_og b hb; omega)
    replace VG := VG.grownR gm (row_ne fun b hb => by have h := L_og b hb; omega)
    replace ow := ow.grown gm (fun b hb => row_ne fun b' hb' => by have h1 := L_ow b hb; have h2 := L_og b' hb'; omega)
    replace qb := qb.grown gm (fun b hb => row_ne fun b' hb' => by have h1 := L_qb b hb; have h2 := L_og b' hb'; omega)
    replace B := belowG B gm (by omega) (fun b hb => by have h := L_og b hb; omega)
    replace hRb := HWb.out.kept B
    have S10 := gm.size
    clear gm og
    have og := oq
    clear oq
    obtain ⟨s_VW, f_VW, z_VW⟩ := VW.open
    obtain ⟨s_VG, f_VG, z_VG⟩ := VG.open
    have Bo := B
    go_wp2_with fail
    refine (heldSuitesResult_ok kc cg kl dg 1 _ og.rd (by omega) (by omega)).mono ?_
    rintro e w11 ⟨rfl, b11⟩
    clear s_VW f_VW z_VW s_VG f_VG z_VG
    have S11 := b11.size
    replace VW := VW.kept b11
    replace VG := VG.kept b11
    replace hRb := hRb.kept b11
    replace ow := ow.kept b11
    replace qb := qb.kept b11
    replace og := og.kept b11
    replace B := thenB B b11
    clear b11
    obtain ⟨s_VW, f_VW, z_VW⟩ := VW.open
    obtain ⟨s_VG, f_VG, z_VG⟩ := VG.open
    have Bo := B
    go_wp2_with fail
    refine (CTb.out _ hRb).mono ?_
    rintro e w12 ⟨rfl, sb, b12⟩
    clear s_VW f_VW z_VW s_VG f_VG z_VG
    have S12 := b12.size
    replace VW := VW.kept b12
    replace VG := VG.kept b12
    replace hRb := hRb.kept b12
    replace ow := ow.kept b12
    replace qb := qb.kept b12
    replace og := og.kept b12
    replace B := thenB B b12
    clear b12
    obtain ⟨s_VW, f_VW, z_VW⟩ := VW.open
    obtain ⟨s_VG, f_VG, z_VG⟩ := VG.open
    have Bo := B
    have L_sb : ∀ b : Addr, (some ⟨w11.heap.size, 0, none⟩) = some b → w11.heap.size ≤ b.block ∧ b.block < w12.heap.size := fun b hb => by have h := sb.lt b hb; (try simp only [World.size_alloc] at h); omega
    go_wp2_with fail
    refine (CI.out _ _ sb.rd).mono ?_
    rintro e w13 ⟨ch, dh, rfl, oh, b13⟩
    clear s_VW f_VW z_VW s_VG f_VG z_VG
    have S13 := b13.size
    replace VW := VW.kept b13
    replace VG := VG.kept b13
    replace hRb := hRb.kept b13
    replace ow := ow.kept b13
    replace qb := qb.kept b13
    replace og := og.kept b13
    replace sb := sb.kept b13
    replace B := thenB B b13
    clear b13
    obtain ⟨s_VW, f_VW, z_VW⟩ := VW.open
    obtain ⟨s_VG, f_VG, z_VG⟩ := VG.open
    have Bo := B
    have L_oh : ∀ b : Addr, ch = some b → w12.heap.size ≤ b.block ∧ b.block < w13.heap.size := fun b hb => by have h := oh.lt b hb; (try simp only [World.size_alloc] at h); omega
    clear L_sb
    clear sb
    replace VW := VW.kept (belowA w13 (.cells #[.int .i64 kc, .slice ch kl dh] 33))
    replace VG := VG.kept (belowA w13 (.cells #[.int .i64 kc, .slice ch kl dh] 33))
    replace hRb := hRb.kept (belowA w13 (.cells #[.int .i64 kc, .slice ch kl dh] 33))
    replace ow := ow.kept (belowA w13 (.cells #[.int .i64 kc, .slice ch kl dh] 33))
    replace qb := qb.kept (belowA w13 (.cells #[.int .i64 kc, .slice ch kl dh] 33))
    replace og := og.kept (belowA w13 (.cells #[.int .i64 kc, .slice ch kl dh] 33))
    replace oh := oh.kept (belowA w13 (.cells #[.int .i64 kc, .slice ch kl dh] 33))
    replace B := thenB B (belowA w13 (.cells #[.int .i64 kc, .slice ch kl dh] 33))
    have VH := V.new w13 [.int .i64 kc, .slice ch kl dh] 33
    clear s_VW f_VW z_VW s_VG f_VG z_VG
    obtain ⟨s_VW, f_VW, z_VW⟩ := VW.open
    obtain ⟨s_VG, f_VG, z_VG⟩ := VG.open
    obtain ⟨s_VH, f_VH, z_VH⟩ := VH.open
    have Bo := B
    go_wp2_with fail
    refine (eqSuitesResult_ok kc ch cw kl dh dw zs _ oh.rd ow.rd HK.out hkl).mono ?_
    rintro e w14 ⟨rfl, b14⟩
    clear s_VW f_VW z_VW s_VG f_VG z_VG s_VH f_VH z_VH
    have S14 := b14.size
    simp only [World.size_alloc] at S14
    replace VW := VW.kept b14
    replace VG := VG.kept b14
    replace VH := VH.kept b14
    replace hRb := hRb.kept b14
    replace ow := ow.kept b14
    replace qb := qb.kept b14
    replace og := og.kept b14
    replace oh := oh.kept b14
    replace B := thenB B b14
    clear b14
    obtain ⟨s_VW, f_VW, z_VW⟩ := VW.open
    obtain ⟨s_VG, f_VG, z_VG⟩ := VG.open
    obtain ⟨s_VH, f_VH, z_VH⟩ := VH.open
    have Bo := B
    go_wp2_with fail
    refine (heldSuitesResult_ok kc cg kl dg 1 _ og.rd (by omega) (by omega)).mono ?_
    rintro e w15 ⟨rfl, b15⟩
    clear s_VW f_VW z_VW s_VG f_VG z_VG s_VH f_VH z_VH
    have S15 := b15.size
    replace VW := VW.kept b15
    replace VG := VG.kept b15
    replace VH := VH.kept b15
    replace hRb := hRb.kept b15
    replace ow := ow.kept b15
    replace qb := qb.kept b15
    replace og := og.kept b15
    replace oh := oh.kept b15
    replace B := thenB B b15
    clear b15
    obtain ⟨s_VW, f_VW, z_VW⟩ := VW.open
    obtain ⟨s_VG, f_VG, z_VG⟩ := VG.open
    obtain ⟨s_VH, f_VH, z_VH⟩ := VH.open
    have Bo := B
    go_wp2
    go_ret
    exact ⟨rfl, Bo⟩
  · have hlt : decide ((1048576 : Int) < (nb : Int)) = true := by simp; omega
    unfold maxLen at hxb
    go_enter Try.func11, Try.ntmps11
    go_wp2
    go_ret
    exact ⟨rfl, Below.refl _ _⟩

end Go.Proofs.Ythaaompkcomfcaa
