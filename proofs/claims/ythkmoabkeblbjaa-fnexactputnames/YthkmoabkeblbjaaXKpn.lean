/- The law on 'PutNames': its walk. -/
import Derived.Test.YthkmoabkeblbjaaKzP
import Derived.Test.YthkmoabkeblbjaaTmR
import Derived.Test.YthkmoabkeblbjaaIntT
namespace Go.Proofs.Ythkmoabkeblbjaa
open Go.RowKit

theorem pnR_len (xs : List T4) (zs : List Int) : (pnR xs zs).l.length ≤ 400 := by
  rcases pn_ways xs zs with ⟨_, h⟩ | ⟨_, _, h⟩ | ⟨h1, _, _, h⟩ | ⟨_, _, _, _, h⟩ | ⟨h1, _, _, _, h⟩
  · rw [h]; exact Nat.zero_le _
  · rw [h]; exact Nat.zero_le _
  · rw [h]; exact put_len (tfC_zero h1).1
  · rw [h]; exact Nat.zero_le _
  · rw [h]; exact mkW_len (m := ⟨xs, 0⟩) (tfC_zero h1).1 _

set_option maxRecDepth 20000 in
set_option maxHeartbeats 8000000 in
theorem xKpn_walk (aa : Option Addr) (na ca : Nat) (xsa : List T4) (ab : Option Addr) (nb cb : Nat) (zsb : List Int) (w : World) (hRa : RdTerm w aa xsa) (hna : xsa.length = na) (hxa : na ≤ maxLen) (hRb : Rd .i64 w ab zsb) (hnb : zsb.length = nb) (hxb : nb ≤ maxLen) (hok : ∀ t ∈ xsa, okT t) :
    Calls Try.prog 11 #[.slice aa na ca, .slice ab nb cb] w fun e w' => e = .returned (.bool true) ∧ Below w.heap.size w w' := by
  by_cases hLb : (nb : Int) ≤ 1048576
  · skip
    by_cases hba : (na : Int) ≤ 1048576
    · skip
      have h0a : (0 : Int) ≤ (1048576 - (na : Int)) := by omega
      have CTa := Hid.mk (fun w h => toTermS_ok aa na ca xsa w h hna (by omega))
      have CEa := Hid.mk (fun c c' d d' w h h' => eqTermS_ok c c' na d d' xsa w h h' hna hxa)
      have CTb := Hid.mk (fun w h => toInt64S_ok ab nb cb zsb w h hnb (by omega))
      have CEb := Hid.mk (fun c c' d d' w h h' => eqInt64S_ok c c' nb d d' zsb w h h' hnb hxb)
      have CS := Hid.mk (fun c w h hcn c2 h2 => specPutNames_ok c na na xsa c2 nb nb zsb w h hna (by omega) (Nat.le_refl _) hcn h2 hnb (Nat.le_refl _) (by omega))
      have CI := Hid.mk (fun c d w h c2 d2 h2 HL => implPutNames_ok c na d xsa c2 nb d2 zsb w h hna (by omega) hok h2 hnb (by omega) HL)
      have hm4 := pnR_len xsa zsb
      generalize pnR xsa zsb = P at *
      obtain ⟨kc, kk, ls⟩ := P
      simp only at *
      obtain ⟨kl, hkl0⟩ : ∃ m, ls.length = m := ⟨_, rfl⟩
      rw [hkl0] at CS CI hm4
      have hkl : kl ≤ maxLen := by unfold maxLen; omega
      have HK := Hid.mk hkl0
      clear hkl0
      have CMa := Hid.mk (fun c d base w h => markTermS_ok c na d base xsa 1 w h hna (by omega) (by omega))
      have CMb := Hid.mk (fun c d base w h => markInt64S_ok c nb d base zsb (1 + 4 * (na : Int)) w h hnb (by omega) (by omega))
      have hmk : ¬ (1 + 4 * (na : Int) + (nb : Int)) < 0 := by omega
      have hL2b : ¬ ((1048576 : Int) < (nb : Int)) := by omega
      have hL3b : decide ((1048576 : Int) < (nb : Int)) = false := by simp; omega
      have HBa := Hid.mk hba
      clear hba hna hnb hLb
      go_enter Try.func11, Try.ntmps11
      have B := Below.refl w.heap.size w
      have HWa := Hid.mk hRa
      have HWb := Hid.mk hRb
      go_wp2_with fail
      refine (szTermS_in aa na ca 1048576 _ HBa.out (by omega)).mono ?_
      rintro e w ⟨rfl, rfl⟩
      go_wp2_with fail
      refine (CTa.out _ hRa).mono ?_
      rintro e w1 ⟨rfl, pa, b1⟩
      have S1 := b1.size
      replace hRa := hRa.kept b1
      replace hRb := hRb.kept b1
      replace B := thenB B b1
      clear b1
      have Bo := B
      have L_pa : ∀ b : Addr, (some ⟨w.heap.size, 0, none⟩) = some b → w.heap.size ≤ b.block ∧ b.block < w1.heap.size := fun b hb => by have h := pa.lt b hb; (try simp only [World.size_alloc] at h); omega
      go_wp2_with fail
      refine (CTb.out _ hRb).mono ?_
      rintro e w2 ⟨rfl, pb, b2⟩
      have S2 := b2.size
      replace hRa := hRa.kept b2
      replace hRb := hRb.kept b2
      replace pa := pa.kept b2
      replace B := thenB B b2
      clear b2
      have Bo := B
      have L_pb : ∀ b : Addr, (some ⟨w1.heap.size, 0, none⟩) = some b → w1.heap.size ≤ b.block ∧ b.block < w2.heap.size := fun b hb => by have h := pb.lt b hb; (try simp only [World.size_alloc] at h); omega
      go_wp2_with fail
      refine (CS.out _ _ pa.rd (fun h => by cases h) _ pb.rd).mono ?_
      rintro e w3 ⟨cw, dw, rfl, ow, b3⟩
      have S3 := b3.size
      replace hRa := hRa.kept b3
      replace hRb := hRb.kept b3
      replace pa := pa.kept b3
      replace pb := pb.kept b3
      replace B := thenB B b3
      clear b3
      have Bo := B
      have L_ow : ∀ b : Addr, cw = some b → w2.heap.size ≤ b.block ∧ b.block < w3.heap.size := fun b hb => by have h := ow.lt b hb; (try simp only [World.size_alloc] at h); omega
      clear L_pa L_pb
      clear pa pb
      replace hRa := hRa.kept (belowA w3 (.cells #[.int .i64 kc, .int .i64 kk, .slice cw kl dw] 33))
      replace hRb := hRb.kept (belowA w3 (.cells #[.int .i64 kc, .int .i64 kk, .slice cw kl dw] 33))
      replace ow := ow.kept (belowA w3 (.cells #[.int .i64 kc, .int .i64 kk, .slice cw kl dw] 33))
      replace B := thenB B (belowA w3 (.cells #[.int .i64 kc, .int .i64 kk, .slice cw kl dw] 33))
      have VW := V.new w3 [.int .i64 kc, .int .i64 kk, .slice cw kl dw] 33
      obtain ⟨s_VW, f_VW, z_VW⟩ := VW.open
      have Bo := B
      go_wp2_with fail
      refine (CTa.out _ hRa).mono ?_
      rintro e w4 ⟨rfl, qa, b4⟩
      clear s_VW f_VW z_VW
      have S4 := b4.size
      simp only [World.size_alloc] at S4
      replace VW := VW.kept b4
      replace hRa := hRa.kept b4
      replace hRb := hRb.kept b4
      replace ow := ow.kept b4
      replace B := thenB B b4
      clear b4
      obtain ⟨s_VW, f_VW, z_VW⟩ := VW.open
      have Bo := B
      simp only [World.size_alloc] at qa
      have L_qa : ∀ b : Addr, (some ⟨w3.heap.size + 1, 0, none⟩) = some b → w3.heap.size + 1 ≤ b.block ∧ b.block < w4.heap.size := fun b hb => by have h := qa.lt b hb; (try simp only [World.size_alloc] at h); omega
      go_wp2_with fail
      refine (CTb.out _ hRb).mono ?_
      rintro e w5 ⟨rfl, qb, b5⟩
      clear s_VW f_VW z_VW
      have S5 := b5.size
      replace VW := VW.kept b5
      replace hRa := hRa.kept b5
      replace hRb := hRb.kept b5
      replace ow := ow.kept b5
      replace qa := qa.kept b5
      replace B := thenB B b5
      clear b5
      obtain ⟨s_VW, f_VW, z_VW⟩ := VW.open
      have Bo := B
      have L_qb : ∀ b : Addr, (some ⟨w4.heap.size, 0, none⟩) = some b → w4.heap.size ≤ b.block ∧ b.block < w5.heap.size := fun b hb => by have h := qb.lt b hb; (try simp only [World.size_alloc] at h); omega
      go_wp2_with fail
      refine (CI.out _ _ _ qa.rd _ _ qb.rd (Hid.mk (fun b hb => by have h := qb.lt b hb; (try simp only [World.size_alloc] at h ⊢); omega))).mono ?_
      rintro e w6 ⟨cg, dg, rfl, og, b6⟩
      clear s_VW f_VW z_VW
      have S6 := b6.size
      replace VW := VW.kept b6
      replace hRa := hRa.kept b6
      replace hRb := hRb.kept b6
      replace ow := ow.kept b6
      replace qa := qa.kept b6
      replace qb := qb.kept b6
      replace B := thenB B b6
      clear b6
      obtain ⟨s_VW, f_VW, z_VW⟩ := VW.open
      have Bo := B
      have L_og : ∀ b : Addr, cg = some b → w5.heap.size ≤ b.block ∧ b.block < w6.heap.size := fun b hb => by have h := og.lt b hb; (try simp only [World.size_alloc] at h); omega
      replace VW := VW.kept (belowA w6 (.cells #[.int .i64 kc, .int .i64 kk, .slice cg kl dg] 33))
      replace hRa := hRa.kept (belowA w6 (.cells #[.int .i64 kc, .int .i64 kk, .slice cg kl dg] 33))
      replace hRb := hRb.kept (belowA w6 (.cells #[.int .i64 kc, .int .i64 kk, .slice cg kl dg] 33))
      replace ow := ow.kept (belowA w6 (.cells #[.int .i64 kc, .int .i64 kk, .slice cg kl dg] 33))
      replace qa := qa.kept (belowA w6 (.cells #[.int .i64 kc, .int .i64 kk, .slice cg kl dg] 33))
      replace qb := qb.kept (belowA w6 (.cells #[.int .i64 kc, .int .i64 kk, .slice cg kl dg] 33))
      replace og := og.kept (belowA w6 (.cells #[.int .i64 kc, .int .i64 kk, .slice cg kl dg] 33))
      replace B := thenB B (belowA w6 (.cells #[.int .i64 kc, .int .i64 kk, .slice cg kl dg] 33))
      have VG := V.new w6 [.int .i64 kc, .int .i64 kk, .slice cg kl dg] 33
      clear s_VW f_VW z_VW
      obtain ⟨s_VW, f_VW, z_VW⟩ := VW.open
      obtain ⟨s_VG, f_VG, z_VG⟩ := VG.open
      have Bo := B
      go_wp2_with fail
      refine (eqTermResult_ok kc kk cg cw kl dg dw ls _ og.rd ow.rd HK.out hkl).mono ?_
      rintro e w7 ⟨rfl, b7⟩
      clear s_VW f_VW z_VW s_VG f_VG z_VG
      have S7 := b7.size
      simp only [World.size_alloc] at S7
      replace VW := VW.kept b7
      replace VG := VG.kept b7
      replace hRa := hRa.kept b7
      replace hRb := hRb.kept b7
      replace ow := ow.kept b7
      replace qa := qa.kept b7
      replace qb := qb.kept b7
      replace og := og.kept b7
      replace B := thenB B b7
      clear b7
      obtain ⟨s_VW, f_VW, z_VW⟩ := VW.open
      obtain ⟨s_VG, f_VG, z_VG⟩ := VG.open
      have Bo := B
      go_wp2_with fail
      refine (CTa.out _ hRa).mono ?_
      rintro e w8 ⟨rfl, ra, b8⟩
      clear s_VW f_VW z_VW s_VG f_VG z_VG
      have S8 := b8.size
      replace VW := VW.kept b8
      replace VG := VG.kept b8
      replace hRa := hRa.kept b8
      replace hRb := hRb.kept b8
      replace ow := ow.kept b8
      replace qa := qa.kept b8
      replace qb := qb.kept b8
      replace og := og.kept b8
      replace B := thenB B b8
      clear b8
      obtain ⟨s_VW, f_VW, z_VW⟩ := VW.open
      obtain ⟨s_VG, f_VG, z_VG⟩ := VG.open
      have Bo := B
      have L_ra : ∀ b : Addr, (some ⟨w7.heap.size, 0, none⟩) = some b → w7.heap.size ≤ b.block ∧ b.block < w8.heap.size := fun b hb => by have h := ra.lt b hb; (try simp only [World.size_alloc] at h); omega
      go_wp2_with fail
      refine (CEa.out _ _ _ _ _ qa.rd ra.rd).mono ?_
      rintro e w9 ⟨rfl, b9⟩
      clear s_VW f_VW z_VW s_VG f_VG z_VG
      have S9 := b9.size
      replace VW := VW.kept b9
      replace VG := VG.kept b9
      replace hRa := hRa.kept b9
      replace hRb := hRb.kept b9
      replace ow := ow.kept b9
      replace qa := qa.kept b9
      replace qb := qb.kept b9
      replace og := og.kept b9
      replace ra := ra.kept b9
      replace B := thenB B b9
      clear b9
      obtain ⟨s_VW, f_VW, z_VW⟩ := VW.open
      obtain ⟨s_VG, f_VG, z_VG⟩ := VG.open
      have Bo := B
      clear L_ra
      clear ra
      go_wp2_with fail
      refine (CTb.out _ hRb).mono ?_
      rintro e w10 ⟨rfl, rb, b10⟩
      clear s_VW f_VW z_VW s_VG f_VG z_VG
      have S10 := b10.size
      replace VW := VW.kept b10
      replace VG := VG.kept b10
      replace hRa := hRa.kept b10
      replace hRb := hRb.kept b10
      replace ow := ow.kept b10
      replace qa := qa.kept b10
      replace qb := qb.kept b10
      replace og := og.kept b10
      replace B := thenB B b10
      clear b10
      obtain ⟨s_VW, f_VW, z_VW⟩ := VW.open
      obtain ⟨s_VG, f_VG, z_VG⟩ := VG.open
      have Bo := B
      have L_rb : ∀ b : Addr, (some ⟨w9.heap.size, 0, none⟩) = some b → w9.heap.size ≤ b.block ∧ b.block < w10.heap.size := fun b hb => by have h := rb.lt b hb; (try simp only [World.size_alloc] at h); omega
      go_wp2_with fail
      refine (CEb.out _ _ _ _ _ qb.rd rb.rd).mono ?_
      rintro e w11 ⟨rfl, b11⟩
      clear s_VW f_VW z_VW s_VG f_VG z_VG
      have S11 := b11.size
      replace VW := VW.kept b11
      replace VG := VG.kept b11
      replace hRa := hRa.kept b11
      replace hRb := hRb.kept b11
      replace ow := ow.kept b11
      replace qa := qa.kept b11
      replace qb := qb.kept b11
      replace og := og.kept b11
      replace rb := rb.kept b11
      replace B := thenB B b11
      clear b11
      obtain ⟨s_VW, f_VW, z_VW⟩ := VW.open
      obtain ⟨s_VG, f_VG, z_VG⟩ := VG.open
      have Bo := B
      clear L_rb
      clear rb
      go_wp2_with fail
      refine (CMa.out _ _ _ _ qa).mono ?_
      rintro e w12 ⟨rfl, oq, gm⟩
      clear s_VW f_VW z_VW s_VG f_VG z_VG
      replace VW := VW.grownR gm (row_ne fun b hb => by have h := L_qa b hb; omega)
      replace VG := VG.grownR gm (row_ne fun b hb => by have h := L_qa b hb; omega)
      replace ow := ow.grown gm (fun b hb => row_ne fun b' hb' => by have h1 := L_ow b hb; have h2 := L_qa b' hb'; omega)
      replace qb := qb.grown gm (fun b hb => row_ne fun b' hb' => by have h1 := L_qb b hb; have h2 := L_qa b' hb'; omega)
      replace og := og.grown gm (fun b hb => row_ne fun b' hb' => by have h1 := L_og b hb; have h2 := L_qa b' hb'; omega)
      replace B := belowG B gm (by omega) (fun b hb => by have h := L_qa b hb; omega)
      replace hRa := HWa.out.kept B
      replace hRb := HWb.out.kept B
      have S12 := gm.size
      clear gm qa
      have qa := oq
      clear oq
      obtain ⟨s_VW, f_VW, z_VW⟩ := VW.open
      obtain ⟨s_VG, f_VG, z_VG⟩ := VG.open
      have Bo := B
      go_wp2_with fail
      refine (CMb.out _ _ _ _ qb).mono ?_
      rintro e w13 ⟨rfl, oq, gm⟩
      clear s_VW f_VW z_VW s_VG f_VG z_VG
      replace VW := VW.grownR gm (row_ne fun b hb => by have h := L_qb b hb; omega)
      replace VG := VG.grownR gm (row_ne fun b hb => by have h := L_qb b hb; omega)
      replace ow := ow.grown gm (fun b hb => row_ne fun b' hb' => by have h1 := L_ow b hb; have h2 := L_qb b' hb'; omega)
      replace qa := qa.grown gm (fun b hb => row_ne fun b' hb' => by have h1 := L_qa b hb; have h2 := L_qb b' hb'; omega)
      replace og := og.grown gm (fun b hb => row_ne fun b' hb' => by have h1 := L_og b hb; have h2 := L_qb b' hb'; omega)
      replace B := belowG B gm (by omega) (fun b hb => by have h := L_qb b hb; omega)
      replace hRa := HWa.out.kept B
      replace hRb := HWb.out.kept B
      have S13 := gm.size
      clear gm qb
      have qb := oq
      clear oq
      obtain ⟨s_VW, f_VW, z_VW⟩ := VW.open
      obtain ⟨s_VG, f_VG, z_VG⟩ := VG.open
      have Bo := B
      go_wp2_with fail
      refine (eqTermResult_ok kc kk cg cw kl dg dw ls _ og.rd ow.rd HK.out hkl).mono ?_
      rintro e w14 ⟨rfl, b14⟩
      clear s_VW f_VW z_VW s_VG f_VG z_VG
      have S14 := b14.size
      replace VW := VW.kept b14
      replace VG := VG.kept b14
      replace hRa := hRa.kept b14
      replace hRb := hRb.kept b14
      replace ow := ow.kept b14
      replace qa := qa.kept b14
      replace qb := qb.kept b14
      replace og := og.kept b14
      replace B := thenB B b14
      clear b14
      obtain ⟨s_VW, f_VW, z_VW⟩ := VW.open
      obtain ⟨s_VG, f_VG, z_VG⟩ := VG.open
      have Bo := B
      have hqm : ¬ (1 + 4 * (kl : Int)) < 0 := by omega
      go_wp2_with fail
      refine (markTermResult_ok kc kk cg kl dg _ ls 1 _ og HK.out (by omega) (by omega)).mono ?_
      rintro e w15 ⟨rfl, oq, gm⟩
      clear s_VW f_VW z_VW s_VG f_VG z_VG
      replace VW := VW.grownR gm (row_ne fun b hb => by have h := L_og b hb; omega)
      replace VG := VG.grownR gm (row_ne fun b hb => by have h := L_og b hb; omega)
      replace ow := ow.grown gm (fun b hb => row_ne fun b' hb' => by have h1 := L_ow b hb; have h2 := L_og b' hb'; omega)
      replace qa := qa.grown gm (fun b hb => row_ne fun b' hb' => by have h1 := L_qa b hb; have h2 := L_og b' hb'; omega)
      replace qb := qb.grown gm (fun b hb => row_ne fun b' hb' => by have h1 := L_qb b hb; have h2 := L_og b' hb'; omega)
      replace B := belowG B gm (by omega) (fun b hb => by have h := L_og b hb; omega)
      replace hRa := HWa.out.kept B
      replace hRb := HWb.out.kept B
      have S15 := gm.size
      clear gm og
      have og := oq
      clear oq
      obtain ⟨s_VW, f_VW, z_VW⟩ := VW.open
      obtain ⟨s_VG, f_VG, z_VG⟩ := VG.open
      have Bo := B
      go_wp2_with fail
      refine (heldTermResult_ok kc kk cg kl dg 1 _ og.rd (by omega) (by omega)).mono ?_
      rintro e w16 ⟨rfl, b16⟩
      clear s_VW f_VW z_VW s_VG f_VG z_VG
      have S16 := b16.size
      replace VW := VW.kept b16
      replace VG := VG.kept b16
      replace hRa := hRa.kept b16
      replace hRb := hRb.kept b16
      replace ow := ow.kept b16
      replace qa := qa.kept b16
      replace qb := qb.kept b16
      replace og := og.kept b16
      replace B := thenB B b16
      clear b16
      obtain ⟨s_VW, f_VW, z_VW⟩ := VW.open
      obtain ⟨s_VG, f_VG, z_VG⟩ := VG.open
      have Bo := B
      go_wp2_with fail
      refine (CTa.out _ hRa).mono ?_
      rintro e w17 ⟨rfl, sa, b17⟩
      clear s_VW f_VW z_VW s_VG f_VG z_VG
      have S17 := b17.size
      replace VW := VW.kept b17
      replace VG := VG.kept b17
      replace hRa := hRa.kept b17
      replace hRb := hRb.kept b17
      replace ow := ow.kept b17
      replace qa := qa.kept b17
      replace qb := qb.kept b17
      replace og := og.kept b17
      replace B := thenB B b17
      clear b17
      obtain ⟨s_VW, f_VW, z_VW⟩ := VW.open
      obtain ⟨s_VG, f_VG, z_VG⟩ := VG.open
      have Bo := B
      have L_sa : ∀ b : Addr, (some ⟨w16.heap.size, 0, none⟩) = some b → w16.heap.size ≤ b.block ∧ b.block < w17.heap.size := fun b hb => by have h := sa.lt b hb; (try simp only [World.size_alloc] at h); omega
      go_wp2_with fail
      refine (CTb.out _ hRb).mono ?_
      rintro e w18 ⟨rfl, sb, b18⟩
      clear s_VW f_VW z_VW s_VG f_VG z_VG
      have S18 := b18.size
      replace VW := VW.kept b18
      replace VG := VG.kept b18
      replace hRa := hRa.kept b18
      replace hRb := hRb.kept b18
      replace ow := ow.kept b18
      replace qa := qa.kept b18
      replace qb := qb.kept b18
      replace og := og.kept b18
      replace sa := sa.kept b18
      replace B := thenB B b18
      clear b18
      obtain ⟨s_VW, f_VW, z_VW⟩ := VW.open
      obtain ⟨s_VG, f_VG, z_VG⟩ := VG.open
      have Bo := B
      have L_sb : ∀ b : Addr, (some ⟨w17.heap.size, 0, none⟩) = some b → w17.heap.size ≤ b.block ∧ b.block < w18.heap.size := fun b hb => by have h := sb.lt b hb; (try simp only [World.size_alloc] at h); omega
      go_wp2_with fail
      refine (CI.out _ _ _ sa.rd _ _ sb.rd (Hid.mk (fun b hb => by have h := sb.lt b hb; (try simp only [World.size_alloc] at h ⊢); omega))).mono ?_
      rintro e w19 ⟨ch, dh, rfl, oh, b19⟩
      clear s_VW f_VW z_VW s_VG f_VG z_VG
      have S19 := b19.size
      replace VW := VW.kept b19
      replace VG := VG.kept b19
      replace hRa := hRa.kept b19
      replace hRb := hRb.kept b19
      replace ow := ow.kept b19
      replace qa := qa.kept b19
      replace qb := qb.kept b19
      replace og := og.kept b19
      replace sa := sa.kept b19
      replace sb := sb.kept b19
      replace B := thenB B b19
      clear b19
      obtain ⟨s_VW, f_VW, z_VW⟩ := VW.open
      obtain ⟨s_VG, f_VG, z_VG⟩ := VG.open
      have Bo := B
      have L_oh : ∀ b : Addr, ch = some b → w18.heap.size ≤ b.block ∧ b.block < w19.heap.size := fun b hb => by have h := oh.lt b hb; (try simp only [World.size_alloc] at h); omega
      clear L_sa L_sb
      clear sa sb
      replace VW := VW.kept (belowA w19 (.cells #[.int .i64 kc, .int .i64 kk, .slice ch kl dh] 33))
      replace VG := VG.kept (belowA w19 (.cells #[.int .i64 kc, .int .i64 kk, .slice ch kl dh] 33))
      replace hRa := hRa.kept (belowA w19 (.cells #[.int .i64 kc, .int .i64 kk, .slice ch kl dh] 33))
      replace hRb := hRb.kept (belowA w19 (.cells #[.int .i64 kc, .int .i64 kk, .slice ch kl dh] 33))
      replace ow := ow.kept (belowA w19 (.cells #[.int .i64 kc, .int .i64 kk, .slice ch kl dh] 33))
      replace qa := qa.kept (belowA w19 (.cells #[.int .i64 kc, .int .i64 kk, .slice ch kl dh] 33))
      replace qb := qb.kept (belowA w19 (.cells #[.int .i64 kc, .int .i64 kk, .slice ch kl dh] 33))
      replace og := og.kept (belowA w19 (.cells #[.int .i64 kc, .int .i64 kk, .slice ch kl dh] 33))
      replace oh := oh.kept (belowA w19 (.cells #[.int .i64 kc, .int .i64 kk, .slice ch kl dh] 33))
      replace B := thenB B (belowA w19 (.cells #[.int .i64 kc, .int .i64 kk, .slice ch kl dh] 33))
      have VH := V.new w19 [.int .i64 kc, .int .i64 kk, .slice ch kl dh] 33
      clear s_VW f_VW z_VW s_VG f_VG z_VG
      obtain ⟨s_VW, f_VW, z_VW⟩ := VW.open
      obtain ⟨s_VG, f_VG, z_VG⟩ := VG.open
      obtain ⟨s_VH, f_VH, z_VH⟩ := VH.open
      have Bo := B
      go_wp2_with fail
      refine (eqTermResult_ok kc kk ch cw kl dh dw ls _ oh.rd ow.rd HK.out hkl).mono ?_
      rintro e w20 ⟨rfl, b20⟩
      clear s_VW f_VW z_VW s_VG f_VG z_VG s_VH f_VH z_VH
      have S20 := b20.size
      simp only [World.size_alloc] at S20
      replace VW := VW.kept b20
      replace VG := VG.kept b20
      replace VH := VH.kept b20
      replace hRa := hRa.kept b20
      replace hRb := hRb.kept b20
      replace ow := ow.kept b20
      replace qa := qa.kept b20
      replace qb := qb.kept b20
      replace og := og.kept b20
      replace oh := oh.kept b20
      replace B := thenB B b20
      clear b20
      obtain ⟨s_VW, f_VW, z_VW⟩ := VW.open
      obtain ⟨s_VG, f_VG, z_VG⟩ := VG.open
      obtain ⟨s_VH, f_VH, z_VH⟩ := VH.open
      have Bo := B
      go_wp2_with fail
      refine (heldTermResult_ok kc kk cg kl dg 1 _ og.rd (by omega) (by omega)).mono ?_
      rintro e w21 ⟨rfl, b21⟩
      clear s_VW f_VW z_VW s_VG f_VG z_VG s_VH f_VH z_VH
      have S21 := b21.size
      replace VW := VW.kept b21
      replace VG := VG.kept b21
      replace VH := VH.kept b21
      replace hRa := hRa.kept b21
      replace hRb := hRb.kept b21
      replace ow := ow.kept b21
      replace qa := qa.kept b21
      replace qb := qb.kept b21
      replace og := og.kept b21
      replace oh := oh.kept b21
      replace B := thenB B b21
      clear b21
      obtain ⟨s_VW, f_VW, z_VW⟩ := VW.open
      obtain ⟨s_VG, f_VG, z_VG⟩ := VG.open
      obtain ⟨s_VH, f_VH, z_VH⟩ := VH.open
      have Bo := B
      go_wp2
      go_ret
      exact ⟨rfl, Bo⟩
    · have hlt : 1048576 < (na : Int) := by omega
      have hL3b : decide ((1048576 : Int) < (nb : Int)) = false := by simp; omega
      unfold maxLen at hxb
      go_enter Try.func11, Try.ntmps11
      go_wp2_with fail
      refine (szTermS_out aa na ca 1048576 _ hlt (by omega) (by omega) hxa).mono ?_
      rintro e wq ⟨rfl, rfl⟩
      go_wp2
      go_ret
      exact ⟨rfl, Below.refl _ _⟩
  · have hlt : decide ((1048576 : Int) < (nb : Int)) = true := by simp; omega
    unfold maxLen at hxb
    go_enter Try.func11, Try.ntmps11
    go_wp2
    go_ret
    exact ⟨rfl, Below.refl _ _⟩

end Go.Proofs.Ythkmoabkeblbjaa
