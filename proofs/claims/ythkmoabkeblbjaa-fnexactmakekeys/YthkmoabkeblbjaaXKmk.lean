/- The law on 'MakeKeys': its walk. -/
import Derived.Test.YthkmoabkeblbjaaKzJ
import Derived.Test.YthkmoabkeblbjaaKzR
namespace Go.Proofs.Ythkmoabkeblbjaa
open Go.RowKit

theorem kyW_len {m : Mk} (h : m.l.length ≤ 400) (k a b c : Int) : (kyW m k a b c).1.l.length ≤ 400 := mk2_len (mkW_len h _) _ _ _

theorem mkR_len (xs : List T4) (a b c d e f : Int) : (mkR xs a b c d e f).l.length ≤ 400 := by
  rcases mk_ways6 xs a b c d e f with ⟨_, h⟩ | ⟨_, _, h⟩ | ⟨_, _, _, h⟩ | ⟨_, _, _, _, h⟩ | ⟨_, _, _, _, _, h⟩ | ⟨_, _, _, _, _, _, h⟩ | ⟨h1, _, _, _, _, _, h⟩
  · rw [h]; exact Nat.zero_le _
  · rw [h]; exact Nat.zero_le _
  · rw [h]; exact Nat.zero_le _
  · rw [h]; exact Nat.zero_le _
  · rw [h]; exact Nat.zero_le _
  · rw [h]; exact Nat.zero_le _
  · rw [h]
    have h0 := (tfC_zero (aq_table h1)).1
    exact kyW_len (kyW_len (kyW_len (mk2_len (mk2_len (mk2_len (m := ⟨xs, 0⟩) h0 _ _ _) _ _ _) _ _ _) _ _ _ _) _ _ _ _) _ _ _ _

set_option maxRecDepth 20000 in
set_option maxHeartbeats 8000000 in
theorem xKmk_walk (aa : Option Addr) (na ca : Nat) (xsa : List T4) (pa : Int) (pb : Int) (pc : Int) (pd : Int) (pe : Int) (pf : Int) (w : World) (hRa : RdTerm w aa xsa) (hna : xsa.length = na) (hxa : na ≤ maxLen) (hok : ∀ t ∈ xsa, okT t) :
    Calls Try.prog 6 #[.slice aa na ca, .int .i64 pa, .int .i64 pb, .int .i64 pc, .int .i64 pd, .int .i64 pe, .int .i64 pf] w fun e w' => e = .returned (.bool true) ∧ Below w.heap.size w w' := by
  by_cases hba : (na : Int) ≤ 1048576
  · skip
    have h0a : (0 : Int) ≤ (1048576 - (na : Int)) := by omega
    have CTa := Hid.mk (fun w h => toTermS_ok aa na ca xsa w h hna (by omega))
    have CEa := Hid.mk (fun c c' d d' w h h' => eqTermS_ok c c' na d d' xsa w h h' hna hxa)
    have CS := Hid.mk (fun c w h hcn => specMakeKeys_ok c na na xsa pa pb pc pd pe pf w h hna (by omega) (Nat.le_refl _) hcn)
    have CI := Hid.mk (fun c d w h => implMakeKeys_ok c na d xsa pa pb pc pd pe pf w h hna (by omega) hok)
    have hm4 := mkR_len xsa pa pb pc pd pe pf
    generalize mkR xsa pa pb pc pd pe pf = P at *
    obtain ⟨kc, ⟨ks, kd, ko, kb⟩, ls⟩ := P
    simp only at *
    obtain ⟨kl, hkl0⟩ : ∃ m, ls.length = m := ⟨_, rfl⟩
    rw [hkl0] at CS CI hm4
    have hkl : kl ≤ maxLen := by unfold maxLen; omega
    have HK := Hid.mk hkl0
    clear hkl0
    have CMa := Hid.mk (fun c d base w h => markTermS_ok c na d base xsa 1 w h hna (by omega) (by omega))
    have hmk : ¬ (1 + 4 * (na : Int)) < 0 := by omega
    have HBa := Hid.mk hba
    clear hba hna
    go_enter Try.func6, Try.ntmps6
    have B := Below.refl w.heap.size w
    have HWa := Hid.mk hRa
    go_wp2_with fail
    refine (szTermS_in aa na ca 1048576 _ HBa.out (by omega)).mono ?_
    rintro e w ⟨rfl, rfl⟩
    go_wp2_with fail
    refine (CTa.out _ hRa).mono ?_
    rintro e w1 ⟨rfl, pa, b1⟩
    have S1 := b1.size
    replace hRa := hRa.kept b1
    replace B := thenB B b1
    clear b1
    have Bo := B
    have L_pa : ∀ b : Addr, (some ⟨w.heap.size, 0, none⟩) = some b → w.heap.size ≤ b.block ∧ b.block < w1.heap.size := fun b hb => by have h := pa.lt b hb; (try simp only [World.size_alloc] at h); omega
    go_wp2_with fail
    refine (CS.out _ _ pa.rd (fun h => by cases h)).mono ?_
    rintro e w2 ⟨cw, dw, rfl, ow, b2⟩
    have S2 := b2.size
    replace hRa := hRa.kept b2
    replace pa := pa.kept b2
    replace B := thenB B b2
    clear b2
    have Bo := B
    have L_ow : ∀ b : Addr, cw = some b → w1.heap.size ≤ b.block ∧ b.block < w2.heap.size := fun b hb => by have h := ow.lt b hb; (try simp only [World.size_alloc] at h); omega
    clear L_pa
    clear pa
    replace hRa := hRa.kept (belowA w2 (.cells #[.int .i64 kc, .int .i64 ks, .int .i64 kd, .int .i64 ko, .int .i64 kb, .slice cw kl dw] 30))
    replace ow := ow.kept (belowA w2 (.cells #[.int .i64 kc, .int .i64 ks, .int .i64 kd, .int .i64 ko, .int .i64 kb, .slice cw kl dw] 30))
    replace B := thenB B (belowA w2 (.cells #[.int .i64 kc, .int .i64 ks, .int .i64 kd, .int .i64 ko, .int .i64 kb, .slice cw kl dw] 30))
    have VW := V.new w2 [.int .i64 kc, .int .i64 ks, .int .i64 kd, .int .i64 ko, .int .i64 kb, .slice cw kl dw] 30
    obtain ⟨s_VW, f_VW, z_VW⟩ := VW.open
    have Bo := B
    go_wp2_with fail
    refine (CTa.out _ hRa).mono ?_
    rintro e w3 ⟨rfl, qa, b3⟩
    clear s_VW f_VW z_VW
    have S3 := b3.size
    simp only [World.size_alloc] at S3
    replace VW := VW.kept b3
    replace hRa := hRa.kept b3
    replace ow := ow.kept b3
    replace B := thenB B b3
    clear b3
    obtain ⟨s_VW, f_VW, z_VW⟩ := VW.open
    have Bo := B
    simp only [World.size_alloc] at qa
    have L_qa : ∀ b : Addr, (some ⟨w2.heap.size + 1, 0, none⟩) = some b → w2.heap.size + 1 ≤ b.block ∧ b.block < w3.heap.size := fun b hb => by have h := qa.lt b hb; (try simp only [World.size_alloc] at h); omega
    go_wp2_with fail
    refine (CI.out _ _ _ qa.rd).mono ?_
    rintro e w4 ⟨cg, dg, rfl, og, b4⟩
    clear s_VW f_VW z_VW
    have S4 := b4.size
    replace VW := VW.kept b4
    replace hRa := hRa.kept b4
    replace ow := ow.kept b4
    replace qa := qa.kept b4
    replace B := thenB B b4
    clear b4
    obtain ⟨s_VW, f_VW, z_VW⟩ := VW.open
    have Bo := B
    have L_og : ∀ b : Addr, cg = some b → w3.heap.size ≤ b.block ∧ b.block < w4.heap.size := fun b hb => by have h := og.lt b hb; (try simp only [World.size_alloc] at h); omega
    replace VW := VW.kept (belowA w4 (.cells #[.int .i64 kc, .int .i64 ks, .int .i64 kd, .int .i64 ko, .int .i64 kb, .slice cg kl dg] 30))
    replace hRa := hRa.kept (belowA w4 (.cells #[.int .i64 kc, .int .i64 ks, .int .i64 kd, .int .i64 ko, .int .i64 kb, .slice cg kl dg] 30))
    replace ow := ow.kept (belowA w4 (.cells #[.int .i64 kc, .int .i64 ks, .int .i64 kd, .int .i64 ko, .int .i64 kb, .slice cg kl dg] 30))
    replace qa := qa.kept (belowA w4 (.cells #[.int .i64 kc, .int .i64 ks, .int .i64 kd, .int .i64 ko, .int .i64 kb, .slice cg kl dg] 30))
    replace og := og.kept (belowA w4 (.cells #[.int .i64 kc, .int .i64 ks, .int .i64 kd, .int .i64 ko, .int .i64 kb, .slice cg kl dg] 30))
    replace B := thenB B (belowA w4 (.cells #[.int .i64 kc, .int .i64 ks, .int .i64 kd, .int .i64 ko, .int .i64 kb, .slice cg kl dg] 30))
    have VG := V.new w4 [.int .i64 kc, .int .i64 ks, .int .i64 kd, .int .i64 ko, .int .i64 kb, .slice cg kl dg] 30
    clear s_VW f_VW z_VW
    obtain ⟨s_VW, f_VW, z_VW⟩ := VW.open
    obtain ⟨s_VG, f_VG, z_VG⟩ := VG.open
    have Bo := B
    go_wp2_with fail
    refine (eqKeysResult_ok kc ks kd ko kb cg cw kl dg dw ls _ og.rd ow.rd HK.out hkl).mono ?_
    rintro e w5 ⟨rfl, b5⟩
    clear s_VW f_VW z_VW s_VG f_VG z_VG
    have S5 := b5.size
    simp only [World.size_alloc] at S5
    replace VW := VW.kept b5
    replace VG := VG.kept b5
    replace hRa := hRa.kept b5
    replace ow := ow.kept b5
    replace qa := qa.kept b5
    replace og := og.kept b5
    replace B := thenB B b5
    clear b5
    obtain ⟨s_VW, f_VW, z_VW⟩ := VW.open
    obtain ⟨s_VG, f_VG, z_VG⟩ := VG.open
    have Bo := B
    go_wp2_with fail
    refine (CTa.out _ hRa).mono ?_
    rintro e w6 ⟨rfl, ra, b6⟩
    clear s_VW f_VW z_VW s_VG f_VG z_VG
    have S6 := b6.size
    replace VW := VW.kept b6
    replace VG := VG.kept b6
    replace hRa := hRa.kept b6
    replace ow := ow.kept b6
    replace qa := qa.kept b6
    replace og := og.kept b6
    replace B := thenB B b6
    clear b6
    obtain ⟨s_VW, f_VW, z_VW⟩ := VW.open
    obtain ⟨s_VG, f_VG, z_VG⟩ := VG.open
    have Bo := B
    have L_ra : ∀ b : Addr, (some ⟨w5.heap.size, 0, none⟩) = some b → w5.heap.size ≤ b.block ∧ b.block < w6.heap.size := fun b hb => by have h := ra.lt b hb; (try simp only [World.size_alloc] at h); omega
    go_wp2_with fail
    refine (CEa.out _ _ _ _ _ qa.rd ra.rd).mono ?_
    rintro e w7 ⟨rfl, b7⟩
    clear s_VW f_VW z_VW s_VG f_VG z_VG
    have S7 := b7.size
    replace VW := VW.kept b7
    replace VG := VG.kept b7
    replace hRa := hRa.kept b7
    replace ow := ow.kept b7
    replace qa := qa.kept b7
    replace og := og.kept b7
    replace ra := ra.kept b7
    replace B := thenB B b7
    clear b7
    obtain ⟨s_VW, f_VW, z_VW⟩ := VW.open
    obtain ⟨s_VG, f_VG, z_VG⟩ := VG.open
    have Bo := B
    clear L_ra
    clear ra
    go_wp2_with fail
    refine (CMa.out _ _ _ _ qa).mono ?_
    rintro e w8 ⟨rfl, oq, gm⟩
    clear s_VW f_VW z_VW s_VG f_VG z_VG
    replace VW := VW.grownR gm (row_ne fun b hb => by have h := L_qa b hb; omega)
    replace VG := VG.grownR gm (row_ne fun b hb => by have h := L_qa b hb; omega)
    replace ow := ow.grown gm (fun b hb => row_ne fun b' hb' => by have h1 := L_ow b hb; have h2 := L_qa b' hb'; omega)
    replace og := og.grown gm (fun b hb => row_ne fun b' hb' => by have h1 := L_og b hb; have h2 := L_qa b' hb'; omega)
    replace B := belowG B gm (by omega) (fun b hb => by have h := L_qa b hb; omega)
    replace hRa := HWa.out.kept B
    have S8 := gm.size
    clear gm qa
    have qa := oq
    clear oq
    obtain ⟨s_VW, f_VW, z_VW⟩ := VW.open
    obtain ⟨s_VG, f_VG, z_VG⟩ := VG.open
    have Bo := B
    go_wp2_with fail
    refine (eqKeysResult_ok kc ks kd ko kb cg cw kl dg dw ls _ og.rd ow.rd HK.out hkl).mono ?_
    rintro e w9 ⟨rfl, b9⟩
    clear s_VW f_VW z_VW s_VG f_VG z_VG
    have S9 := b9.size
    replace VW := VW.kept b9
    replace VG := VG.kept b9
    replace hRa := hRa.kept b9
    replace ow := ow.kept b9
    replace qa := qa.kept b9
    replace og := og.kept b9
    replace B := thenB B b9
    clear b9
    obtain ⟨s_VW, f_VW, z_VW⟩ := VW.open
    obtain ⟨s_VG, f_VG, z_VG⟩ := VG.open
    have Bo := B
    have hqm : ¬ (1 + 4 * (kl : Int)) < 0 := by omega
    go_wp2_with fail
    refine (markKeysResult_ok kc ks kd ko kb cg kl dg _ ls 1 _ og HK.out (by omega) (by omega)).mono ?_
    rintro e w10 ⟨rfl, oq, gm⟩
    clear s_VW f_VW z_VW s_VG f_VG z_VG
    replace VW := VW.grownR gm (row_ne fun b hb => by have h := L_og b hb; omega)
    replace VG := VG.grownR gm (row_ne fun b hb => by have h := L_og b hb; omega)
    replace ow := ow.grown gm (fun b hb => row_ne fun b' hb' => by have h1 := L_ow b hb; have h2 := L_og b' hb'; omega)
    replace qa := qa.grown gm (fun b hb => row_ne fun b' hb' => by have h1 := L_qa b hb; have h2 := L_og b' hb'; omega)
    replace B := belowG B gm (by omega) (fun b hb => by have h := L_og b hb; omega)
    replace hRa := HWa.out.kept B
    have S10 := gm.size
    clear gm og
    have og := oq
    clear oq
    obtain ⟨s_VW, f_VW, z_VW⟩ := VW.open
    obtain ⟨s_VG, f_VG, z_VG⟩ := VG.open
    have Bo := B
    go_wp2_with fail
    refine (heldKeysResult_ok kc ks kd ko kb cg kl dg 1 _ og.rd (by omega) (by omega)).mono ?_
    rintro e w11 ⟨rfl, b11⟩
    clear s_VW f_VW z_VW s_VG f_VG z_VG
    have S11 := b11.size
    replace VW := VW.kept b11
    replace VG := VG.kept b11
    replace hRa := hRa.kept b11
    replace ow := ow.kept b11
    replace qa := qa.kept b11
    replace og := og.kept b11
    replace B := thenB B b11
    clear b11
    obtain ⟨s_VW, f_VW, z_VW⟩ := VW.open
    obtain ⟨s_VG, f_VG, z_VG⟩ := VG.open
    have Bo := B
    go_wp2_with fail
    refine (CTa.out _ hRa).mono ?_
    rintro e w12 ⟨rfl, sa, b12⟩
    clear s_VW f_VW z_VW s_VG f_VG z_VG
    have S12 := b12.size
    replace VW := VW.kept b12
    replace VG := VG.kept b12
    replace hRa := hRa.kept b12
    replace ow := ow.kept b12
    replace qa := qa.kept b12
    replace og := og.kept b12
    replace B := thenB B b12
    clear b12
    obtain ⟨s_VW, f_VW, z_VW⟩ := VW.open
    obtain ⟨s_VG, f_VG, z_VG⟩ := VG.open
    have Bo := B
    have L_sa : ∀ b : Addr, (some ⟨w11.heap.size, 0, none⟩) = some b → w11.heap.size ≤ b.block ∧ b.block < w12.heap.size := fun b hb => by have h := sa.lt b hb; (try simp only [World.size_alloc] at h); omega
    go_wp2_with fail
    refine (CI.out _ _ _ sa.rd).mono ?_
    rintro e w13 ⟨ch, dh, rfl, oh, b13⟩
    clear s_VW f_VW z_VW s_VG f_VG z_VG
    have S13 := b13.size
    replace VW := VW.kept b13
    replace VG := VG.kept b13
    replace hRa := hRa.kept b13
    replace ow := ow.kept b13
    replace qa := qa.kept b13
    replace og := og.kept b13
    replace sa := sa.kept b13
    replace B := thenB B b13
    clear b13
    obtain ⟨s_VW, f_VW, z_VW⟩ := VW.open
    obtain ⟨s_VG, f_VG, z_VG⟩ := VG.open
    have Bo := B
    have L_oh : ∀ b : Addr, ch = some b → w12.heap.size ≤ b.block ∧ b.block < w13.heap.size := fun b hb => by have h := oh.lt b hb; (try simp only [World.size_alloc] at h); omega
    clear L_sa
    clear sa
    replace VW := VW.kept (belowA w13 (.cells #[.int .i64 kc, .int .i64 ks, .int .i64 kd, .int .i64 ko, .int .i64 kb, .slice ch kl dh] 30))
    replace VG := VG.kept (belowA w13 (.cells #[.int .i64 kc, .int .i64 ks, .int .i64 kd, .int .i64 ko, .int .i64 kb, .slice ch kl dh] 30))
    replace hRa := hRa.kept (belowA w13 (.cells #[.int .i64 kc, .int .i64 ks, .int .i64 kd, .int .i64 ko, .int .i64 kb, .slice ch kl dh] 30))
    replace ow := ow.kept (belowA w13 (.cells #[.int .i64 kc, .int .i64 ks, .int .i64 kd, .int .i64 ko, .int .i64 kb, .slice ch kl dh] 30))
    replace qa := qa.kept (belowA w13 (.cells #[.int .i64 kc, .int .i64 ks, .int .i64 kd, .int .i64 ko, .int .i64 kb, .slice ch kl dh] 30))
    replace og := og.kept (belowA w13 (.cells #[.int .i64 kc, .int .i64 ks, .int .i64 kd, .int .i64 ko, .int .i64 kb, .slice ch kl dh] 30))
    replace oh := oh.kept (belowA w13 (.cells #[.int .i64 kc, .int .i64 ks, .int .i64 kd, .int .i64 ko, .int .i64 kb, .slice ch kl dh] 30))
    replace B := thenB B (belowA w13 (.cells #[.int .i64 kc, .int .i64 ks, .int .i64 kd, .int .i64 ko, .int .i64 kb, .slice ch kl dh] 30))
    have VH := V.new w13 [.int .i64 kc, .int .i64 ks, .int .i64 kd, .int .i64 ko, .int .i64 kb, .slice ch kl dh] 30
    clear s_VW f_VW z_VW s_VG f_VG z_VG
    obtain ⟨s_VW, f_VW, z_VW⟩ := VW.open
    obtain ⟨s_VG, f_VG, z_VG⟩ := VG.open
    obtain ⟨s_VH, f_VH, z_VH⟩ := VH.open
    have Bo := B
    go_wp2_with fail
    refine (eqKeysResult_ok kc ks kd ko kb ch cw kl dh dw ls _ oh.rd ow.rd HK.out hkl).mono ?_
    rintro e w14 ⟨rfl, b14⟩
    clear s_VW f_VW z_VW s_VG f_VG z_VG s_VH f_VH z_VH
    have S14 := b14.size
    simp only [World.size_alloc] at S14
    replace VW := VW.kept b14
    replace VG := VG.kept b14
    replace VH := VH.kept b14
    replace hRa := hRa.kept b14
    replace ow := ow.kept b14
    replace qa := qa.kept b14
    replace og := og.kept b14
    replace oh := oh.kept b14
    replace B := thenB B b14
    clear b14
    obtain ⟨s_VW, f_VW, z_VW⟩ := VW.open
    obtain ⟨s_VG, f_VG, z_VG⟩ := VG.open
    obtain ⟨s_VH, f_VH, z_VH⟩ := VH.open
    have Bo := B
    go_wp2_with fail
    refine (heldKeysResult_ok kc ks kd ko kb cg kl dg 1 _ og.rd (by omega) (by omega)).mono ?_
    rintro e w15 ⟨rfl, b15⟩
    clear s_VW f_VW z_VW s_VG f_VG z_VG s_VH f_VH z_VH
    have S15 := b15.size
    replace VW := VW.kept b15
    replace VG := VG.kept b15
    replace VH := VH.kept b15
    replace hRa := hRa.kept b15
    replace ow := ow.kept b15
    replace qa := qa.kept b15
    replace og := og.kept b15
    replace oh := oh.kept b15
    replace B := thenB B b15
    clear b15
    obtain ⟨s_VW, f_VW, z_VW⟩ := VW.open
    obtain ⟨s_VG, f_VG, z_VG⟩ := VG.open
    obtain ⟨s_VH, f_VH, z_VH⟩ := VH.open
    have Bo := B
    go_wp2
    go_ret
    exact ⟨rfl, Bo⟩
  · have hlt : 1048576 < (na : Int) := by omega
    go_enter Try.func6, Try.ntmps6
    go_wp2_with fail
    refine (szTermS_out aa na ca 1048576 _ hlt (by omega) (by omega) hxa).mono ?_
    rintro e wq ⟨rfl, rfl⟩
    go_wp2
    go_ret
    exact ⟨rfl, Below.refl _ _⟩

end Go.Proofs.Ythkmoabkeblbjaa
