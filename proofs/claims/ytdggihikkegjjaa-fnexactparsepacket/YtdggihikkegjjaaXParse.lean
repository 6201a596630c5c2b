/- The law on 'ParsePacket': its walk (written by gen_xparse.py). -/
import Derived.Test.YtdggihikkegjjaaPrsS
import Derived.Test.YtdggihikkegjjaaPktH
import Derived.Deep.RegionHeld3
namespace Go.Proofs.Ytdggihikkegjjaa
open Go.RowKit

set_option maxHeartbeats 4000000 in
theorem xParse_walk (a : Option Addr) (n ca : Nat) (zs : List Int) (w : World) (hR : Rd .u8 w a zs) (hb : Bytes zs) (hn : zs.length = n) (hnx : n ≤ maxLen) :
    Calls Try.prog 5 #[.slice a n ca] w fun e w' => e = .returned (.bool true) ∧ Below w.heap.size w w' := by
  by_cases hbig : (n : Int) ≤ 1048576
  · obtain ⟨k, F, T, R, L, X, Y, ys, hI⟩ := psIs_ex zs
    obtain ⟨m, hm⟩ : ∃ m, ys.length = m := ⟨_, rfl⟩
    have hle : ys.length ≤ n := by rw [← hI.2.2.2.2.2.2.2]; refine Nat.le_trans (zl_len _ _) ?_; rw [List.length_drop, hn]; omega
    have CS := Hid.mk (fun c d w h h' => specParsePacket_ok c n d zs k F T R L X Y ys m hI hm w h hb hn (by omega) h')
    have CI := Hid.mk (fun c d w h h' => implParsePacket_ok c n d zs k F T R L X Y ys m hI hm w h hb hn (by omega) h')
    rw [hm] at hle
    have HM := Hid.mk hm
    have HX : Hid (m ≤ maxLen) := by unfold Hid maxLen; omega
    have hmx : m ≤ 1048576 := by omega
    clear hm hle hI
    go_enter Try.func5, Try.ntmps5
    have B := Below.refl w.heap.size w
    go_wp2_with fail
    refine (toByteS_ok a n ca zs _ (hR.kept B) hn (by omega)).mono ?_
    rintro e w1 ⟨cs0, dcs0, rfl, ocs0, b1⟩
    have S1 : w.heap.size ≤ w1.heap.size := by have h := b1.size; (try simp at h); omega
    have B := thenB B (b1)
    have L_ocs0 : ∀ b, cs0 = some b → w.heap.size ≤ b.block ∧ b.block < w1.heap.size := fun b hb => by have h := ocs0.lt b hb; (try simp at h); omega
    clear b1
    go_wp2_with fail
    refine (CS.out cs0 dcs0 _ ocs0.rd (by have h := ocs0.cap; rw [hn] at h; exact h)).mono ?_
    rintro e w2 ⟨cw, dw, rfl, ow, b2⟩
    have S2 : w1.heap.size ≤ w2.heap.size := by have h := b2.size; (try simp at h); omega
    have ocs0 := ocs0.kept b2
    have B := thenB B (b2)
    have L_ow : ∀ b, cw = some b → w1.heap.size ≤ b.block ∧ b.block < w2.heap.size := fun b hb => by have h := ow.lt b hb; (try simp at h); omega
    clear b2
    clear ocs0 L_ocs0
    have ow := ow.kept (belowA w2 (.cells #[.int .i64 k, .int .i64 F, .int .i64 T, .int .i64 R, .int .i64 L, .int .i64 X, .int .i64 Y, .slice cw m dw] 28))
    have B := thenB B ((belowA w2 (.cells #[.int .i64 k, .int .i64 F, .int .i64 T, .int .i64 R, .int .i64 L, .int .i64 X, .int .i64 Y, .slice cw m dw] 28)))
    have AW := At.newR w2 (.int .i64 k) (.int .i64 F) (.int .i64 T) (.int .i64 R) (.int .i64 L) (.int .i64 X) (.int .i64 Y) (.slice cw m dw) 28
    go_wp2_with fail
    refine (toByteS_ok a n ca zs _ (hR.kept B) hn (by omega)).mono ?_
    rintro e w3 ⟨x0, dx0, rfl, ox0, b3⟩
    have S3 : w2.heap.size + 1 ≤ w3.heap.size := by have h := b3.size; (try simp at h); omega
    have AW := AW.kept b3
    have ow := ow.kept b3
    have B := thenB B (b3)
    have L_ox0 : ∀ b, x0 = some b → w2.heap.size + 1 ≤ b.block ∧ b.block < w3.heap.size := fun b hb => by have h := ox0.lt b hb; (try simp at h); omega
    clear b3
    go_wp2_with fail
    refine (CI.out x0 dx0 _ ox0.rd (by have h := ox0.cap; rw [hn] at h; exact h)).mono ?_
    rintro e w4 ⟨cg, dg, rfl, og, b4⟩
    have S4 : w3.heap.size ≤ w4.heap.size := by have h := b4.size; (try simp at h); omega
    have AW := AW.kept b4
    have ow := ow.kept b4
    have ox0 := ox0.kept b4
    have B := thenB B (b4)
    have L_og : ∀ b, cg = some b → w3.heap.size ≤ b.block ∧ b.block < w4.heap.size := fun b hb => by have h := og.lt b hb; (try simp at h); omega
    clear b4
    have AW := AW.kept (belowA w4 (.cells #[.int .i64 k, .int .i64 F, .int .i64 T, .int .i64 R, .int .i64 L, .int .i64 X, .int .i64 Y, .slice cg m dg] 28))
    have ow := ow.kept (belowA w4 (.cells #[.int .i64 k, .int .i64 F, .int .i64 T, .int .i64 R, .int .i64 L, .int .i64 X, .int .i64 Y, .slice cg m dg] 28))
    have ox0 := ox0.kept (belowA w4 (.cells #[.int .i64 k, .int .i64 F, .int .i64 T, .int .i64 R, .int .i64 L, .int .i64 X, .int .i64 Y, .slice cg m dg] 28))
    have og := og.kept (belowA w4 (.cells #[.int .i64 k, .int .i64 F, .int .i64 T, .int .i64 R, .int .i64 L, .int .i64 X, .int .i64 Y, .slice cg m dg] 28))
    have B := thenB B ((belowA w4 (.cells #[.int .i64 k, .int .i64 F, .int .i64 T, .int .i64 R, .int .i64 L, .int .i64 X, .int .i64 Y, .slice cg m dg] 28)))
    have AG := At.newR w4 (.int .i64 k) (.int .i64 F) (.int .i64 T) (.int .i64 R) (.int .i64 L) (.int .i64 X) (.int .i64 Y) (.slice cg m dg) 28
    obtain ⟨fAG_0, fAG_1, fAG_2, fAG_3, fAG_4, fAG_5, fAG_6, fAG_7, fAG_8⟩ := AG.eight
    obtain ⟨fAW_0, fAW_1, fAW_2, fAW_3, fAW_4, fAW_5, fAW_6, fAW_7, fAW_8⟩ := AW.eight
    go_wp2_with fail
    refine (eqPacketResult_ok k F T R L X Y cg cw m dg dw ys _ og.rd ow.rd HM.out HX.out).mono ?_
    rintro e w5 ⟨rfl, b5⟩
    clear fAG_0 fAG_1 fAG_2 fAG_3 fAG_4 fAG_5 fAG_6 fAG_7 fAG_8 fAW_0 fAW_1 fAW_2 fAW_3 fAW_4 fAW_5 fAW_6 fAW_7 fAW_8
    have S5 : w4.heap.size + 1 ≤ w5.heap.size := by have h := b5.size; (try simp at h); omega
    have AW := AW.kept b5
    have AG := AG.kept b5
    have ow := ow.kept b5
    have ox0 := ox0.kept b5
    have og := og.kept b5
    have B := thenB B (b5)
    clear b5
    go_wp2_with fail
    refine (toByteS_ok a n ca zs _ (hR.kept B) hn (by omega)).mono ?_
    rintro e w6 ⟨y0, dy0, rfl, oy0, b6⟩
    have S6 : w5.heap.size ≤ w6.heap.size := by have h := b6.size; (try simp at h); omega
    have AW := AW.kept b6
    have AG := AG.kept b6
    have ow := ow.kept b6
    have ox0 := ox0.kept b6
    have og := og.kept b6
    have B := thenB B (b6)
    have L_oy0 : ∀ b, y0 = some b → w5.heap.size ≤ b.block ∧ b.block < w6.heap.size := fun b hb => by have h := oy0.lt b hb; (try simp at h); omega
    clear b6
    go_wp2_with fail
    refine (eqByteS_ok x0 y0 n n dx0 dy0 zs zs _ ox0.rd oy0.rd hn hn (by assumption) (by assumption)).mono ?_
    rintro e w7 ⟨rfl, b7⟩
    have S7 : w6.heap.size ≤ w7.heap.size := by have h := b7.size; (try simp at h); omega
    have AW := AW.kept b7
    have AG := AG.kept b7
    have ow := ow.kept b7
    have ox0 := ox0.kept b7
    have og := og.kept b7
    have oy0 := oy0.kept b7
    have B := thenB B (b7)
    clear b7
    clear oy0 L_oy0
    go_wp2_with fail
    refine (markByteS_ok x0 n dx0 _ zs 1 _ ox0 hn (by omega) (by omega)).mono ?_
    rintro e w8 ⟨rfl, ox0, gm⟩
    have AW := AW.grown gm (row_ne fun b hb => by have h := L_ox0 b hb; omega)
    have AG := AG.grown gm (row_ne fun b hb => by have h := L_ox0 b hb; omega)
    have ow := ow.grown gm (fun b hb => row_ne fun b' hb' => by have h1 := L_ow b hb; have h2 := L_ox0 b' hb'; omega)
    have og := og.grown gm (fun b hb => row_ne fun b' hb' => by have h1 := L_og b hb; have h2 := L_ox0 b' hb'; omega)
    have B := belowG B gm (by omega) (fun b hb => by have h := L_ox0 b hb; omega)
    have S8 : w7.heap.size ≤ w8.heap.size := gm.size
    clear gm
    have hq0 : 0 ≤ (1 + (n : Int)) := by omega
    obtain ⟨fAG_0, fAG_1, fAG_2, fAG_3, fAG_4, fAG_5, fAG_6, fAG_7, fAG_8⟩ := AG.eight
    obtain ⟨fAW_0, fAW_1, fAW_2, fAW_3, fAW_4, fAW_5, fAW_6, fAW_7, fAW_8⟩ := AW.eight
    go_wp2_with fail
    refine (eqPacketResult_ok k F T R L X Y cg cw m dg dw ys _ og.rd ow.rd HM.out HX.out).mono ?_
    rintro e w9 ⟨rfl, b9⟩
    clear fAG_0 fAG_1 fAG_2 fAG_3 fAG_4 fAG_5 fAG_6 fAG_7 fAG_8 fAW_0 fAW_1 fAW_2 fAW_3 fAW_4 fAW_5 fAW_6 fAW_7 fAW_8
    have S9 : w8.heap.size ≤ w9.heap.size := by have h := b9.size; (try simp at h); omega
    have AW := AW.kept b9
    have AG := AG.kept b9
    have ow := ow.kept b9
    have ox0 := ox0.kept b9
    have og := og.kept b9
    have B := thenB B (b9)
    clear b9
    obtain ⟨fAG_0, fAG_1, fAG_2, fAG_3, fAG_4, fAG_5, fAG_6, fAG_7, fAG_8⟩ := AG.eight
    go_wp2_with fail
    refine (markPacketResult_ok k F T R L X Y cg m dg _ ys 1 _ og HM.out (by omega) (by have := HX.out; unfold maxLen at this; omega)).mono ?_
    rintro e w10 ⟨rfl, og, gm⟩
    clear fAG_0 fAG_1 fAG_2 fAG_3 fAG_4 fAG_5 fAG_6 fAG_7 fAG_8
    have AW := AW.grown gm (row_ne fun b hb => by have h := L_og b hb; omega)
    have AG := AG.grown gm (row_ne fun b hb => by have h := L_og b hb; omega)
    have ow := ow.grown gm (fun b hb => row_ne fun b' hb' => by have h1 := L_ow b hb; have h2 := L_og b' hb'; omega)
    have ox0 := ox0.grown gm (fun b hb => row_ne fun b' hb' => by have h1 := L_ox0 b hb; have h2 := L_og b' hb'; omega)
    have B := belowG B gm (by omega) (fun b hb => by have h := L_og b hb; omega)
    have S10 : w9.heap.size ≤ w10.heap.size := gm.size
    clear gm
    obtain ⟨fAG_0, fAG_1, fAG_2, fAG_3, fAG_4, fAG_5, fAG_6, fAG_7, fAG_8⟩ := AG.eight
    go_wp2_with fail
    refine (heldPacketResult_ok k F T R L X Y cg m dg 1 _ og.rd (by omega) (by have := HX.out; unfold maxLen at this; omega)).mono ?_
    rintro e w11 ⟨rfl, b11⟩
    clear fAG_0 fAG_1 fAG_2 fAG_3 fAG_4 fAG_5 fAG_6 fAG_7 fAG_8
    have S11 : w10.heap.size ≤ w11.heap.size := by have h := b11.size; (try simp at h); omega
    have AW := AW.kept b11
    have AG := AG.kept b11
    have ow := ow.kept b11
    have ox0 := ox0.kept b11
    have og := og.kept b11
    have B := thenB B (b11)
    clear b11
    have hqm : 0 ≤ 1 + (m : Int) := by omega
    go_wp2_with fail
    refine (toByteS_ok a n ca zs _ (hR.kept B) hn (by omega)).mono ?_
    rintro e w12 ⟨z_0, dz_0, rfl, oz_0, b12⟩
    have S12 : w11.heap.size ≤ w12.heap.size := by have h := b12.size; (try simp at h); omega
    have AW := AW.kept b12
    have AG := AG.kept b12
    have ow := ow.kept b12
    have ox0 := ox0.kept b12
    have og := og.kept b12
    have B := thenB B (b12)
    have L_oz_0 : ∀ b, z_0 = some b → w11.heap.size ≤ b.block ∧ b.block < w12.heap.size := fun b hb => by have h := oz_0.lt b hb; (try simp at h); omega
    clear b12
    go_wp2_with fail
    refine (CI.out z_0 dz_0 _ oz_0.rd (by have h := oz_0.cap; rw [hn] at h; exact h)).mono ?_
    rintro e w13 ⟨ch, dh, rfl, oh, b13⟩
    have S13 : w12.heap.size ≤ w13.heap.size := by have h := b13.size; (try simp at h); omega
    have AW := AW.kept b13
    have AG := AG.kept b13
    have ow := ow.kept b13
    have ox0 := ox0.kept b13
    have og := og.kept b13
    have oz_0 := oz_0.kept b13
    have B := thenB B (b13)
    have L_oh : ∀ b, ch = some b → w12.heap.size ≤ b.block ∧ b.block < w13.heap.size := fun b hb => by have h := oh.lt b hb; (try simp at h); omega
    clear b13
    have AW := AW.kept (belowA w13 (.cells #[.int .i64 k, .int .i64 F, .int .i64 T, .int .i64 R, .int .i64 L, .int .i64 X, .int .i64 Y, .slice ch m dh] 28))
    have AG := AG.kept (belowA w13 (.cells #[.int .i64 k, .int .i64 F, .int .i64 T, .int .i64 R, .int .i64 L, .int .i64 X, .int .i64 Y, .slice ch m dh] 28))
    have ow := ow.kept (belowA w13 (.cells #[.int .i64 k, .int .i64 F, .int .i64 T, .int .i64 R, .int .i64 L, .int .i64 X, .int .i64 Y, .slice ch m dh] 28))
    have ox0 := ox0.kept (belowA w13 (.cells #[.int .i64 k, .int .i64 F, .int .i64 T, .int .i64 R, .int .i64 L, .int .i64 X, .int .i64 Y, .slice ch m dh] 28))
    have og := og.kept (belowA w13 (.cells #[.int .i64 k, .int .i64 F, .int .i64 T, .int .i64 R, .int .i64 L, .int .i64 X, .int .i64 Y, .slice ch m dh] 28))
    have oz_0 := oz_0.kept (belowA w13 (.cells #[.int .i64 k, .int .i64 F, .int .i64 T, .int .i64 R, .int .i64 L, .int .i64 X, .int .i64 Y, .slice ch m dh] 28))
    have oh := oh.kept (belowA w13 (.cells #[.int .i64 k, .int .i64 F, .int .i64 T, .int .i64 R, .int .i64 L, .int .i64 X, .int .i64 Y, .slice ch m dh] 28))
    have B := thenB B ((belowA w13 (.cells #[.int .i64 k, .int .i64 F, .int .i64 T, .int .i64 R, .int .i64 L, .int .i64 X, .int .i64 Y, .slice ch m dh] 28)))
    have AH := At.newR w13 (.int .i64 k) (.int .i64 F) (.int .i64 T) (.int .i64 R) (.int .i64 L) (.int .i64 X) (.int .i64 Y) (.slice ch m dh) 28
    obtain ⟨fAH_0, fAH_1, fAH_2, fAH_3, fAH_4, fAH_5, fAH_6, fAH_7, fAH_8⟩ := AH.eight
    obtain ⟨fAW_0, fAW_1, fAW_2, fAW_3, fAW_4, fAW_5, fAW_6, fAW_7, fAW_8⟩ := AW.eight
    go_wp2_with fail
    refine (eqPacketResult_ok k F T R L X Y ch cw m dh dw ys _ oh.rd ow.rd HM.out HX.out).mono ?_
    rintro e w14 ⟨rfl, b14⟩
    clear fAH_0 fAH_1 fAH_2 fAH_3 fAH_4 fAH_5 fAH_6 fAH_7 fAH_8 fAW_0 fAW_1 fAW_2 fAW_3 fAW_4 fAW_5 fAW_6 fAW_7 fAW_8
    have S14 : w13.heap.size + 1 ≤ w14.heap.size := by have h := b14.size; (try simp at h); omega
    have AW := AW.kept b14
    have AG := AG.kept b14
    have AH := AH.kept b14
    have ow := ow.kept b14
    have ox0 := ox0.kept b14
    have og := og.kept b14
    have oz_0 := oz_0.kept b14
    have oh := oh.kept b14
    have B := thenB B (b14)
    clear b14
    obtain ⟨fAG_0, fAG_1, fAG_2, fAG_3, fAG_4, fAG_5, fAG_6, fAG_7, fAG_8⟩ := AG.eight
    go_wp2_with fail
    refine (heldPacketResult_ok k F T R L X Y cg m dg 1 _ og.rd (by omega) (by have := HX.out; unfold maxLen at this; omega)).mono ?_
    rintro e w15 ⟨rfl, b15⟩
    clear fAG_0 fAG_1 fAG_2 fAG_3 fAG_4 fAG_5 fAG_6 fAG_7 fAG_8
    have S15 : w14.heap.size ≤ w15.heap.size := by have h := b15.size; (try simp at h); omega
    have AW := AW.kept b15
    have AG := AG.kept b15
    have AH := AH.kept b15
    have ow := ow.kept b15
    have ox0 := ox0.kept b15
    have og := og.kept b15
    have oz_0 := oz_0.kept b15
    have oh := oh.kept b15
    have B := thenB B (b15)
    clear b15
    go_wp2
    go_ret
    exact ⟨rfl, B⟩
  · go_enter Try.func5, Try.ntmps5
    go_wp2
    go_ret
    exact ⟨rfl, Below.refl _ _⟩

end Go.Proofs.Ytdggihikkegjjaa
