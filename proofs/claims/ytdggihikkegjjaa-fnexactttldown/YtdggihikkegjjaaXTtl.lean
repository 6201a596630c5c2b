/- The law on 'TtlDown': its walk (written by gen_xttl.py). -/
import Derived.Test.YtdggihikkegjjaaTtl
import Derived.Test.YtdggihikkegjjaaPktH
import Derived.Deep.RegionHeld3
namespace Go.Proofs.Ytdggihikkegjjaa
open Go.RowKit
set_option maxRecDepth 40000

set_option maxHeartbeats 4000000 in
theorem xTtl_walk (a : Option Addr) (n ca : Nat) (zs : List Int) (w : World) (hR : Rd .u8 w a zs) (hb : Bytes zs) (hn : zs.length = n) (hnx : n ≤ maxLen) :
    Calls Try.prog 6 #[.slice a n ca] w fun e w' => e = .returned (.bool true) ∧ Below w.heap.size w w' := by
  by_cases hbig : (n : Int) ≤ 1048576
  · obtain ⟨k0, F, T, R, L, X, Y, zs', hI⟩ := psIs_ex zs
    have hle : zs'.length ≤ n := by rw [← hI.2.2.2.2.2.2.2]; refine Nat.le_trans (zl_len _ _) ?_; rw [List.length_drop, hn]; omega
    have CS := Hid.mk (fun c d w h h' => specTtlDown_ok c n d zs k0 F T R L X Y zs' _ hI rfl w h hb hn (by omega) h')
    have CI := Hid.mk (fun c d w h h' => implTtlDown_ok c n d zs k0 F T R L X Y zs' _ hI rfl w h hb hn (by omega) h')
    have hle2 := zl_len (tdC k0 L) (buildP F T R (L - 1) X Y zs')
    rw [length_buildP] at hle2
    have hpl := portP_len R X Y
    generalize zl (tdC k0 L) (buildP F T R (L - 1) X Y zs') = ys at *
    generalize tdC k0 L = k at *
    obtain ⟨m, hm⟩ : ∃ m, ys.length = m := ⟨_, rfl⟩
    rw [hm] at CS CI
    have HM := Hid.mk hm
    have hmx : m ≤ 2097152 := by omega
    have HX : Hid (m ≤ maxLen) := by unfold Hid maxLen; omega
    clear hm hle hle2 hpl hI
    go_enter Try.func6, Try.ntmps6
    have B := Below.refl w.heap.size w
    go_wp2_with fail
    refine (toByteS_ok a n ca zs _ (hR.kept B) hn (by omega)).mono ?_
    rintro e w1 ⟨cs0, dcs0, rfl, ocs0, b1⟩
    have S1 : w.heap.size ≤ w1.heap.size := by have h := b1.size; (try simp at h); omega
    have B := thenB B (b1)
    have L_ocs0 : ∀ b, cs0 = some b → w.heap.size ≤ b.block ∧ b.block < w1.heap.size := fun b hb => by have h := ocs0.lt b hb; (try simp at h); omega
    clear b1
    go_wp2_with fail
    refine (CS.out cs0 dcs0 _ ocs0.rd (by have h := ocs0.cap; rw [hn] at h; exact h)).mono ?_
    rintro e w2 ⟨cw, dw, rfl, ow, b2⟩
    have S2 : w1.heap.size ≤ w2.heap.size := by have h := b2.size; (try simp at h); omega
    have ocs0 := ocs0.kept b2
    have B := thenB B (b2)
    have L_ow : ∀ b, cw = some b → w1.heap.size ≤ b.block ∧ b.block < w2.heap.size := fun b hb => by have h := ow.lt b hb; (try simp at h); omega
    clear b2
    clear ocs0 L_ocs0
    have ow := ow.kept (belowA w2 (.cells #[.int .i64 k, .slice cw m dw] 31))
    have B := thenB B ((belowA w2 (.cells #[.int .i64 k, .slice cw m dw] 31)))
    have AW := At.new2 w2 (.int .i64 k) (.slice cw m dw) 31
    go_wp2_with fail
    refine (toByteS_ok a n ca zs _ (hR.kept B) hn (by omega)).mono ?_
    rintro e w3 ⟨x0, dx0, rfl, ox0, b3⟩
    have S3 : w2.heap.size + 1 ≤ w3.heap.size := by have h := b3.size; (try simp at h); omega
    have AW := AW.kept b3
    have ow := ow.kept b3
    have B := thenB B (b3)
    have L_ox0 : ∀ b, x0 = some b → w2.heap.size + 1 ≤ b.block ∧ b.block < w3.heap.size := fun b hb => by have h := ox0.lt b hb; (try simp at h); omega
    clear b3
    go_wp2_with fail
    refine (CI.out x0 dx0 _ ox0.rd (by have h := ox0.cap; rw [hn] at h; exact h)).mono ?_
    rintro e w4 ⟨cg, dg, rfl, og, b4⟩
    have S4 : w3.heap.size ≤ w4.heap.size := by have h := b4.size; (try simp at h); omega
    have AW := AW.kept b4
    have ow := ow.kept b4
    have ox0 := ox0.kept b4
    have B := thenB B (b4)
    have L_og : ∀ b, cg = some b → w3.heap.size ≤ b.block ∧ b.block < w4.heap.size := fun b hb => by have h := og.lt b hb; (try simp at h); omega
    clear b4
    have AW := AW.kept (belowA w4 (.cells #[.int .i64 k, .slice cg m dg] 31))
    have ow := ow.kept (belowA w4 (.cells #[.int .i64 k, .slice cg m dg] 31))
    have ox0 := ox0.kept (belowA w4 (.cells #[.int .i64 k, .slice cg m dg] 31))
    have og := og.kept (belowA w4 (.cells #[.int .i64 k, .slice cg m dg] 31))
    have B := thenB B ((belowA w4 (.cells #[.int .i64 k, .slice cg m dg] 31)))
    have AG := At.new2 w4 (.int .i64 k) (.slice cg m dg) 31
    obtain ⟨fAG_0, fAG_1, fAG_2⟩ := AG.two
    obtain ⟨fAW_0, fAW_1, fAW_2⟩ := AW.two
    go_wp2_with fail
    refine (eqBytesResult_ok k cg cw m dg dw ys _ og.rd ow.rd HM.out HX.out).mono ?_
    rintro e w5 ⟨rfl, b5⟩
    clear fAG_0 fAG_1 fAG_2 fAW_0 fAW_1 fAW_2
    have S5 : w4.heap.size + 1 ≤ w5.heap.size := by have h := b5.size; (try simp at h); omega
    have AW := AW.kept b5
    have AG := AG.kept b5
    have ow := ow.kept b5
    have ox0 := ox0.kept b5
    have og := og.kept b5
    have B := thenB B (b5)
    clear b5
    go_wp2_with fail
    refine (toByteS_ok a n ca zs _ (hR.kept B) hn (by omega)).mono ?_
    rintro e w6 ⟨y0, dy0, rfl, oy0, b6⟩
    have S6 : w5.heap.size ≤ w6.heap.size := by have h := b6.size; (try simp at h); omega
    have AW := AW.kept b6
    have AG := AG.kept b6
    have ow := ow.kept b6
    have ox0 := ox0.kept b6
    have og := og.kept b6
    have B := thenB B (b6)
    have L_oy0 : ∀ b, y0 = some b → w5.heap.size ≤ b.block ∧ b.block < w6.heap.size := fun b hb => by have h := oy0.lt b hb; (try simp at h); omega
    clear b6
    go_wp2_with fail
    refine (eqByteS_ok x0 y0 n n dx0 dy0 zs zs _ ox0.rd oy0.rd hn hn (by assumption) (by assumption)).mono ?_
    rintro e w7 ⟨rfl, b7⟩
    have S7 : w6.heap.size ≤ w7.heap.size := by have h := b7.size; (try simp at h); omega
    have AW := AW.kept b7
    have AG := AG.kept b7
    have ow := ow.kept b7
    have ox0 := ox0.kept b7
    have og := og.kept b7
    have oy0 := oy0.kept b7
    have B := thenB B (b7)
    clear b7
    clear oy0 L_oy0
    go_wp2_with fail
    refine (markByteS_ok x0 n dx0 _ zs 1 _ ox0 hn (by omega) (by omega)).mono ?_
    rintro e w8 ⟨rfl, ox0, gm⟩
    have AW := AW.grown gm (row_ne fun b hb => by have h := L_ox0 b hb; omega)
    have AG := AG.grown gm (row_ne fun b hb => by have h := L_ox0 b hb; omega)
    have ow := ow.grown gm (fun b hb => row_ne fun b' hb' => by have h1 := L_ow b hb; have h2 := L_ox0 b' hb'; omega)
    have og := og.grown gm (fun b hb => row_ne fun b' hb' => by have h1 := L_og b hb; have h2 := L_ox0 b' hb'; omega)
    have B := belowG B gm (by omega) (fun b hb => by have h := L_ox0 b hb; omega)
    have S8 : w7.heap.size ≤ w8.heap.size := gm.size
    clear gm
    have hq0 : 0 ≤ (1 + (n : Int)) := by omega
    obtain ⟨fAG_0, fAG_1, fAG_2⟩ := AG.two
    obtain ⟨fAW_0, fAW_1, fAW_2⟩ := AW.two
    go_wp2_with fail
    refine (eqBytesResult_ok k cg cw m dg dw ys _ og.rd ow.rd HM.out HX.out).mono ?_
    rintro e w9 ⟨rfl, b9⟩
    clear fAG_0 fAG_1 fAG_2 fAW_0 fAW_1 fAW_2
    have S9 : w8.heap.size ≤ w9.heap.size := by have h := b9.size; (try simp at h); omega
    have AW := AW.kept b9
    have AG := AG.kept b9
    have ow := ow.kept b9
    have ox0 := ox0.kept b9
    have og := og.kept b9
    have B := thenB B (b9)
    clear b9
    obtain ⟨fAG_0, fAG_1, fAG_2⟩ := AG.two
    go_wp2_with fail
    refine (markBytesResult_ok k cg m dg _ ys 1 _ og HM.out (by omega) (by have := HX.out; unfold maxLen at this; omega)).mono ?_
    rintro e w10 ⟨rfl, og, gm⟩
    clear fAG_0 fAG_1 fAG_2
    have AW := AW.grown gm (row_ne fun b hb => by have h := L_og b hb; omega)
    have AG := AG.grown gm (row_ne fun b hb => by have h := L_og b hb; omega)
    have ow := ow.grown gm (fun b hb => row_ne fun b' hb' => by have h1 := L_ow b hb; have h2 := L_og b' hb'; omega)
    have ox0 := ox0.grown gm (fun b hb => row_ne fun b' hb' => by have h1 := L_ox0 b hb; have h2 := L_og b' hb'; omega)
    have B := belowG B gm (by omega) (fun b hb => by have h := L_og b hb; omega)
    have S10 : w9.heap.size ≤ w10.heap.size := gm.size
    clear gm
    obtain ⟨fAG_0, fAG_1, fAG_2⟩ := AG.two
    go_wp2_with fail
    refine (heldBytesResult_ok k cg m dg 1 _ og.rd (by omega) (by have := HX.out; unfold maxLen at this; omega)).mono ?_
    rintro e w11 ⟨rfl, b11⟩
    clear fAG_0 fAG_1 fAG_2
    have S11 : w10.heap.size ≤ w11.heap.size := by have h := b11.size; (try simp at h); omega
    have AW := AW.kept b11
    have AG := AG.kept b11
    have ow := ow.kept b11
    have ox0 := ox0.kept b11
    have og := og.kept b11
    have B := thenB B (b11)
    clear b11
    have hqm : 0 ≤ 1 + (m : Int) := by omega
    go_wp2_with fail
    refine (toByteS_ok a n ca zs _ (hR.kept B) hn (by omega)).mono ?_
    rintro e w12 ⟨z_0, dz_0, rfl, oz_0, b12⟩
    have S12 : w11.heap.size ≤ w12.heap.size := by have h := b12.size; (try simp at h); omega
    have AW := AW.kept b12
    have AG := AG.kept b12
    have ow := ow.kept b12
    have ox0 := ox0.kept b12
    have og := og.kept b12
    have B := thenB B (b12)
    have L_oz_0 : ∀ b, z_0 = some b → w11.heap.size ≤ b.block ∧ b.block < w12.heap.size := fun b hb => by have h := oz_0.lt b hb; (try simp at h); omega
    clear b12
    go_wp2_with fail
    refine (CI.out z_0 dz_0 _ oz_0.rd (by have h := oz_0.cap; rw [hn] at h; exact h)).mono ?_
    rintro e w13 ⟨ch, dh, rfl, oh, b13⟩
    have S13 : w12.heap.size ≤ w13.heap.size := by have h := b13.size; (try simp at h); omega
    have AW := AW.kept b13
    have AG := AG.kept b13
    have ow := ow.kept b13
    have ox0 := ox0.kept b13
    have og := og.kept b13
    have oz_0 := oz_0.kept b13
    have B := thenB B (b13)
    have L_oh : ∀ b, ch = some b → w12.heap.size ≤ b.block ∧ b.block < w13.heap.size := fun b hb => by have h := oh.lt b hb; (try simp at h); omega
    clear b13
    have AW := AW.kept (belowA w13 (.cells #[.int .i64 k, .slice ch m dh] 31))
    have AG := AG.kept (belowA w13 (.cells #[.int .i64 k, .slice ch m dh] 31))
    have ow := ow.kept (belowA w13 (.cells #[.int .i64 k, .slice ch m dh] 31))
    have ox0 := ox0.kept (belowA w13 (.cells #[.int .i64 k, .slice ch m dh] 31))
    have og := og.kept (belowA w13 (.cells #[.int .i64 k, .slice ch m dh] 31))
    have oz_0 := oz_0.kept (belowA w13 (.cells #[.int .i64 k, .slice ch m dh] 31))
    have oh := oh.kept (belowA w13 (.cells #[.int .i64 k, .slice ch m dh] 31))
    have B := thenB B ((belowA w13 (.cells #[.int .i64 k, .slice ch m dh] 31)))
    have AH := At.new2 w13 (.int .i64 k) (.slice ch m dh) 31
    obtain ⟨fAH_0, fAH_1, fAH_2⟩ := AH.two
    obtain ⟨fAW_0, fAW_1, fAW_2⟩ := AW.two
    go_wp2_with fail
    refine (eqBytesResult_ok k ch cw m dh dw ys _ oh.rd ow.rd HM.out HX.out).mono ?_
    rintro e w14 ⟨rfl, b14⟩
    clear fAH_0 fAH_1 fAH_2 fAW_0 fAW_1 fAW_2
    have S14 : w13.heap.size + 1 ≤ w14.heap.size := by have h := b14.size; (try simp at h); omega
    have AW := AW.kept b14
    have AG := AG.kept b14
    have AH := AH.kept b14
    have ow := ow.kept b14
    have ox0 := ox0.kept b14
    have og := og.kept b14
    have oz_0 := oz_0.kept b14
    have oh := oh.kept b14
    have B := thenB B (b14)
    clear b14
    obtain ⟨fAG_0, fAG_1, fAG_2⟩ := AG.two
    go_wp2_with fail
    refine (heldBytesResult_ok k cg m dg 1 _ og.rd (by omega) (by have := HX.out; unfold maxLen at this; omega)).mono ?_
    rintro e w15 ⟨rfl, b15⟩
    clear fAG_0 fAG_1 fAG_2
    have S15 : w14.heap.size ≤ w15.heap.size := by have h := b15.size; (try simp at h); omega
    have AW := AW.kept b15
    have AG := AG.kept b15
    have AH := AH.kept b15
    have ow := ow.kept b15
    have ox0 := ox0.kept b15
    have og := og.kept b15
    have oz_0 := oz_0.kept b15
    have oh := oh.kept b15
    have B := thenB B (b15)
    clear b15
    go_wp2
    go_ret
    exact ⟨rfl, B⟩
  · go_enter Try.func6, Try.ntmps6
    go_wp2
    go_ret
    exact ⟨rfl, Below.refl _ _⟩

end Go.Proofs.Ytdggihikkegjjaa
