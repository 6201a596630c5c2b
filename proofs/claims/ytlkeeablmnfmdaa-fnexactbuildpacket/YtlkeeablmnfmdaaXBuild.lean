/- The law on 'BuildPacket': its walk (written by gen_xbuild.py). -/
import Derived.Test.YtlkeeablmnfmdaaBuild4
import Derived.Test.YtlkeeablmnfmdaaPktH
import Derived.Deep.RegionHeld3
namespace Go.Proofs.Ytlkeeablmnfmdaa
open Go.RowKit

set_option maxHeartbeats 4000000 in
theorem xBuild_walk (f t r l x y : Int) (a : Option Addr) (n ca : Nat) (xs : List Int) (w : World) (hR : Rd .u8 w a xs) (hn : xs.length = n) (hnx : n ≤ maxLen) :
    Calls Try.prog 6 #[.agg #[.int .i64 f, .int .i64 t, .int .i64 r, .int .i64 l, .int .i64 x, .int .i64 y, .slice a n ca]] w fun e w' => e = .returned (.bool true) ∧ Below w.heap.size w w' := by
  by_cases hbig : (n : Int) ≤ 1048576
  · have CS := Hid.mk (fun c d w h h' => specBuildPacket_ok f t r l x y c n d xs w h hn h')
    have CI := Hid.mk (fun c d w h h' => implBuildPacket_ok f t r l x y c n d xs w h hn h')
    have hle := zl_len (pfC f t r l x y n) (buildP f t r l x y xs)
    rw [length_buildP, hn] at hle
    have hpl := portP_len r x y
    generalize (zl (pfC f t r l x y n) (buildP f t r l x y xs)) = ys at *
    generalize pfC f t r l x y n = k at *
    obtain ⟨m, hm⟩ : ∃ m, ys.length = m := ⟨_, rfl⟩
    rw [hm] at CS CI
    have HM := Hid.mk hm
    have hmx : m ≤ 2097152 := by omega
    have HX : Hid (m ≤ maxLen) := by unfold Hid maxLen; omega
    clear hm hle hpl
    go_enter Try.func6, Try.ntmps6
    have B := Below.refl w.heap.size w
    go_wp2_with fail
    refine (szPacket_in f t r l x y a n ca (1048576) _ (by omega) (by omega)).mono ?_
    rintro e w1 ⟨rfl, b1⟩
    have A0 := (At.newP w (.int .i64 f) (.int .i64 t) (.int .i64 r) (.int .i64 l) (.int .i64 x) (.int .i64 y) (.slice a n ca) 38).kept b1
    have B := thenB (belowA w (.cells #[.int .i64 f, .int .i64 t, .int .i64 r, .int .i64 l, .int .i64 x, .int .i64 y, .slice a n ca] 38)) b1
    have S1 : w.heap.size + 1 ≤ w1.heap.size := by have h := b1.size; simp at h; omega
    clear b1
    have h0_0 : 0 ≤ 1048576 - (n : Int) := by omega
    obtain ⟨fA0_0, fA0_1, fA0_2, fA0_3, fA0_4, fA0_5, fA0_6, fA0_7⟩ := A0.seven
    go_wp2_with fail
    refine (toPacket_ok f t r l x y a n ca xs _ (hR.kept B) hn (by omega)).mono ?_
    rintro e w2 ⟨cs0, dcs0, rfl, ocs0, b2⟩
    clear fA0_0 fA0_1 fA0_2 fA0_3 fA0_4 fA0_5 fA0_6 fA0_7
    have S2 : w1.heap.size ≤ w2.heap.size := by have h := b2.size; (try simp at h); omega
    have A0 := A0.kept b2
    have B := thenB B (b2)
    have L_ocs0 : ∀ b, cs0 = some b → w1.heap.size ≤ b.block ∧ b.block < w2.heap.size := fun b hb => by have h := ocs0.lt b hb; (try simp at h); omega
    clear b2
    go_wp2_with fail
    refine (CS.out cs0 dcs0 _ ocs0.rd ocs0.nocap).mono ?_
    rintro e w3 ⟨cw, dw, rfl, ow, b3⟩
    have S3 : w2.heap.size ≤ w3.heap.size := by have h := b3.size; (try simp at h); omega
    have A0 := A0.kept b3
    have ocs0 := ocs0.kept b3
    have B := thenB B (b3)
    have L_ow : ∀ b, cw = some b → w2.heap.size ≤ b.block ∧ b.block < w3.heap.size := fun b hb => by have h := ow.lt b hb; (try simp at h); omega
    clear b3
    clear ocs0 L_ocs0
    have A0 := A0.kept (belowA w3 (.cells #[.int .i64 k, .slice cw m dw] 31))
    have ow := ow.kept (belowA w3 (.cells #[.int .i64 k, .slice cw m dw] 31))
    have B := thenB B ((belowA w3 (.cells #[.int .i64 k, .slice cw m dw] 31)))
    have AW := At.new2 w3 (.int .i64 k) (.slice cw m dw) 31
    obtain ⟨fA0_0, fA0_1, fA0_2, fA0_3, fA0_4, fA0_5, fA0_6, fA0_7⟩ := A0.seven
    go_wp2_with fail
    refine (toPacket_ok f t r l x y a n ca xs _ (hR.kept B) hn (by omega)).mono ?_
    rintro e w4 ⟨x0, dx0, rfl, ox0, b4⟩
    clear fA0_0 fA0_1 fA0_2 fA0_3 fA0_4 fA0_5 fA0_6 fA0_7
    have S4 : w3.heap.size + 1 ≤ w4.heap.size := by have h := b4.size; (try simp at h); omega
    have A0 := A0.kept b4
    have AW := AW.kept b4
    have ow := ow.kept b4
    have B := thenB B (b4)
    have L_ox0 : ∀ b, x0 = some b → w3.heap.size + 1 ≤ b.block ∧ b.block < w4.heap.size := fun b hb => by have h := ox0.lt b hb; (try simp at h); omega
    clear b4
    have A0 := A0.kept (belowA w4 (.cells #[.int .i64 f, .int .i64 t, .int .i64 r, .int .i64 l, .int .i64 x, .int .i64 y, .slice x0 n dx0] 26))
    have AW := AW.kept (belowA w4 (.cells #[.int .i64 f, .int .i64 t, .int .i64 r, .int .i64 l, .int .i64 x, .int .i64 y, .slice x0 n dx0] 26))
    have ow := ow.kept (belowA w4 (.cells #[.int .i64 f, .int .i64 t, .int .i64 r, .int .i64 l, .int .i64 x, .int .i64 y, .slice x0 n dx0] 26))
    have ox0 := ox0.kept (belowA w4 (.cells #[.int .i64 f, .int .i64 t, .int .i64 r, .int .i64 l, .int .i64 x, .int .i64 y, .slice x0 n dx0] 26))
    have B := thenB B ((belowA w4 (.cells #[.int .i64 f, .int .i64 t, .int .i64 r, .int .i64 l, .int .i64 x, .int .i64 y, .slice x0 n dx0] 26)))
    have X0 := At.newP w4 (.int .i64 f) (.int .i64 t) (.int .i64 r) (.int .i64 l) (.int .i64 x) (.int .i64 y) (.slice x0 n dx0) 26
    obtain ⟨fX0_0, fX0_1, fX0_2, fX0_3, fX0_4, fX0_5, fX0_6, fX0_7⟩ := X0.seven
    go_wp2_with fail
    refine (CI.out x0 dx0 _ ox0.rd ox0.nocap).mono ?_
    rintro e w5 ⟨cg, dg, rfl, og, b5⟩
    clear fX0_0 fX0_1 fX0_2 fX0_3 fX0_4 fX0_5 fX0_6 fX0_7
    have S5 : w4.heap.size + 1 ≤ w5.heap.size := by have h := b5.size; (try simp at h); omega
    have A0 := A0.kept b5
    have AW := AW.kept b5
    have X0 := X0.kept b5
    have ow := ow.kept b5
    have ox0 := ox0.kept b5
    have B := thenB B (b5)
    have L_og : ∀ b, cg = some b → w4.heap.size + 1 ≤ b.block ∧ b.block < w5.heap.size := fun b hb => by have h := og.lt b hb; (try simp at h); omega
    clear b5
    have A0 := A0.kept (belowA w5 (.cells #[.int .i64 k, .slice cg m dg] 31))
    have AW := AW.kept (belowA w5 (.cells #[.int .i64 k, .slice cg m dg] 31))
    have X0 := X0.kept (belowA w5 (.cells #[.int .i64 k, .slice cg m dg] 31))
    have ow := ow.kept (belowA w5 (.cells #[.int .i64 k, .slice cg m dg] 31))
    have ox0 := ox0.kept (belowA w5 (.cells #[.int .i64 k, .slice cg m dg] 31))
    have og := og.kept (belowA w5 (.cells #[.int .i64 k, .slice cg m dg] 31))
    have B := thenB B ((belowA w5 (.cells #[.int .i64 k, .slice cg m dg] 31)))
    have AG := At.new2 w5 (.int .i64 k) (.slice cg m dg) 31
    obtain ⟨fAG_0, fAG_1, fAG_2⟩ := AG.two
    obtain ⟨fAW_0, fAW_1, fAW_2⟩ := AW.two
    go_wp2_with fail
    refine (eqBytesResult_ok k cg cw m dg dw ys _ og.rd ow.rd HM.out HX.out).mono ?_
    rintro e w6 ⟨rfl, b6⟩
    clear fAG_0 fAG_1 fAG_2 fAW_0 fAW_1 fAW_2
    have S6 : w5.heap.size + 1 ≤ w6.heap.size := by have h := b6.size; (try simp at h); omega
    have A0 := A0.kept b6
    have AW := AW.kept b6
    have X0 := X0.kept b6
    have AG := AG.kept b6
    have ow := ow.kept b6
    have ox0 := ox0.kept b6
    have og := og.kept b6
    have B := thenB B (b6)
    clear b6
    have K : ∀ w' : World, Below w6.heap.size w6 w' → (w'.cell? ⟨w.heap.size, 0, none⟩ = some (.int .i64 f) ∧ w'.cell? ⟨w.heap.size, 1, none⟩ = some (.int .i64 t) ∧ w'.cell? ⟨w.heap.size, 2, none⟩ = some (.int .i64 r) ∧ w'.cell? ⟨w.heap.size, 3, none⟩ = some (.int .i64 l) ∧ w'.cell? ⟨w.heap.size, 4, none⟩ = some (.int .i64 x) ∧ w'.cell? ⟨w.heap.size, 5, none⟩ = some (.int .i64 y) ∧ w'.cell? ⟨w.heap.size, 6, none⟩ = some (.slice a n ca) ∧ w'.cell? ⟨w4.heap.size, 0, none⟩ = some (.int .i64 f) ∧ w'.cell? ⟨w4.heap.size, 1, none⟩ = some (.int .i64 t) ∧ w'.cell? ⟨w4.heap.size, 2, none⟩ = some (.int .i64 r) ∧ w'.cell? ⟨w4.heap.size, 3, none⟩ = some (.int .i64 l) ∧ w'.cell? ⟨w4.heap.size, 4, none⟩ = some (.int .i64 x) ∧ w'.cell? ⟨w4.heap.size, 5, none⟩ = some (.int .i64 y) ∧ w'.cell? ⟨w4.heap.size, 6, none⟩ = some (.slice x0 n dx0)) := fun w' h => by
      obtain ⟨g0_0, g0_1, g0_2, g0_3, g0_4, g0_5, g0_6, _⟩ := (A0.kept h).seven
      obtain ⟨g1_0, g1_1, g1_2, g1_3, g1_4, g1_5, g1_6, _⟩ := (X0.kept h).seven
      exact ⟨g0_0, g0_1, g0_2, g0_3, g0_4, g0_5, g0_6, g1_0, g1_1, g1_2, g1_3, g1_4, g1_5, g1_6⟩
    have K := Hid.mk K
    go_wp2_with fail
    go_region_held3 (fun w' => w'.cell? ⟨w.heap.size, 0, none⟩ = some (.int .i64 f) ∧ w'.cell? ⟨w.heap.size, 1, none⟩ = some (.int .i64 t) ∧ w'.cell? ⟨w.heap.size, 2, none⟩ = some (.int .i64 r) ∧ w'.cell? ⟨w.heap.size, 3, none⟩ = some (.int .i64 l) ∧ w'.cell? ⟨w.heap.size, 4, none⟩ = some (.int .i64 x) ∧ w'.cell? ⟨w.heap.size, 5, none⟩ = some (.int .i64 y) ∧ w'.cell? ⟨w.heap.size, 6, none⟩ = some (.slice a n ca) ∧ w'.cell? ⟨w4.heap.size, 0, none⟩ = some (.int .i64 f) ∧ w'.cell? ⟨w4.heap.size, 1, none⟩ = some (.int .i64 t) ∧ w'.cell? ⟨w4.heap.size, 2, none⟩ = some (.int .i64 r) ∧ w'.cell? ⟨w4.heap.size, 3, none⟩ = some (.int .i64 l) ∧ w'.cell? ⟨w4.heap.size, 4, none⟩ = some (.int .i64 x) ∧ w'.cell? ⟨w4.heap.size, 5, none⟩ = some (.int .i64 y) ∧ w'.cell? ⟨w4.heap.size, 6, none⟩ = some (.slice x0 n dx0)) (first | exact K.out _ (thenB (thenB (Below.refl _ _).drew b7) b8) | exact K.out _ (thenB (Below.refl _ _).drew b7) | exact K.out _ (Below.refl _ _).drew) (first | (go_at_call 25; have hz := b7; clear hz; refine (eqPacket_ok f t r l x y x0 y0 n dx0 dy0 xs _ ((ox0.kept (Below.refl _ _).drew).kept b7).rd oy0.rd hn (by assumption)).mono ?_; rintro e w8 ⟨rfl, b8⟩) | (go_at_call 24; refine (toPacket_ok f t r l x y a n ca xs _ ((hR.kept B).kept (Below.refl _ _).drew) hn (by omega)).mono ?_; rintro e w7 ⟨y0, dy0, rfl, oy0, b7⟩))
    have bh := (thenB (thenB (Below.refl _ _).drew b7) b8)
    have SH8 : w6.heap.size ≤ w8.heap.size := bh.size
    have A0 := A0.kept bh
    have AW := AW.kept bh
    have X0 := X0.kept bh
    have AG := AG.kept bh
    have ow := ow.kept bh
    have ox0 := ox0.kept bh
    have og := og.kept bh
    have B := thenB B (bh)
    clear bh K
    obtain ⟨fX0_0, fX0_1, fX0_2, fX0_3, fX0_4, fX0_5, fX0_6, fX0_7⟩ := X0.seven
    go_wp2_with fail
    refine (markPacket_ok f t r l x y x0 n dx0 _ xs 1 _ ox0 hn (by omega) (by omega)).mono ?_
    rintro e w9 ⟨rfl, ox0, gm⟩
    clear fX0_0 fX0_1 fX0_2 fX0_3 fX0_4 fX0_5 fX0_6 fX0_7
    have A0 := A0.grown gm (row_ne fun b hb => by have h := L_ox0 b hb; omega)
    have AW := AW.grown gm (row_ne fun b hb => by have h := L_ox0 b hb; omega)
    have X0 := X0.grown gm (row_ne fun b hb => by have h := L_ox0 b hb; omega)
    have AG := AG.grown gm (row_ne fun b hb => by have h := L_ox0 b hb; omega)
    have ow := ow.grown gm (fun b hb => row_ne fun b' hb' => by have h1 := L_ow b hb; have h2 := L_ox0 b' hb'; omega)
    have og := og.grown gm (fun b hb => row_ne fun b' hb' => by have h1 := L_og b hb; have h2 := L_ox0 b' hb'; omega)
    have B := belowG B gm (by omega) (fun b hb => by have h := L_ox0 b hb; omega)
    have S9 : w8.heap.size ≤ w9.heap.size := gm.size
    clear gm
    have hq0 : 0 ≤ (1 + (n : Int)) := by omega
    obtain ⟨fAG_0, fAG_1, fAG_2⟩ := AG.two
    obtain ⟨fAW_0, fAW_1, fAW_2⟩ := AW.two
    go_wp2_with fail
    refine (eqBytesResult_ok k cg cw m dg dw ys _ og.rd ow.rd HM.out HX.out).mono ?_
    rintro e w10 ⟨rfl, b10⟩
    clear fAG_0 fAG_1 fAG_2 fAW_0 fAW_1 fAW_2
    have S10 : w9.heap.size ≤ w10.heap.size := by have h := b10.size; (try simp at h); omega
    have A0 := A0.kept b10
    have AW := AW.kept b10
    have X0 := X0.kept b10
    have AG := AG.kept b10
    have ow := ow.kept b10
    have ox0 := ox0.kept b10
    have og := og.kept b10
    have B := thenB B (b10)
    clear b10
    obtain ⟨fAG_0, fAG_1, fAG_2⟩ := AG.two
    go_wp2_with fail
    refine (markBytesResult_ok k cg m dg _ ys 1 _ og HM.out (by omega) (by have := HX.out; unfold maxLen at this; omega)).mono ?_
    rintro e w11 ⟨rfl, og, gm⟩
    clear fAG_0 fAG_1 fAG_2
    have A0 := A0.grown gm (row_ne fun b hb => by have h := L_og b hb; omega)
    have AW := AW.grown gm (row_ne fun b hb => by have h := L_og b hb; omega)
    have X0 := X0.grown gm (row_ne fun b hb => by have h := L_og b hb; omega)
    have AG := AG.grown gm (row_ne fun b hb => by have h := L_og b hb; omega)
    have ow := ow.grown gm (fun b hb => row_ne fun b' hb' => by have h1 := L_ow b hb; have h2 := L_og b' hb'; omega)
    have ox0 := ox0.grown gm (fun b hb => row_ne fun b' hb' => by have h1 := L_ox0 b hb; have h2 := L_og b' hb'; omega)
    have B := belowG B gm (by omega) (fun b hb => by have h := L_og b hb; omega)
    have S11 : w10.heap.size ≤ w11.heap.size := gm.size
    clear gm
    obtain ⟨fAG_0, fAG_1, fAG_2⟩ := AG.two
    go_wp2_with fail
    refine (heldBytesResult_ok k cg m dg 1 _ og.rd (by omega) (by have := HX.out; unfold maxLen at this; omega)).mono ?_
    rintro e w12 ⟨rfl, b12⟩
    clear fAG_0 fAG_1 fAG_2
    have S12 : w11.heap.size ≤ w12.heap.size := by have h := b12.size; (try simp at h); omega
    have A0 := A0.kept b12
    have AW := AW.kept b12
    have X0 := X0.kept b12
    have AG := AG.kept b12
    have ow := ow.kept b12
    have ox0 := ox0.kept b12
    have og := og.kept b12
    have B := thenB B (b12)
    clear b12
    have hqm : 0 ≤ 1 + (m : Int) := by omega
    obtain ⟨fA0_0, fA0_1, fA0_2, fA0_3, fA0_4, fA0_5, fA0_6, fA0_7⟩ := A0.seven
    go_wp2_with fail
    refine (toPacket_ok f t r l x y a n ca xs _ (hR.kept B) hn (by omega)).mono ?_
    rintro e w13 ⟨z_0, dz_0, rfl, oz_0, b13⟩
    clear fA0_0 fA0_1 fA0_2 fA0_3 fA0_4 fA0_5 fA0_6 fA0_7
    have S13 : w12.heap.size ≤ w13.heap.size := by have h := b13.size; (try simp at h); omega
    have A0 := A0.kept b13
    have AW := AW.kept b13
    have X0 := X0.kept b13
    have AG := AG.kept b13
    have ow := ow.kept b13
    have ox0 := ox0.kept b13
    have og := og.kept b13
    have B := thenB B (b13)
    have L_oz_0 : ∀ b, z_0 = some b → w12.heap.size ≤ b.block ∧ b.block < w13.heap.size := fun b hb => by have h := oz_0.lt b hb; (try simp at h); omega
    clear b13
    go_wp2_with fail
    refine (CI.out z_0 dz_0 _ oz_0.rd oz_0.nocap).mono ?_
    rintro e w14 ⟨ch, dh, rfl, oh, b14⟩
    have S14 : w13.heap.size ≤ w14.heap.size := by have h := b14.size; (try simp at h); omega
    have A0 := A0.kept b14
    have AW := AW.kept b14
    have X0 := X0.kept b14
    have AG := AG.kept b14
    have ow := ow.kept b14
    have ox0 := ox0.kept b14
    have og := og.kept b14
    have oz_0 := oz_0.kept b14
    have B := thenB B (b14)
    have L_oh : ∀ b, ch = some b → w13.heap.size ≤ b.block ∧ b.block < w14.heap.size := fun b hb => by have h := oh.lt b hb; (try simp at h); omega
    clear b14
    have A0 := A0.kept (belowA w14 (.cells #[.int .i64 k, .slice ch m dh] 31))
    have AW := AW.kept (belowA w14 (.cells #[.int .i64 k, .slice ch m dh] 31))
    have X0 := X0.kept (belowA w14 (.cells #[.int .i64 k, .slice ch m dh] 31))
    have AG := AG.kept (belowA w14 (.cells #[.int .i64 k, .slice ch m dh] 31))
    have ow := ow.kept (belowA w14 (.cells #[.int .i64 k, .slice ch m dh] 31))
    have ox0 := ox0.kept (belowA w14 (.cells #[.int .i64 k, .slice ch m dh] 31))
    have og := og.kept (belowA w14 (.cells #[.int .i64 k, .slice ch m dh] 31))
    have oz_0 := oz_0.kept (belowA w14 (.cells #[.int .i64 k, .slice ch m dh] 31))
    have oh := oh.kept (belowA w14 (.cells #[.int .i64 k, .slice ch m dh] 31))
    have B := thenB B ((belowA w14 (.cells #[.int .i64 k, .slice ch m dh] 31)))
    have AH := At.new2 w14 (.int .i64 k) (.slice ch m dh) 31
    obtain ⟨fAH_0, fAH_1, fAH_2⟩ := AH.two
    obtain ⟨fAW_0, fAW_1, fAW_2⟩ := AW.two
    go_wp2_with fail
    refine (eqBytesResult_ok k ch cw m dh dw ys _ oh.rd ow.rd HM.out HX.out).mono ?_
    rintro e w15 ⟨rfl, b15⟩
    clear fAH_0 fAH_1 fAH_2 fAW_0 fAW_1 fAW_2
    have S15 : w14.heap.size + 1 ≤ w15.heap.size := by have h := b15.size; (try simp at h); omega
    have A0 := A0.kept b15
    have AW := AW.kept b15
    have X0 := X0.kept b15
    have AG := AG.kept b15
    have AH := AH.kept b15
    have ow := ow.kept b15
    have ox0 := ox0.kept b15
    have og := og.kept b15
    have oz_0 := oz_0.kept b15
    have oh := oh.kept b15
    have B := thenB B (b15)
    clear b15
    obtain ⟨fAG_0, fAG_1, fAG_2⟩ := AG.two
    go_wp2_with fail
    refine (heldBytesResult_ok k cg m dg 1 _ og.rd (by omega) (by have := HX.out; unfold maxLen at this; omega)).mono ?_
    rintro e w16 ⟨rfl, b16⟩
    clear fAG_0 fAG_1 fAG_2
    have S16 : w15.heap.size ≤ w16.heap.size := by have h := b16.size; (try simp at h); omega
    have A0 := A0.kept b16
    have AW := AW.kept b16
    have X0 := X0.kept b16
    have AG := AG.kept b16
    have AH := AH.kept b16
    have ow := ow.kept b16
    have ox0 := ox0.kept b16
    have og := og.kept b16
    have oz_0 := oz_0.kept b16
    have oh := oh.kept b16
    have B := thenB B (b16)
    clear b16
    go_wp2
    go_ret
    exact ⟨rfl, B⟩
  · go_enter Try.func6, Try.ntmps6
    go_wp2_with fail
    refine (szPacket_out f t r l x y a n ca 1048576 _ (by omega) (by omega) (by omega) hnx).mono ?_
    rintro e w1 ⟨rfl, b1⟩
    go_wp2
    go_ret
    exact ⟨rfl, thenB (belowA w _) b1⟩

end Go.Proofs.Ytlkeeablmnfmdaa
