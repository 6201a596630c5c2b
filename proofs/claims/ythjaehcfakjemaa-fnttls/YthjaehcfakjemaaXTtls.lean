/- The law FnTtls: its walk (written by gen_xttls.py). -/
import Derived.Test.YthjaehcfakjemaaDrawW
import Derived.Test.YthjaehcfakjemaaTtl
namespace Go.Proofs.Ythjaehcfakjemaa
open Go.RowKit
set_option maxRecDepth 40000

theorem field_code (k v : Value) (w : World) : (Instr.field 31 (.agg #[k, v]) 0).run Try.prog w = .ok k w := by kernel_rfl

set_option maxRecDepth 20000 in
set_option maxHeartbeats 2000000 in
theorem xTtls_walk (a : Option Addr) (n ca : Nat) (xs : List Int) (w : World) (hR : Rd .u8 w a xs) (hB : Bytes xs) (hn : xs.length = n) :
    Calls Try.prog 4 #[.slice a n ca] w fun e w' => e = .returned (.bool true) ∧ Below w.heap.size w w' := by
  by_cases hbig : (n : Int) ≤ 1048576
  · go_enter Try.func4, Try.ntmps4
    go_wp2_with (first | (go_at_call 5; go_in) | fail)
    refine (drawTtlDown_ok a n ca xs _ hR hB hn (by omega)).mono ?_
    rintro e w1 ⟨g, d, m, ys, rfl, hm, hm2, hmd, hyb, R, B⟩
    obtain ⟨k, F, T, r, l, x, y, zs, hI⟩ := psIs_ex ys
    have hzl : zs.length ≤ m := by rw [← hI.2.2.2.2.2.2.2]; refine Nat.le_trans (zl_len _ _) ?_; rw [List.length_drop, hm]; omega
    obtain ⟨q, hq⟩ : ∃ q, zs.length = q := ⟨_, rfl⟩
    have CT := Hid.mk (fun w h => implTtlDown_ok (some ⟨g, 0, none⟩) m d ys k F T r l x y zs q hI hq w h hyb hm (by omega) hmd)
    have CS := Hid.mk (fun w h => specTtlDown_ok (some ⟨g, 0, none⟩) m d ys k F T r l x y zs q hI hq w h hyb hm (by omega) hmd)
    have CP := Hid.mk (fun w h => implParsePacket_ok (some ⟨g, 0, none⟩) m d ys k F T r l x y zs q hI hq w h hyb hm (by omega) hmd)
    by_cases hk : tdC k l = 0
    · skip
      have hkl : k = 0 ∧ l ≠ 1 := by
        by_cases h0 : k = 0
        · subst h0; exact ⟨rfl, fun h => by subst h; rw [tdC_one] at hk; cases hk⟩
        · rw [tdC_code h0] at hk; exact absurd hk h0
      obtain ⟨rfl, hl1⟩ := hkl
      obtain ⟨hF, hT, hr, hl, hx0, hy0, hp, hq2⟩ := ps_right hI hyb
      have hzb : Bytes zs := by rw [← hI.2.2.2.2.2.2.2, zl_0]; exact fun z hz => hyb z (List.mem_of_mem_drop hz)
      have hI2 := build_read F T r (l - 1) x y zs hzb hF hT hr ⟨by omega, by omega⟩ hx0 hy0 hp hq2
      have hle := length_buildP F T r (l - 1) x y zs
      have hpl := portP_len r x y
      have hYb := buildP_bytes (f := F) (t := T) (r := r) (l := l - 1) (x := x) (y := y) (xs := zs) (by omega) (by omega) hzb
      rw [hk] at CT
      simp only [zl_0] at CT
      generalize buildP F T r (l - 1) x y zs = Y at *
      obtain ⟨N, hN⟩ : ∃ N, Y.length = N := ⟨_, rfl⟩
      rw [hN] at CT hle
      have CQ := Hid.mk (fun c d w h h' => implParsePacket_ok c N d Y 0 F T r (l - 1) x y zs q hI2 hq w h hYb hN (by omega) h')
      have HN := Hid.mk hN
      have HQ := Hid.mk hq
      have hsame := sameP_self F T r l x y zs
      clear hN hle hI hI2 hk CS hq
      go_wp2_with fail
      refine (CT.out _ R).mono ?_
      rintro e w2 ⟨c2, d2, rfl, O2, b2⟩
      have S2 := b2.size
      replace R := R.kept b2
      replace B := thenB B b2
      clear b2
      have Bo := B
      have hc2 := O2.cap
      rw [HN.out] at hc2
      replace R := R.kept (belowA w2 (.cells #[.int .i64 0, .slice c2 N d2] 31))
      replace O2 := O2.kept (belowA w2 (.cells #[.int .i64 0, .slice c2 N d2] 31))
      replace B := thenB B (belowA w2 (.cells #[.int .i64 0, .slice c2 N d2] 31))
      have V4 := V.new w2 [.int .i64 0, .slice c2 N d2] 31
      go_wp2_with fail
      refine (CP.out _ R).mono ?_
      rintro e w3 ⟨c3, d3, rfl, O3, b3⟩
      have S3 := b3.size
      simp only [World.size_alloc] at S3
      replace V4 := V4.kept b3
      replace R := R.kept b3
      replace O2 := O2.kept b3
      replace B := thenB B b3
      clear b3
      obtain ⟨s_V4, f_V4, z_V4⟩ := V4.open
      have Bo := B
      replace V4 := V4.kept (belowA w3 (.cells #[.int .i64 0, .int .i64 F, .int .i64 T, .int .i64 r, .int .i64 l, .int .i64 x, .int .i64 y, .slice c3 q d3] 28))
      replace R := R.kept (belowA w3 (.cells #[.int .i64 0, .int .i64 F, .int .i64 T, .int .i64 r, .int .i64 l, .int .i64 x, .int .i64 y, .slice c3 q d3] 28))
      replace O2 := O2.kept (belowA w3 (.cells #[.int .i64 0, .int .i64 F, .int .i64 T, .int .i64 r, .int .i64 l, .int .i64 x, .int .i64 y, .slice c3 q d3] 28))
      replace O3 := O3.kept (belowA w3 (.cells #[.int .i64 0, .int .i64 F, .int .i64 T, .int .i64 r, .int .i64 l, .int .i64 x, .int .i64 y, .slice c3 q d3] 28))
      replace B := thenB B (belowA w3 (.cells #[.int .i64 0, .int .i64 F, .int .i64 T, .int .i64 r, .int .i64 l, .int .i64 x, .int .i64 y, .slice c3 q d3] 28))
      have V5 := V.new w3 [.int .i64 0, .int .i64 F, .int .i64 T, .int .i64 r, .int .i64 l, .int .i64 x, .int .i64 y, .slice c3 q d3] 28
      go_wp2_with fail
      refine (CQ.out c2 d2 _ O2.rd hc2).mono ?_
      rintro e w4 ⟨c4, d4, rfl, O4, b4⟩
      clear s_V4 f_V4 z_V4
      have S4 := b4.size
      simp only [World.size_alloc] at S4
      replace V4 := V4.kept b4
      replace V5 := V5.kept b4
      replace R := R.kept b4
      replace O2 := O2.kept b4
      replace O3 := O3.kept b4
      replace B := thenB B b4
      clear b4
      obtain ⟨s_V4, f_V4, z_V4⟩ := V4.open
      obtain ⟨s_V5, f_V5, z_V5⟩ := V5.open
      have Bo := B
      go_wp2_with fail
      replace V4 := V4.kept (belowA w4 (.cells #[.int .i64 0, .int .i64 F, .int .i64 T, .int .i64 r, .int .i64 l, .int .i64 x, .int .i64 y, .slice c4 q d4] 28))
      replace V5 := V5.kept (belowA w4 (.cells #[.int .i64 0, .int .i64 F, .int .i64 T, .int .i64 r, .int .i64 l, .int .i64 x, .int .i64 y, .slice c4 q d4] 28))
      replace R := R.kept (belowA w4 (.cells #[.int .i64 0, .int .i64 F, .int .i64 T, .int .i64 r, .int .i64 l, .int .i64 x, .int .i64 y, .slice c4 q d4] 28))
      replace O2 := O2.kept (belowA w4 (.cells #[.int .i64 0, .int .i64 F, .int .i64 T, .int .i64 r, .int .i64 l, .int .i64 x, .int .i64 y, .slice c4 q d4] 28))
      replace O3 := O3.kept (belowA w4 (.cells #[.int .i64 0, .int .i64 F, .int .i64 T, .int .i64 r, .int .i64 l, .int .i64 x, .int .i64 y, .slice c4 q d4] 28))
      replace O4 := O4.kept (belowA w4 (.cells #[.int .i64 0, .int .i64 F, .int .i64 T, .int .i64 r, .int .i64 l, .int .i64 x, .int .i64 y, .slice c4 q d4] 28))
      replace B := thenB B (belowA w4 (.cells #[.int .i64 0, .int .i64 F, .int .i64 T, .int .i64 r, .int .i64 l, .int .i64 x, .int .i64 y, .slice c4 q d4] 28))
      have V6 := V.new w4 [.int .i64 0, .int .i64 F, .int .i64 T, .int .i64 r, .int .i64 l, .int .i64 x, .int .i64 y, .slice c4 q d4] 28
      refine (implSamePacket_ok F T r l x y F T r l x y c3 c4 q q d3 d4 zs zs _ O3.rd O4.rd O3.noSpot O4.noSpot HQ.out HQ.out).mono ?_
      rintro e w5 ⟨rfl, b5⟩
      clear s_V4 f_V4 z_V4 s_V5 f_V5 z_V5
      have S5 := b5.size
      simp only [World.size_alloc] at S5
      replace V4 := V4.kept b5
      replace V5 := V5.kept b5
      replace V6 := V6.kept b5
      replace R := R.kept b5
      replace O2 := O2.kept b5
      replace O3 := O3.kept b5
      replace O4 := O4.kept b5
      replace B := thenB B b5
      clear b5
      obtain ⟨s_V4, f_V4, z_V4⟩ := V4.open
      obtain ⟨s_V5, f_V5, z_V5⟩ := V5.open
      obtain ⟨s_V6, f_V6, z_V6⟩ := V6.open
      have Bo := B
      rw [hsame]
      go_wp2
      go_ret
      exact ⟨rfl, Bo⟩
    · skip
      have hk1 : (tdC k l != 0) = true := by simp [hk]
      generalize zl (tdC k l) (buildP F T r (l - 1) x y zs) = Y at *
      obtain ⟨N, hN⟩ : ∃ N, Y.length = N := ⟨_, rfl⟩
      rw [hN] at CT CS
      generalize tdC k l = kk at *
      clear hI CP hN hk hq
      have hfd := field_code (.int .i64 kk)
      go_wp2_with fail
      refine (CT.out _ R).mono ?_
      rintro e w2 ⟨c2, d2, rfl, O2, b2⟩
      have S2 := b2.size
      replace R := R.kept b2
      replace B := thenB B b2
      clear b2
      have Bo := B
      replace R := R.kept (belowA w2 (.cells #[.int .i64 kk, .slice c2 N d2] 31))
      replace B := thenB B (belowA w2 (.cells #[.int .i64 kk, .slice c2 N d2] 31))
      have V4 := V.new w2 [.int .i64 kk, .slice c2 N d2] 31
      have K : ∀ w' : World, Below ((w2.alloc (.cells #[.int .i64 kk, .slice c2 N d2] 31))).heap.size (w2.alloc (.cells #[.int .i64 kk, .slice c2 N d2] 31)) w' → w'.cell? ⟨w2.heap.size, 0, none⟩ = some (.int .i64 kk) := fun w' h => (V4.kept h).2.1 0 (by simp)
      have K := Hid.mk K
      go_wp2_with fail
      go_region_held3 (fun w' => w'.cell? ⟨w2.heap.size, 0, none⟩ = some (.int .i64 kk)) (first | exact K.out _ (thenB (Below.refl _ _).drew b3) | exact K.out _ (Below.refl _ _).drew) ((go_at_call 18; refine (CS.out _ (R.kept (Below.refl _ _).drew)).mono ?_; rintro e w3 ⟨c3, d3, rfl, O3, b3⟩))
      have B3 := thenB B (thenB (Below.refl _ _).drew b3)
      go_wp2
      go_ret
      exact ⟨rfl, B3⟩
  · go_enter Try.func4, Try.ntmps4
    go_wp2_with (first | (go_at_call 5; go_in) | fail)
    go_ret
    exact ⟨rfl, Below.refl _ _⟩

end Go.Proofs.Ythjaehcfakjemaa
