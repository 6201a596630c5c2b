/- The law FnPackets: its walk (written by gen_xpackets.py). -/
import Derived.Test.YthjaehcfakjemaaDrawB
import Derived.Test.YthjaehcfakjemaaXTtls
import Derived.Deep.QuietTactic
import Derived.BigQuiet
namespace Go.Proofs.Ythjaehcfakjemaa
open Go.RowKit
set_option maxRecDepth 40000

theorem field_bytes (k v : Value) (w : World) : (Instr.field 31 (.agg #[k, v]) 1).run Try.prog w = .ok v w := by kernel_rfl

theorem field_pcode (a b c d e f g h : Value) (w : World) : (Instr.field 28 (.agg #[a, b, c, d, e, f, g, h]) 0).run Try.prog w = .ok a w := by kernel_rfl

theorem field_packet (a b c d e f g h : Value) (w : World) : (Instr.field 28 (.agg #[a, b, c, d, e, f, g, h]) 1).run Try.prog w = .ok (.agg #[b, c, d, e, f, g, h]) w := by kernel_rfl

set_option maxRecDepth 20000 in
set_option maxHeartbeats 8000000 in
theorem xPackets_walk (a : Option Addr) (n ca : Nat) (xs : List Int) (w : World) (hR : Rd .u8 w a xs) (hB : Bytes xs) (hn : xs.length = n) :
    Calls Try.prog 3 #[.slice a n ca] w fun e w' => e = .returned (.bool true) ∧ Below w.heap.size w w' := by
  by_cases hbig : (n : Int) ≤ 1048576
  · go_enter Try.func3, Try.ntmps3
    go_wp2_with (first | (go_at_call 5; go_in) | fail)
    refine (drawParsePacket_ok a n ca xs _ hR hB hn (by omega)).mono ?_
    rintro e w1 ⟨g, d, m, ys, rfl, hm, hm2, hmd, hyb, R, B⟩
    obtain ⟨k, F, T, r, l, x, y, zs, hI⟩ := psIs_ex ys
    have hzl : zs.length ≤ m := by rw [← hI.2.2.2.2.2.2.2]; refine Nat.le_trans (zl_len _ _) ?_; rw [List.length_drop, hm]; omega
    obtain ⟨q, hq⟩ : ∃ q, zs.length = q := ⟨_, rfl⟩
    have CS := Hid.mk (fun w h => specParsePacket_ok (some ⟨g, 0, none⟩) m d ys k F T r l x y zs q hI hq w h hyb hm (by omega) hmd)
    have CP := Hid.mk (fun w h => implParsePacket_ok (some ⟨g, 0, none⟩) m d ys k F T r l x y zs q hI hq w h hyb hm (by omega) hmd)
    by_cases hk : k = 0
    · skip
      subst hk
      obtain ⟨hF, hT, hr, hl, hx0, hy0, hp, hq2⟩ := ps_right hI hyb
      have hzb : Bytes zs := by rw [← hI.2.2.2.2.2.2.2, zl_0]; exact fun z hz => hyb z (List.mem_of_mem_drop hz)
      have hI2 := build_read F T r l x y zs hzb hF hT hr hl hx0 hy0 hp hq2
      have hle := length_buildP F T r l x y zs
      have hpl := portP_len r x y
      have hYb := buildP_bytes (f := F) (t := T) (r := r) (l := l) (x := x) (y := y) (xs := zs) (by omega) (by omega) hzb
      have hpf : pfC F T r l x y q = 0 := pfC_right hF hT hr hl hx0 hy0 hp (by omega)
      have CB0 := Hid.mk (fun c d w h h' => implBuildPacket_ok F T r l x y c q d zs w h hq h')
      have CF0 := Hid.mk (fun c d w => implPacketFault_ok F T r l x y c q d w)
      rw [hpf] at CB0 CF0
      simp only [zl_0] at CB0
      generalize buildP F T r l x y zs = Y at *
      obtain ⟨N, hN⟩ : ∃ N, Y.length = N := ⟨_, rfl⟩
      rw [hN] at CB0 hle
      have CQ := Hid.mk (fun c d w h h' => implParsePacket_ok c N d Y 0 F T r l x y zs q hI2 hq w h hYb hN (by omega) h')
      have HN := Hid.mk hN
      have HQ := Hid.mk hq
      have hsame := sameP_self F T r l x y zs
      have hfb := field_bytes
      clear hN hle hI hI2 CS hq hpf
      go_wp2_with fail
      refine (CP.out _ R).mono ?_
      rintro e w2 ⟨c3, d3, rfl, O3, b2⟩
      have S2 := b2.size
      replace R := R.kept b2
      replace B := thenB B b2
      clear b2
      have Bo := B
      replace R := R.kept (belowA w2 (.cells #[.int .i64 0, .int .i64 F, .int .i64 T, .int .i64 r, .int .i64 l, .int .i64 x, .int .i64 y, .slice c3 q d3] 28))
      replace O3 := O3.kept (belowA w2 (.cells #[.int .i64 0, .int .i64 F, .int .i64 T, .int .i64 r, .int .i64 l, .int .i64 x, .int .i64 y, .slice c3 q d3] 28))
      replace B := thenB B (belowA w2 (.cells #[.int .i64 0, .int .i64 F, .int .i64 T, .int .i64 r, .int .i64 l, .int .i64 x, .int .i64 y, .slice c3 q d3] 28))
      have V4 := V.new w2 [.int .i64 0, .int .i64 F, .int .i64 T, .int .i64 r, .int .i64 l, .int .i64 x, .int .i64 y, .slice c3 q d3] 28
      go_wp2_with fail
      go_quiet (fail)
      have bq := belowN (Below.refl ((w2.alloc (.cells #[.int .i64 0, .int .i64 F, .int .i64 T, .int .i64 r, .int .i64 l, .int .i64 x, .int .i64 y, .slice c3 q d3] 28))).heap.size (w2.alloc (.cells #[.int .i64 0, .int .i64 F, .int .i64 T, .int .i64 r, .int .i64 l, .int .i64 x, .int .i64 y, .slice c3 q d3] 28))) nq
      replace V4 := V4.kept bq
      replace R := R.kept bq
      replace O3 := O3.kept bq
      replace B := thenB B bq
      have Sq := bq.size
      simp only [World.size_alloc] at Sq
      clear bq
      generalize World.drewN (w2.alloc (.cells #[.int .i64 0, .int .i64 F, .int .i64 T, .int .i64 r, .int .i64 l, .int .i64 x, .int .i64 y, .slice c3 q d3] 28)) nq = wq at *
      obtain ⟨s_V4, f_V4, z_V4⟩ := V4.open
      have Bo := B
      go_wp2_with fail
      refine (CB0.out c3 d3 _ O3.rd O3.nocap).mono ?_
      rintro e w3 ⟨c4, d4, rfl, O4, b3⟩
      clear s_V4 f_V4 z_V4
      have S3 := b3.size
      replace V4 := V4.kept b3
      replace R := R.kept b3
      replace O3 := O3.kept b3
      replace B := thenB B b3
      clear b3
      obtain ⟨s_V4, f_V4, z_V4⟩ := V4.open
      have Bo := B
      have hc4 := O4.cap
      rw [HN.out] at hc4
      go_wp2_with fail
      refine (CQ.out c4 d4 _ O4.rd hc4).mono ?_
      rintro e w4 ⟨c6, d6, rfl, O6, b4⟩
      clear s_V4 f_V4 z_V4
      have S4 := b4.size
      replace V4 := V4.kept b4
      replace R := R.kept b4
      replace O3 := O3.kept b4
      replace O4 := O4.kept b4
      replace B := thenB B b4
      clear b4
      obtain ⟨s_V4, f_V4, z_V4⟩ := V4.open
      have Bo := B
      replace V4 := V4.kept (belowA w4 (.cells #[.int .i64 0, .int .i64 F, .int .i64 T, .int .i64 r, .int .i64 l, .int .i64 x, .int .i64 y, .slice c6 q d6] 28))
      replace R := R.kept (belowA w4 (.cells #[.int .i64 0, .int .i64 F, .int .i64 T, .int .i64 r, .int .i64 l, .int .i64 x, .int .i64 y, .slice c6 q d6] 28))
      replace O3 := O3.kept (belowA w4 (.cells #[.int .i64 0, .int .i64 F, .int .i64 T, .int .i64 r, .int .i64 l, .int .i64 x, .int .i64 y, .slice c6 q d6] 28))
      replace O4 := O4.kept (belowA w4 (.cells #[.int .i64 0, .int .i64 F, .int .i64 T, .int .i64 r, .int .i64 l, .int .i64 x, .int .i64 y, .slice c6 q d6] 28))
      replace O6 := O6.kept (belowA w4 (.cells #[.int .i64 0, .int .i64 F, .int .i64 T, .int .i64 r, .int .i64 l, .int .i64 x, .int .i64 y, .slice c6 q d6] 28))
      replace B := thenB B (belowA w4 (.cells #[.int .i64 0, .int .i64 F, .int .i64 T, .int .i64 r, .int .i64 l, .int .i64 x, .int .i64 y, .slice c6 q d6] 28))
      have V5 := V.new w4 [.int .i64 0, .int .i64 F, .int .i64 T, .int .i64 r, .int .i64 l, .int .i64 x, .int .i64 y, .slice c6 q d6] 28
      go_wp2_with fail
      refine (CF0.out c3 d3 _).mono ?_
      rintro e w5 ⟨rfl, b5⟩
      clear s_V4 f_V4 z_V4
      have S5 := b5.size
      simp only [World.size_alloc] at S5
      replace V4 := V4.kept b5
      replace V5 := V5.kept b5
      replace R := R.kept b5
      replace O3 := O3.kept b5
      replace O4 := O4.kept b5
      replace O6 := O6.kept b5
      replace B := thenB B b5
      clear b5
      obtain ⟨s_V4, f_V4, z_V4⟩ := V4.open
      obtain ⟨s_V5, f_V5, z_V5⟩ := V5.open
      have Bo := B
      go_wp2_with fail
      refine (implSamePacket_ok F T r l x y F T r l x y c6 c3 q q d6 d3 zs zs _ O6.rd O3.rd O6.noSpot O3.noSpot HQ.out HQ.out).mono ?_
      rintro e w6 ⟨rfl, b6⟩
      clear s_V4 f_V4 z_V4 s_V5 f_V5 z_V5
      have S6 := b6.size
      replace V4 := V4.kept b6
      replace V5 := V5.kept b6
      replace R := R.kept b6
      replace O3 := O3.kept b6
      replace O4 := O4.kept b6
      replace O6 := O6.kept b6
      replace B := thenB B b6
      clear b6
      obtain ⟨s_V4, f_V4, z_V4⟩ := V4.open
      obtain ⟨s_V5, f_V5, z_V5⟩ := V5.open
      have Bo := B
      rw [hsame]
      have hRb := hR.kept B
      clear V4
      clear V5
      go_wp2_with fail
      refine (drawBuildPacket_ok a n ca xs _ hRb hB hn (by omega)).mono ?_
      rintro e w7 ⟨f, t', r5, l5, x5, y5, c5, d5, m5, zs5, rfl, h5, hm5, hzb5, R5, _, b7⟩
      clear s_V4 f_V4 z_V4 s_V5 f_V5 z_V5
      have S7 := b7.size
      replace B := thenB B b7
      clear b7
      have Bo := B
      replace R5 := R5.kept (belowA w7 (.cells #[.int .i64 f, .int .i64 t', .int .i64 r5, .int .i64 l5, .int .i64 x5, .int .i64 y5, .slice (some ⟨c5, 0, none⟩) m5 d5] 26))
      replace B := thenB B (belowA w7 (.cells #[.int .i64 f, .int .i64 t', .int .i64 r5, .int .i64 l5, .int .i64 x5, .int .i64 y5, .slice (some ⟨c5, 0, none⟩) m5 d5] 26))
      have V6 := V.new w7 [.int .i64 f, .int .i64 t', .int .i64 r5, .int .i64 l5, .int .i64 x5, .int .i64 y5, .slice (some ⟨c5, 0, none⟩) m5 d5] 26
      have CB := Hid.mk (fun w h => implBuildPacket_ok f t' r5 l5 x5 y5 (some ⟨c5, 0, none⟩) m5 d5 zs5 w h h5 (fun h => by cases h))
      have CF := Hid.mk (fun w => specPacketFault_ok f t' r5 l5 x5 y5 (some ⟨c5, 0, none⟩) m5 d5 w)
      have CR := Hid.mk (fun w h => implReverseWay_ok f t' r5 l5 x5 y5 (some ⟨c5, 0, none⟩) m5 d5 zs5 w h h5)
      by_cases hk5 : pfC f t' r5 l5 x5 y5 m5 = 0
      · skip
        obtain ⟨hfit, hports, hn2⟩ := pfC_zero hk5
        obtain ⟨q1, q2, q3, q4, q5, q6⟩ := fitP_iff.1 hfit
        have hk6 : pfC t' f r5 l5 y5 x5 m5 = 0 := pfC_right q2 q1 q3 q4 q6 q5 (fun h => ⟨(hports h).2, (hports h).1⟩) hn2
        have CR2 := Hid.mk (fun c d w h => implReverseWay_ok t' f r5 l5 y5 x5 c m5 d zs5 w h h5)
        have hI5 := build_read f t' r5 l5 x5 y5 zs5 hzb5 q1 q2 q3 q4 q5 q6 hports (by omega)
        have hle5 := length_buildP f t' r5 l5 x5 y5 zs5
        have hpl5 := portP_len r5 x5 y5
        have hYb5 := buildP_bytes (f := f) (t := t') (r := r5) (l := l5) (x := x5) (y := y5) (xs := zs5) (by omega) (by omega) hzb5
        have hsum5 : (sumWords ((buildP f t' r5 l5 x5 y5 zs5).take 20) == 0) = true := by
          have hd := hI5.1
          rcases ps_cases (buildP f t' r5 l5 x5 y5 zs5) with ⟨_, h⟩ | ⟨_, _, h⟩ | ⟨_, h, _⟩ | ⟨_, h, _⟩ | ⟨_, h, _⟩ | ⟨_, h, _⟩ | ⟨_, h, _⟩ | ⟨_, h, _⟩
          · rw [h.out] at hd; cases hd
          · rw [h.out] at hd; cases hd
          all_goals exact h
        rw [hk5] at CB CR
        rw [hk6] at CR2
        simp only [zl_0, z0_0] at CB CR CR2
        rw [h5] at CR CR2
        generalize buildP f t' r5 l5 x5 y5 zs5 = Y5 at *
        obtain ⟨N5, hN5⟩ : ∃ N5, Y5.length = N5 := ⟨_, rfl⟩
        rw [hN5] at CB hle5
        have CQ5 := Hid.mk (fun c d w h h' => implParsePacket_ok c N5 d Y5 0 f t' r5 l5 x5 y5 zs5 m5 hI5 h5 w h hYb5 hN5 (by omega) h')
        have hl20 := Hid.mk (show (Y5.take 20).length = 20 by rw [List.length_take, hN5]; omega)
        have HN5 := Hid.mk hN5
        have H5 := Hid.mk h5
        have hsame5 := sameP_self f t' r5 l5 x5 y5 zs5
        have hN20 : (20 : Int) ≤ (N5 : Int) := by omega
        clear hN5 hle5 hI5 hk5 hk6 CF h5 hfit
        go_wp2_with fail
        refine (CB.out _ R5).mono ?_
        rintro e w8 ⟨c7, d7, rfl, O7, b8⟩
        have S8 := b8.size
        simp only [World.size_alloc] at S8
        replace V6 := V6.kept b8
        replace R5 := R5.kept b8
        replace B := thenB B b8
        clear b8
        obtain ⟨s_V6, f_V6, z_V6⟩ := V6.open
        have Bo := B
        have hc7 := O7.cap
        rw [HN5.out] at hc7
        have hd20 : (20 : Int) ≤ (d7 : Int) := by omega
        replace V6 := V6.kept (belowA w8 (.cells #[.int .i64 0, .slice c7 N5 d7] 31))
        replace R5 := R5.kept (belowA w8 (.cells #[.int .i64 0, .slice c7 N5 d7] 31))
        replace O7 := O7.kept (belowA w8 (.cells #[.int .i64 0, .slice c7 N5 d7] 31))
        replace B := thenB B (belowA w8 (.cells #[.int .i64 0, .slice c7 N5 d7] 31))
        have V7 := V.new w8 [.int .i64 0, .slice c7 N5 d7] 31
        go_wp2_with fail
        refine (CQ5.out c7 d7 _ O7.rd hc7).mono ?_
        rintro e w9 ⟨c8, d8, rfl, O8, b9⟩
        clear s_V6 f_V6 z_V6
        have S9 := b9.size
        simp only [World.size_alloc] at S9
        replace V6 := V6.kept b9
        replace V7 := V7.kept b9
        replace R5 := R5.kept b9
        replace O7 := O7.kept b9
        replace B := thenB B b9
        clear b9
        obtain ⟨s_V6, f_V6, z_V6⟩ := V6.open
        obtain ⟨s_V7, f_V7, z_V7⟩ := V7.open
        have Bo := B
        replace V6 := V6.kept (belowA w9 (.cells #[.int .i64 0, .int .i64 f, .int .i64 t', .int .i64 r5, .int .i64 l5, .int .i64 x5, .int .i64 y5, .slice c8 m5 d8] 28))
        replace V7 := V7.kept (belowA w9 (.cells #[.int .i64 0, .int .i64 f, .int .i64 t', .int .i64 r5, .int .i64 l5, .int .i64 x5, .int .i64 y5, .slice c8 m5 d8] 28))
        replace R5 := R5.kept (belowA w9 (.cells #[.int .i64 0, .int .i64 f, .int .i64 t', .int .i64 r5, .int .i64 l5, .int .i64 x5, .int .i64 y5, .slice c8 m5 d8] 28))
        replace O7 := O7.kept (belowA w9 (.cells #[.int .i64 0, .int .i64 f, .int .i64 t', .int .i64 r5, .int .i64 l5, .int .i64 x5, .int .i64 y5, .slice c8 m5 d8] 28))
        replace O8 := O8.kept (belowA w9 (.cells #[.int .i64 0, .int .i64 f, .int .i64 t', .int .i64 r5, .int .i64 l5, .int .i64 x5, .int .i64 y5, .slice c8 m5 d8] 28))
        replace B := thenB B (belowA w9 (.cells #[.int .i64 0, .int .i64 f, .int .i64 t', .int .i64 r5, .int .i64 l5, .int .i64 x5, .int .i64 y5, .slice c8 m5 d8] 28))
        have V8 := V.new w9 [.int .i64 0, .int .i64 f, .int .i64 t', .int .i64 r5, .int .i64 l5, .int .i64 x5, .int .i64 y5, .slice c8 m5 d8] 28
        go_wp2_with fail
        refine (CR.out _ R5).mono ?_
        rintro e w10 ⟨c9, d9, rfl, O9, b10⟩
        clear s_V6 f_V6 z_V6 s_V7 f_V7 z_V7
        have S10 := b10.size
        simp only [World.size_alloc] at S10
        replace V6 := V6.kept b10
        replace V7 := V7.kept b10
        replace V8 := V8.kept b10
        replace R5 := R5.kept b10
        replace O7 := O7.kept b10
        replace O8 := O8.kept b10
        replace B := thenB B b10
        clear b10
        obtain ⟨s_V6, f_V6, z_V6⟩ := V6.open
        obtain ⟨s_V7, f_V7, z_V7⟩ := V7.open
        obtain ⟨s_V8, f_V8, z_V8⟩ := V8.open
        have Bo := B
        replace V6 := V6.kept (belowA w10 (.cells #[.int .i64 0, .int .i64 t', .int .i64 f, .int .i64 r5, .int .i64 l5, .int .i64 y5, .int .i64 x5, .slice c9 m5 d9] 28))
        replace V7 := V7.kept (belowA w10 (.cells #[.int .i64 0, .int .i64 t', .int .i64 f, .int .i64 r5, .int .i64 l5, .int .i64 y5, .int .i64 x5, .slice c9 m5 d9] 28))
        replace V8 := V8.kept (belowA w10 (.cells #[.int .i64 0, .int .i64 t', .int .i64 f, .int .i64 r5, .int .i64 l5, .int .i64 y5, .int .i64 x5, .slice c9 m5 d9] 28))
        replace R5 := R5.kept (belowA w10 (.cells #[.int .i64 0, .int .i64 t', .int .i64 f, .int .i64 r5, .int .i64 l5, .int .i64 y5, .int .i64 x5, .slice c9 m5 d9] 28))
        replace O7 := O7.kept (belowA w10 (.cells #[.int .i64 0, .int .i64 t', .int .i64 f, .int .i64 r5, .int .i64 l5, .int .i64 y5, .int .i64 x5, .slice c9 m5 d9] 28))
        replace O8 := O8.kept (belowA w10 (.cells #[.int .i64 0, .int .i64 t', .int .i64 f, .int .i64 r5, .int .i64 l5, .int .i64 y5, .int .i64 x5, .slice c9 m5 d9] 28))
        replace O9 := O9.kept (belowA w10 (.cells #[.int .i64 0, .int .i64 t', .int .i64 f, .int .i64 r5, .int .i64 l5, .int .i64 y5, .int .i64 x5, .slice c9 m5 d9] 28))
        replace B := thenB B (belowA w10 (.cells #[.int .i64 0, .int .i64 t', .int .i64 f, .int .i64 r5, .int .i64 l5, .int .i64 y5, .int .i64 x5, .slice c9 m5 d9] 28))
        have V9 := V.new w10 [.int .i64 0, .int .i64 t', .int .i64 f, .int .i64 r5, .int .i64 l5, .int .i64 y5, .int .i64 x5, .slice c9 m5 d9] 28
        have hfp := field_packet
        have HO7 := Hid.mk O7
        have HO8 := Hid.mk O8
        have HO9 := Hid.mk O9
        have HR5 := Hid.mk R5
        clear O7 O8 O9 R5
        go_wp2_with fail
        have K : ∀ w' : World, Below ((w10.alloc (.cells #[.int .i64 0, .int .i64 t', .int .i64 f, .int .i64 r5, .int .i64 l5, .int .i64 y5, .int .i64 x5, .slice c9 m5 d9] 28))).heap.size (w10.alloc (.cells #[.int .i64 0, .int .i64 t', .int .i64 f, .int .i64 r5, .int .i64 l5, .int .i64 y5, .int .i64 x5, .slice c9 m5 d9] 28)) w' → (w'.cell? ⟨w9.heap.size, 0, none⟩ = some (.int .i64 0) ∧ w'.cell? ⟨w9.heap.size, 1, none⟩ = some (.int .i64 f) ∧ w'.cell? ⟨w9.heap.size, 2, none⟩ = some (.int .i64 t') ∧ w'.cell? ⟨w9.heap.size, 3, none⟩ = some (.int .i64 r5) ∧ w'.cell? ⟨w9.heap.size, 4, none⟩ = some (.int .i64 l5) ∧ w'.cell? ⟨w9.heap.size, 5, none⟩ = some (.int .i64 x5) ∧ w'.cell? ⟨w9.heap.size, 6, none⟩ = some (.int .i64 y5) ∧ w'.cell? ⟨w9.heap.size, 7, none⟩ = some (.slice c8 m5 d8) ∧ w'.cell? ⟨w7.heap.size, 0, none⟩ = some (.int .i64 f) ∧ w'.cell? ⟨w7.heap.size, 1, none⟩ = some (.int .i64 t') ∧ w'.cell? ⟨w7.heap.size, 2, none⟩ = some (.int .i64 r5) ∧ w'.cell? ⟨w7.heap.size, 3, none⟩ = some (.int .i64 l5) ∧ w'.cell? ⟨w7.heap.size, 4, none⟩ = some (.int .i64 x5) ∧ w'.cell? ⟨w7.heap.size, 5, none⟩ = some (.int .i64 y5) ∧ w'.cell? ⟨w7.heap.size, 6, none⟩ = some (.slice (some ⟨c5, 0, none⟩) m5 d5) ∧ w'.cell? ⟨w10.heap.size, 0, none⟩ = some (.int .i64 0) ∧ w'.cell? ⟨w10.heap.size, 1, none⟩ = some (.int .i64 t') ∧ w'.cell? ⟨w10.heap.size, 2, none⟩ = some (.int .i64 f) ∧ w'.cell? ⟨w10.heap.size, 3, none⟩ = some (.int .i64 r5) ∧ w'.cell? ⟨w10.heap.size, 4, none⟩ = some (.int .i64 l5) ∧ w'.cell? ⟨w10.heap.size, 5, none⟩ = some (.int .i64 y5) ∧ w'.cell? ⟨w10.heap.size, 6, none⟩ = some (.int .i64 x5) ∧ w'.cell? ⟨w10.heap.size, 7, none⟩ = some (.slice c9 m5 d9) ∧ w'.cell? ⟨w8.heap.size, 1, none⟩ = some (.slice c7 N5 d7)) := fun w' h => ⟨(V8.kept h).2.1 0 (by simp), (V8.kept h).2.1 1 (by simp), (V8.kept h).2.1 2 (by simp), (V8.kept h).2.1 3 (by simp), (V8.kept h).2.1 4 (by simp), (V8.kept h).2.1 5 (by simp), (V8.kept h).2.1 6 (by simp), (V8.kept h).2.1 7 (by simp), (V6.kept h).2.1 0 (by simp), (V6.kept h).2.1 1 (by simp), (V6.kept h).2.1 2 (by simp), (V6.kept h).2.1 3 (by simp), (V6.kept h).2.1 4 (by simp), (V6.kept h).2.1 5 (by simp), (V6.kept h).2.1 6 (by simp), (V9.kept h).2.1 0 (by simp), (V9.kept h).2.1 1 (by simp), (V9.kept h).2.1 2 (by simp), (V9.kept h).2.1 3 (by simp), (V9.kept h).2.1 4 (by simp), (V9.kept h).2.1 5 (by simp), (V9.kept h).2.1 6 (by simp), (V9.kept h).2.1 7 (by simp), (V7.kept h).2.1 1 (by simp)⟩
        have K := Hid.mk K
        go_region_held3 (fun w' => w'.cell? ⟨w9.heap.size, 0, none⟩ = some (.int .i64 0) ∧ w'.cell? ⟨w9.heap.size, 1, none⟩ = some (.int .i64 f) ∧ w'.cell? ⟨w9.heap.size, 2, none⟩ = some (.int .i64 t') ∧ w'.cell? ⟨w9.heap.size, 3, none⟩ = some (.int .i64 r5) ∧ w'.cell? ⟨w9.heap.size, 4, none⟩ = some (.int .i64 l5) ∧ w'.cell? ⟨w9.heap.size, 5, none⟩ = some (.int .i64 x5) ∧ w'.cell? ⟨w9.heap.size, 6, none⟩ = some (.int .i64 y5) ∧ w'.cell? ⟨w9.heap.size, 7, none⟩ = some (.slice c8 m5 d8) ∧ w'.cell? ⟨w7.heap.size, 0, none⟩ = some (.int .i64 f) ∧ w'.cell? ⟨w7.heap.size, 1, none⟩ = some (.int .i64 t') ∧ w'.cell? ⟨w7.heap.size, 2, none⟩ = some (.int .i64 r5) ∧ w'.cell? ⟨w7.heap.size, 3, none⟩ = some (.int .i64 l5) ∧ w'.cell? ⟨w7.heap.size, 4, none⟩ = some (.int .i64 x5) ∧ w'.cell? ⟨w7.heap.size, 5, none⟩ = some (.int .i64 y5) ∧ w'.cell? ⟨w7.heap.size, 6, none⟩ = some (.slice (some ⟨c5, 0, none⟩) m5 d5) ∧ w'.cell? ⟨w10.heap.size, 0, none⟩ = some (.int .i64 0) ∧ w'.cell? ⟨w10.heap.size, 1, none⟩ = some (.int .i64 t') ∧ w'.cell? ⟨w10.heap.size, 2, none⟩ = some (.int .i64 f) ∧ w'.cell? ⟨w10.heap.size, 3, none⟩ = some (.int .i64 r5) ∧ w'.cell? ⟨w10.heap.size, 4, none⟩ = some (.int .i64 l5) ∧ w'.cell? ⟨w10.heap.size, 5, none⟩ = some (.int .i64 y5) ∧ w'.cell? ⟨w10.heap.size, 6, none⟩ = some (.int .i64 x5) ∧ w'.cell? ⟨w10.heap.size, 7, none⟩ = some (.slice c9 m5 d9) ∧ w'.cell? ⟨w8.heap.size, 1, none⟩ = some (.slice c7 N5 d7)) (first | exact K.out _ (thenB (thenB (thenB (thenB (Below.refl _ _).drew be1) be2) be3) be4) | exact K.out _ (thenB (thenB (thenB (Below.refl _ _).drew be1) be2) be3) | exact K.out _ (thenB (thenB (Below.refl _ _).drew be1) be2) | exact K.out _ (thenB (Below.refl _ _).drew be1) | exact K.out _ (Below.refl _ _).drew) (first | (go_at_call 15; have hz := be3; clear hz; refine (implCheckWords_ok c7 20 d7 (Y5.take 20) _ (((((Rd.take HO7.out.rd 20).kept (Below.refl _ _).drew).kept be1).kept be2).kept be3) (bytes_take hYb5 20) hl20.out (by omega)).mono ?_; rintro e we4 ⟨rfl, be4⟩; (try rw [hsum5])) | (go_at_call 11; have hz := be2; clear hz; refine (implSamePacket_ok f t' r5 l5 x5 y5 f t' r5 l5 x5 y5 cr (some ⟨c5, 0, none⟩) m5 m5 dr d5 zs5 zs5 _ Or.rd ((((HR5.out.kept (Below.refl _ _).drew).kept be1).kept be2)) Or.noSpot (by intro z hz; simp at hz; subst hz; rfl) H5.out H5.out).mono ?_; rintro e we3 ⟨rfl, be3⟩; (try rw [hsame5])) | (go_at_call 14; have hz := be1; clear hz; refine (CR2.out c9 d9 _ (((HO9.out.kept (Below.refl _ _).drew).kept be1).rd)).mono ?_; rintro e we2 ⟨cr, dr, rfl, Or, be2⟩) | (go_at_call 11; refine (implSamePacket_ok f t' r5 l5 x5 y5 f t' r5 l5 x5 y5 c8 (some ⟨c5, 0, none⟩) m5 m5 d8 d5 zs5 zs5 _ (HO8.out.kept (Below.refl _ _).drew).rd (HR5.out.kept (Below.refl _ _).drew) HO8.out.noSpot (by intro z hz; simp at hz; subst hz; rfl) H5.out H5.out).mono ?_; rintro e we1 ⟨rfl, be1⟩; (try rw [hsame5])))
        have BB := thenB B (thenB (thenB (thenB (thenB (Below.refl _ _).drew be1) be2) be3) be4)
        go_wp2
        go_ret
        exact ⟨rfl, BB⟩
      · skip
        have hk6 : (pfC f t' r5 l5 x5 y5 m5 != 0) = true := by simp [hk5]
        generalize zl (pfC f t' r5 l5 x5 y5 m5) (buildP f t' r5 l5 x5 y5 zs5) = Y5 at *
        obtain ⟨N5, hN5⟩ : ∃ N5, Y5.length = N5 := ⟨_, rfl⟩
        rw [hN5] at CB
        clear CR
        generalize pfC f t' r5 l5 x5 y5 m5 = kk at *
        go_wp2_with fail
        refine (CB.out _ R5).mono ?_
        rintro e w8 ⟨c7, d7, rfl, O7, b8⟩
        have S8 := b8.size
        simp only [World.size_alloc] at S8
        replace V6 := V6.kept b8
        replace R5 := R5.kept b8
        replace B := thenB B b8
        clear b8
        obtain ⟨s_V6, f_V6, z_V6⟩ := V6.open
        have Bo := B
        replace V6 := V6.kept (belowA w8 (.cells #[.int .i64 kk, .slice c7 N5 d7] 31))
        replace R5 := R5.kept (belowA w8 (.cells #[.int .i64 kk, .slice c7 N5 d7] 31))
        replace B := thenB B (belowA w8 (.cells #[.int .i64 kk, .slice c7 N5 d7] 31))
        have V7 := V.new w8 [.int .i64 kk, .slice c7 N5 d7] 31
        go_wp2_with fail
        have K : ∀ w' : World, Below ((w8.alloc (.cells #[.int .i64 kk, .slice c7 N5 d7] 31))).heap.size (w8.alloc (.cells #[.int .i64 kk, .slice c7 N5 d7] 31)) w' → (w'.cell? ⟨w7.heap.size, 0, none⟩ = some (.int .i64 f) ∧ w'.cell? ⟨w7.heap.size, 1, none⟩ = some (.int .i64 t') ∧ w'.cell? ⟨w7.heap.size, 2, none⟩ = some (.int .i64 r5) ∧ w'.cell? ⟨w7.heap.size, 3, none⟩ = some (.int .i64 l5) ∧ w'.cell? ⟨w7.heap.size, 4, none⟩ = some (.int .i64 x5) ∧ w'.cell? ⟨w7.heap.size, 5, none⟩ = some (.int .i64 y5) ∧ w'.cell? ⟨w7.heap.size, 6, none⟩ = some (.slice (some ⟨c5, 0, none⟩) m5 d5) ∧ w'.cell? ⟨w8.heap.size, 0, none⟩ = some (.int .i64 kk)) := fun w' h => ⟨(V6.kept h).2.1 0 (by simp), (V6.kept h).2.1 1 (by simp), (V6.kept h).2.1 2 (by simp), (V6.kept h).2.1 3 (by simp), (V6.kept h).2.1 4 (by simp), (V6.kept h).2.1 5 (by simp), (V6.kept h).2.1 6 (by simp), (V7.kept h).2.1 0 (by simp)⟩
        have K := Hid.mk K
        go_region_held3 (fun w' => w'.cell? ⟨w7.heap.size, 0, none⟩ = some (.int .i64 f) ∧ w'.cell? ⟨w7.heap.size, 1, none⟩ = some (.int .i64 t') ∧ w'.cell? ⟨w7.heap.size, 2, none⟩ = some (.int .i64 r5) ∧ w'.cell? ⟨w7.heap.size, 3, none⟩ = some (.int .i64 l5) ∧ w'.cell? ⟨w7.heap.size, 4, none⟩ = some (.int .i64 x5) ∧ w'.cell? ⟨w7.heap.size, 5, none⟩ = some (.int .i64 y5) ∧ w'.cell? ⟨w7.heap.size, 6, none⟩ = some (.slice (some ⟨c5, 0, none⟩) m5 d5) ∧ w'.cell? ⟨w8.heap.size, 0, none⟩ = some (.int .i64 kk)) (first | exact K.out _ (thenB (Below.refl _ _).drew be1) | exact K.out _ (Below.refl _ _).drew) ((go_at_call 13; refine (CF.out _).mono ?_; rintro e we1 ⟨rfl, be1⟩))
        have BB := thenB B (thenB (Below.refl _ _).drew be1)
        go_wp2
        go_ret
        exact ⟨rfl, BB⟩
    · skip
      have hk1 : (k != 0) = true := by simp [hk]
      have hk2 : (k == 0) = false := by simp [hk]
      have hpc := field_pcode
      go_wp2_with fail
      refine (CP.out _ R).mono ?_
      rintro e w2 ⟨c3, d3, rfl, O3, b2⟩
      have S2 := b2.size
      replace R := R.kept b2
      replace B := thenB B b2
      clear b2
      have Bo := B
      replace R := R.kept (belowA w2 (.cells #[.int .i64 k, .int .i64 F, .int .i64 T, .int .i64 r, .int .i64 l, .int .i64 x, .int .i64 y, .slice c3 q d3] 28))
      replace O3 := O3.kept (belowA w2 (.cells #[.int .i64 k, .int .i64 F, .int .i64 T, .int .i64 r, .int .i64 l, .int .i64 x, .int .i64 y, .slice c3 q d3] 28))
      replace B := thenB B (belowA w2 (.cells #[.int .i64 k, .int .i64 F, .int .i64 T, .int .i64 r, .int .i64 l, .int .i64 x, .int .i64 y, .slice c3 q d3] 28))
      have V4 := V.new w2 [.int .i64 k, .int .i64 F, .int .i64 T, .int .i64 r, .int .i64 l, .int .i64 x, .int .i64 y, .slice c3 q d3] 28
      go_wp2_with fail
      have K : ∀ w' : World, Below ((w2.alloc (.cells #[.int .i64 k, .int .i64 F, .int .i64 T, .int .i64 r, .int .i64 l, .int .i64 x, .int .i64 y, .slice c3 q d3] 28))).heap.size (w2.alloc (.cells #[.int .i64 k, .int .i64 F, .int .i64 T, .int .i64 r, .int .i64 l, .int .i64 x, .int .i64 y, .slice c3 q d3] 28)) w' → (w'.cell? ⟨w2.heap.size, 0, none⟩ = some (.int .i64 k)) := fun w' h => (V4.kept h).2.1 0 (by simp)
      have K := Hid.mk K
      go_region_held3 (fun w' => w'.cell? ⟨w2.heap.size, 0, none⟩ = some (.int .i64 k)) (first | exact K.out _ (thenB (Below.refl _ _).drew be0) | exact K.out _ (Below.refl _ _).drew) ((go_at_call 8; refine (CS.out _ (R.kept (Below.refl _ _).drew)).mono ?_; rintro e we0 ⟨c4, d4, rfl, O4, be0⟩))
      have bq := (thenB (Below.refl _ _).drew be0)
      replace V4 := V4.kept bq
      replace R := R.kept bq
      replace O3 := O3.kept bq
      replace B := thenB B bq
      have Sq := bq.size
      simp only [World.size_alloc] at Sq
      clear bq be0 O4
      obtain ⟨s_V4, f_V4, z_V4⟩ := V4.open
      have Bo := B
      have hRb := hR.kept B
      clear V4
      go_wp2_with fail
      refine (drawBuildPacket_ok a n ca xs _ hRb hB hn (by omega)).mono ?_
      rintro e w3 ⟨f, t', r5, l5, x5, y5, c5, d5, m5, zs5, rfl, h5, hm5, hzb5, R5, _, b3⟩
      clear s_V4 f_V4 z_V4
      have S3 := b3.size
      replace B := thenB B b3
      clear b3
      have Bo := B
      replace R5 := R5.kept (belowA w3 (.cells #[.int .i64 f, .int .i64 t', .int .i64 r5, .int .i64 l5, .int .i64 x5, .int .i64 y5, .slice (some ⟨c5, 0, none⟩) m5 d5] 26))
      replace B := thenB B (belowA w3 (.cells #[.int .i64 f, .int .i64 t', .int .i64 r5, .int .i64 l5, .int .i64 x5, .int .i64 y5, .slice (some ⟨c5, 0, none⟩) m5 d5] 26))
      have V6 := V.new w3 [.int .i64 f, .int .i64 t', .int .i64 r5, .int .i64 l5, .int .i64 x5, .int .i64 y5, .slice (some ⟨c5, 0, none⟩) m5 d5] 26
      have CB := Hid.mk (fun w h => implBuildPacket_ok f t' r5 l5 x5 y5 (some ⟨c5, 0, none⟩) m5 d5 zs5 w h h5 (fun h => by cases h))
      have CF := Hid.mk (fun w => specPacketFault_ok f t' r5 l5 x5 y5 (some ⟨c5, 0, none⟩) m5 d5 w)
      have CR := Hid.mk (fun w h => implReverseWay_ok f t' r5 l5 x5 y5 (some ⟨c5, 0, none⟩) m5 d5 zs5 w h h5)
      by_cases hk5 : pfC f t' r5 l5 x5 y5 m5 = 0
      · skip
        obtain ⟨hfit, hports, hn2⟩ := pfC_zero hk5
        obtain ⟨q1, q2, q3, q4, q5, q6⟩ := fitP_iff.1 hfit
        have hk6 : pfC t' f r5 l5 y5 x5 m5 = 0 := pfC_right q2 q1 q3 q4 q6 q5 (fun h => ⟨(hports h).2, (hports h).1⟩) hn2
        have CR2 := Hid.mk (fun c d w h => implReverseWay_ok t' f r5 l5 y5 x5 c m5 d zs5 w h h5)
        have hI5 := build_read f t' r5 l5 x5 y5 zs5 hzb5 q1 q2 q3 q4 q5 q6 hports (by omega)
        have hle5 := length_buildP f t' r5 l5 x5 y5 zs5
        have hpl5 := portP_len r5 x5 y5
        have hYb5 := buildP_bytes (f := f) (t := t') (r := r5) (l := l5) (x := x5) (y := y5) (xs := zs5) (by omega) (by omega) hzb5
        have hsum5 : (sumWords ((buildP f t' r5 l5 x5 y5 zs5).take 20) == 0) = true := by
          have hd := hI5.1
          rcases ps_cases (buildP f t' r5 l5 x5 y5 zs5) with ⟨_, h⟩ | ⟨_, _, h⟩ | ⟨_, h, _⟩ | ⟨_, h, _⟩ | ⟨_, h, _⟩ | ⟨_, h, _⟩ | ⟨_, h, _⟩ | ⟨_, h, _⟩
          · rw [h.out] at hd; cases hd
          · rw [h.out] at hd; cases hd
          all_goals exact h
        rw [hk5] at CB CR
        rw [hk6] at CR2
        simp only [zl_0, z0_0] at CB CR CR2
        rw [h5] at CR CR2
        generalize buildP f t' r5 l5 x5 y5 zs5 = Y5 at *
        obtain ⟨N5, hN5⟩ : ∃ N5, Y5.length = N5 := ⟨_, rfl⟩
        rw [hN5] at CB hle5
        have CQ5 := Hid.mk (fun c d w h h' => implParsePacket_ok c N5 d Y5 0 f t' r5 l5 x5 y5 zs5 m5 hI5 h5 w h hYb5 hN5 (by omega) h')
        have hl20 := Hid.mk (show (Y5.take 20).length = 20 by rw [List.length_take, hN5]; omega)
        have HN5 := Hid.mk hN5
        have H5 := Hid.mk h5
        have hsame5 := sameP_self f t' r5 l5 x5 y5 zs5
        have hN20 : (20 : Int) ≤ (N5 : Int) := by omega
        clear hN5 hle5 hI5 hk5 hk6 CF h5 hfit
        go_wp2_with fail
        refine (CB.out _ R5).mono ?_
        rintro e w4 ⟨c7, d7, rfl, O7, b4⟩
        have S4 := b4.size
        simp only [World.size_alloc] at S4
        replace V6 := V6.kept b4
        replace R5 := R5.kept b4
        replace B := thenB B b4
        clear b4
        obtain ⟨s_V6, f_V6, z_V6⟩ := V6.open
        have Bo := B
        have hc7 := O7.cap
        rw [HN5.out] at hc7
        have hd20 : (20 : Int) ≤ (d7 : Int) := by omega
        replace V6 := V6.kept (belowA w4 (.cells #[.int .i64 0, .slice c7 N5 d7] 31))
        replace R5 := R5.kept (belowA w4 (.cells #[.int .i64 0, .slice c7 N5 d7] 31))
        replace O7 := O7.kept (belowA w4 (.cells #[.int .i64 0, .slice c7 N5 d7] 31))
        replace B := thenB B (belowA w4 (.cells #[.int .i64 0, .slice c7 N5 d7] 31))
        have V7 := V.new w4 [.int .i64 0, .slice c7 N5 d7] 31
        go_wp2_with fail
        refine (CQ5.out c7 d7 _ O7.rd hc7).mono ?_
        rintro e w5 ⟨c8, d8, rfl, O8, b5⟩
        clear s_V6 f_V6 z_V6
        have S5 := b5.size
        simp only [World.size_alloc] at S5
        replace V6 := V6.kept b5
        replace V7 := V7.kept b5
        replace R5 := R5.kept b5
        replace O7 := O7.kept b5
        replace B := thenB B b5
        clear b5
        obtain ⟨s_V6, f_V6, z_V6⟩ := V6.open
        obtain ⟨s_V7, f_V7, z_V7⟩ := V7.open
        have Bo := B
        replace V6 := V6.kept (belowA w5 (.cells #[.int .i64 0, .int .i64 f, .int .i64 t', .int .i64 r5, .int .i64 l5, .int .i64 x5, .int .i64 y5, .slice c8 m5 d8] 28))
        replace V7 := V7.kept (belowA w5 (.cells #[.int .i64 0, .int .i64 f, .int .i64 t', .int .i64 r5, .int .i64 l5, .int .i64 x5, .int .i64 y5, .slice c8 m5 d8] 28))
        replace R5 := R5.kept (belowA w5 (.cells #[.int .i64 0, .int .i64 f, .int .i64 t', .int .i64 r5, .int .i64 l5, .int .i64 x5, .int .i64 y5, .slice c8 m5 d8] 28))
        replace O7 := O7.kept (belowA w5 (.cells #[.int .i64 0, .int .i64 f, .int .i64 t', .int .i64 r5, .int .i64 l5, .int .i64 x5, .int .i64 y5, .slice c8 m5 d8] 28))
        replace O8 := O8.kept (belowA w5 (.cells #[.int .i64 0, .int .i64 f, .int .i64 t', .int .i64 r5, .int .i64 l5, .int .i64 x5, .int .i64 y5, .slice c8 m5 d8] 28))
        replace B := thenB B (belowA w5 (.cells #[.int .i64 0, .int .i64 f, .int .i64 t', .int .i64 r5, .int .i64 l5, .int .i64 x5, .int .i64 y5, .slice c8 m5 d8] 28))
        have V8 := V.new w5 [.int .i64 0, .int .i64 f, .int .i64 t', .int .i64 r5, .int .i64 l5, .int .i64 x5, .int .i64 y5, .slice c8 m5 d8] 28
        go_wp2_with fail
        refine (CR.out _ R5).mono ?_
        rintro e w6 ⟨c9, d9, rfl, O9, b6⟩
        clear s_V6 f_V6 z_V6 s_V7 f_V7 z_V7
        have S6 := b6.size
        simp only [World.size_alloc] at S6
        replace V6 := V6.kept b6
        replace V7 := V7.kept b6
        replace V8 := V8.kept b6
        replace R5 := R5.kept b6
        replace O7 := O7.kept b6
        replace O8 := O8.kept b6
        replace B := thenB B b6
        clear b6
        obtain ⟨s_V6, f_V6, z_V6⟩ := V6.open
        obtain ⟨s_V7, f_V7, z_V7⟩ := V7.open
        obtain ⟨s_V8, f_V8, z_V8⟩ := V8.open
        have Bo := B
        replace V6 := V6.kept (belowA w6 (.cells #[.int .i64 0, .int .i64 t', .int .i64 f, .int .i64 r5, .int .i64 l5, .int .i64 y5, .int .i64 x5, .slice c9 m5 d9] 28))
        replace V7 := V7.kept (belowA w6 (.cells #[.int .i64 0, .int .i64 t', .int .i64 f, .int .i64 r5, .int .i64 l5, .int .i64 y5, .int .i64 x5, .slice c9 m5 d9] 28))
        replace V8 := V8.kept (belowA w6 (.cells #[.int .i64 0, .int .i64 t', .int .i64 f, .int .i64 r5, .int .i64 l5, .int .i64 y5, .int .i64 x5, .slice c9 m5 d9] 28))
        replace R5 := R5.kept (belowA w6 (.cells #[.int .i64 0, .int .i64 t', .int .i64 f, .int .i64 r5, .int .i64 l5, .int .i64 y5, .int .i64 x5, .slice c9 m5 d9] 28))
        replace O7 := O7.kept (belowA w6 (.cells #[.int .i64 0, .int .i64 t', .int .i64 f, .int .i64 r5, .int .i64 l5, .int .i64 y5, .int .i64 x5, .slice c9 m5 d9] 28))
        replace O8 := O8.kept (belowA w6 (.cells #[.int .i64 0, .int .i64 t', .int .i64 f, .int .i64 r5, .int .i64 l5, .int .i64 y5, .int .i64 x5, .slice c9 m5 d9] 28))
        replace O9 := O9.kept (belowA w6 (.cells #[.int .i64 0, .int .i64 t', .int .i64 f, .int .i64 r5, .int .i64 l5, .int .i64 y5, .int .i64 x5, .slice c9 m5 d9] 28))
        replace B := thenB B (belowA w6 (.cells #[.int .i64 0, .int .i64 t', .int .i64 f, .int .i64 r5, .int .i64 l5, .int .i64 y5, .int .i64 x5, .slice c9 m5 d9] 28))
        have V9 := V.new w6 [.int .i64 0, .int .i64 t', .int .i64 f, .int .i64 r5, .int .i64 l5, .int .i64 y5, .int .i64 x5, .slice c9 m5 d9] 28
        have hfp := field_packet
        have HO7 := Hid.mk O7
        have HO8 := Hid.mk O8
        have HO9 := Hid.mk O9
        have HR5 := Hid.mk R5
        clear O7 O8 O9 R5
        go_wp2_with fail
        have K : ∀ w' : World, Below ((w6.alloc (.cells #[.int .i64 0, .int .i64 t', .int .i64 f, .int .i64 r5, .int .i64 l5, .int .i64 y5, .int .i64 x5, .slice c9 m5 d9] 28))).heap.size (w6.alloc (.cells #[.int .i64 0, .int .i64 t', .int .i64 f, .int .i64 r5, .int .i64 l5, .int .i64 y5, .int .i64 x5, .slice c9 m5 d9] 28)) w' → (w'.cell? ⟨w5.heap.size, 0, none⟩ = some (.int .i64 0) ∧ w'.cell? ⟨w5.heap.size, 1, none⟩ = some (.int .i64 f) ∧ w'.cell? ⟨w5.heap.size, 2, none⟩ = some (.int .i64 t') ∧ w'.cell? ⟨w5.heap.size, 3, none⟩ = some (.int .i64 r5) ∧ w'.cell? ⟨w5.heap.size, 4, none⟩ = some (.int .i64 l5) ∧ w'.cell? ⟨w5.heap.size, 5, none⟩ = some (.int .i64 x5) ∧ w'.cell? ⟨w5.heap.size, 6, none⟩ = some (.int .i64 y5) ∧ w'.cell? ⟨w5.heap.size, 7, none⟩ = some (.slice c8 m5 d8) ∧ w'.cell? ⟨w3.heap.size, 0, none⟩ = some (.int .i64 f) ∧ w'.cell? ⟨w3.heap.size, 1, none⟩ = some (.int .i64 t') ∧ w'.cell? ⟨w3.heap.size, 2, none⟩ = some (.int .i64 r5) ∧ w'.cell? ⟨w3.heap.size, 3, none⟩ = some (.int .i64 l5) ∧ w'.cell? ⟨w3.heap.size, 4, none⟩ = some (.int .i64 x5) ∧ w'.cell? ⟨w3.heap.size, 5, none⟩ = some (.int .i64 y5) ∧ w'.cell? ⟨w3.heap.size, 6, none⟩ = some (.slice (some ⟨c5, 0, none⟩) m5 d5) ∧ w'.cell? ⟨w6.heap.size, 0, none⟩ = some (.int .i64 0) ∧ w'.cell? ⟨w6.heap.size, 1, none⟩ = some (.int .i64 t') ∧ w'.cell? ⟨w6.heap.size, 2, none⟩ = some (.int .i64 f) ∧ w'.cell? ⟨w6.heap.size, 3, none⟩ = some (.int .i64 r5) ∧ w'.cell? ⟨w6.heap.size, 4, none⟩ = some (.int .i64 l5) ∧ w'.cell? ⟨w6.heap.size, 5, none⟩ = some (.int .i64 y5) ∧ w'.cell? ⟨w6.heap.size, 6, none⟩ = some (.int .i64 x5) ∧ w'.cell? ⟨w6.heap.size, 7, none⟩ = some (.slice c9 m5 d9) ∧ w'.cell? ⟨w4.heap.size, 1, none⟩ = some (.slice c7 N5 d7)) := fun w' h => ⟨(V8.kept h).2.1 0 (by simp), (V8.kept h).2.1 1 (by simp), (V8.kept h).2.1 2 (by simp), (V8.kept h).2.1 3 (by simp), (V8.kept h).2.1 4 (by simp), (V8.kept h).2.1 5 (by simp), (V8.kept h).2.1 6 (by simp), (V8.kept h).2.1 7 (by simp), (V6.kept h).2.1 0 (by simp), (V6.kept h).2.1 1 (by simp), (V6.kept h).2.1 2 (by simp), (V6.kept h).2.1 3 (by simp), (V6.kept h).2.1 4 (by simp), (V6.kept h).2.1 5 (by simp), (V6.kept h).2.1 6 (by simp), (V9.kept h).2.1 0 (by simp), (V9.kept h).2.1 1 (by simp), (V9.kept h).2.1 2 (by simp), (V9.kept h).2.1 3 (by simp), (V9.kept h).2.1 4 (by simp), (V9.kept h).2.1 5 (by simp), (V9.kept h).2.1 6 (by simp), (V9.kept h).2.1 7 (by simp), (V7.kept h).2.1 1 (by simp)⟩
        have K := Hid.mk K
        go_region_held3 (fun w' => w'.cell? ⟨w5.heap.size, 0, none⟩ = some (.int .i64 0) ∧ w'.cell? ⟨w5.heap.size, 1, none⟩ = some (.int .i64 f) ∧ w'.cell? ⟨w5.heap.size, 2, none⟩ = some (.int .i64 t') ∧ w'.cell? ⟨w5.heap.size, 3, none⟩ = some (.int .i64 r5) ∧ w'.cell? ⟨w5.heap.size, 4, none⟩ = some (.int .i64 l5) ∧ w'.cell? ⟨w5.heap.size, 5, none⟩ = some (.int .i64 x5) ∧ w'.cell? ⟨w5.heap.size, 6, none⟩ = some (.int .i64 y5) ∧ w'.cell? ⟨w5.heap.size, 7, none⟩ = some (.slice c8 m5 d8) ∧ w'.cell? ⟨w3.heap.size, 0, none⟩ = some (.int .i64 f) ∧ w'.cell? ⟨w3.heap.size, 1, none⟩ = some (.int .i64 t') ∧ w'.cell? ⟨w3.heap.size, 2, none⟩ = some (.int .i64 r5) ∧ w'.cell? ⟨w3.heap.size, 3, none⟩ = some (.int .i64 l5) ∧ w'.cell? ⟨w3.heap.size, 4, none⟩ = some (.int .i64 x5) ∧ w'.cell? ⟨w3.heap.size, 5, none⟩ = some (.int .i64 y5) ∧ w'.cell? ⟨w3.heap.size, 6, none⟩ = some (.slice (some ⟨c5, 0, none⟩) m5 d5) ∧ w'.cell? ⟨w6.heap.size, 0, none⟩ = some (.int .i64 0) ∧ w'.cell? ⟨w6.heap.size, 1, none⟩ = some (.int .i64 t') ∧ w'.cell? ⟨w6.heap.size, 2, none⟩ = some (.int .i64 f) ∧ w'.cell? ⟨w6.heap.size, 3, none⟩ = some (.int .i64 r5) ∧ w'.cell? ⟨w6.heap.size, 4, none⟩ = some (.int .i64 l5) ∧ w'.cell? ⟨w6.heap.size, 5, none⟩ = some (.int .i64 y5) ∧ w'.cell? ⟨w6.heap.size, 6, none⟩ = some (.int .i64 x5) ∧ w'.cell? ⟨w6.heap.size, 7, none⟩ = some (.slice c9 m5 d9) ∧ w'.cell? ⟨w4.heap.size, 1, none⟩ = some (.slice c7 N5 d7)) (first | exact K.out _ (thenB (thenB (thenB (thenB (Below.refl _ _).drew be1) be2) be3) be4) | exact K.out _ (thenB (thenB (thenB (Below.refl _ _).drew be1) be2) be3) | exact K.out _ (thenB (thenB (Below.refl _ _).drew be1) be2) | exact K.out _ (thenB (Below.refl _ _).drew be1) | exact K.out _ (Below.refl _ _).drew) (first | (go_at_call 15; have hz := be3; clear hz; refine (implCheckWords_ok c7 20 d7 (Y5.take 20) _ (((((Rd.take HO7.out.rd 20).kept (Below.refl _ _).drew).kept be1).kept be2).kept be3) (bytes_take hYb5 20) hl20.out (by omega)).mono ?_; rintro e we4 ⟨rfl, be4⟩; (try rw [hsum5])) | (go_at_call 11; have hz := be2; clear hz; refine (implSamePacket_ok f t' r5 l5 x5 y5 f t' r5 l5 x5 y5 cr (some ⟨c5, 0, none⟩) m5 m5 dr d5 zs5 zs5 _ Or.rd ((((HR5.out.kept (Below.refl _ _).drew).kept be1).kept be2)) Or.noSpot (by intro z hz; simp at hz; subst hz; rfl) H5.out H5.out).mono ?_; rintro e we3 ⟨rfl, be3⟩; (try rw [hsame5])) | (go_at_call 14; have hz := be1; clear hz; refine (CR2.out c9 d9 _ (((HO9.out.kept (Below.refl _ _).drew).kept be1).rd)).mono ?_; rintro e we2 ⟨cr, dr, rfl, Or, be2⟩) | (go_at_call 11; refine (implSamePacket_ok f t' r5 l5 x5 y5 f t' r5 l5 x5 y5 c8 (some ⟨c5, 0, none⟩) m5 m5 d8 d5 zs5 zs5 _ (HO8.out.kept (Below.refl _ _).drew).rd (HR5.out.kept (Below.refl _ _).drew) HO8.out.noSpot (by intro z hz; simp at hz; subst hz; rfl) H5.out H5.out).mono ?_; rintro e we1 ⟨rfl, be1⟩; (try rw [hsame5])))
        have BB := thenB B (thenB (thenB (thenB (thenB (Below.refl _ _).drew be1) be2) be3) be4)
        go_wp2
        go_ret
        exact ⟨rfl, BB⟩
      · skip
        have hk6 : (pfC f t' r5 l5 x5 y5 m5 != 0) = true := by simp [hk5]
        generalize zl (pfC f t' r5 l5 x5 y5 m5) (buildP f t' r5 l5 x5 y5 zs5) = Y5 at *
        obtain ⟨N5, hN5⟩ : ∃ N5, Y5.length = N5 := ⟨_, rfl⟩
        rw [hN5] at CB
        clear CR
        generalize pfC f t' r5 l5 x5 y5 m5 = kk at *
        go_wp2_with fail
        refine (CB.out _ R5).mono ?_
        rintro e w4 ⟨c7, d7, rfl, O7, b4⟩
        have S4 := b4.size
        simp only [World.size_alloc] at S4
        replace V6 := V6.kept b4
        replace R5 := R5.kept b4
        replace B := thenB B b4
        clear b4
        obtain ⟨s_V6, f_V6, z_V6⟩ := V6.open
        have Bo := B
        replace V6 := V6.kept (belowA w4 (.cells #[.int .i64 kk, .slice c7 N5 d7] 31))
        replace R5 := R5.kept (belowA w4 (.cells #[.int .i64 kk, .slice c7 N5 d7] 31))
        replace B := thenB B (belowA w4 (.cells #[.int .i64 kk, .slice c7 N5 d7] 31))
        have V7 := V.new w4 [.int .i64 kk, .slice c7 N5 d7] 31
        go_wp2_with fail
        have K : ∀ w' : World, Below ((w4.alloc (.cells #[.int .i64 kk, .slice c7 N5 d7] 31))).heap.size (w4.alloc (.cells #[.int .i64 kk, .slice c7 N5 d7] 31)) w' → (w'.cell? ⟨w3.heap.size, 0, none⟩ = some (.int .i64 f) ∧ w'.cell? ⟨w3.heap.size, 1, none⟩ = some (.int .i64 t') ∧ w'.cell? ⟨w3.heap.size, 2, none⟩ = some (.int .i64 r5) ∧ w'.cell? ⟨w3.heap.size, 3, none⟩ = some (.int .i64 l5) ∧ w'.cell? ⟨w3.heap.size, 4, none⟩ = some (.int .i64 x5) ∧ w'.cell? ⟨w3.heap.size, 5, none⟩ = some (.int .i64 y5) ∧ w'.cell? ⟨w3.heap.size, 6, none⟩ = some (.slice (some ⟨c5, 0, none⟩) m5 d5) ∧ w'.cell? ⟨w4.heap.size, 0, none⟩ = some (.int .i64 kk)) := fun w' h => ⟨(V6.kept h).2.1 0 (by simp), (V6.kept h).2.1 1 (by simp), (V6.kept h).2.1 2 (by simp), (V6.kept h).2.1 3 (by simp), (V6.kept h).2.1 4 (by simp), (V6.kept h).2.1 5 (by simp), (V6.kept h).2.1 6 (by simp), (V7.kept h).2.1 0 (by simp)⟩
        have K := Hid.mk K
        go_region_held3 (fun w' => w'.cell? ⟨w3.heap.size, 0, none⟩ = some (.int .i64 f) ∧ w'.cell? ⟨w3.heap.size, 1, none⟩ = some (.int .i64 t') ∧ w'.cell? ⟨w3.heap.size, 2, none⟩ = some (.int .i64 r5) ∧ w'.cell? ⟨w3.heap.size, 3, none⟩ = some (.int .i64 l5) ∧ w'.cell? ⟨w3.heap.size, 4, none⟩ = some (.int .i64 x5) ∧ w'.cell? ⟨w3.heap.size, 5, none⟩ = some (.int .i64 y5) ∧ w'.cell? ⟨w3.heap.size, 6, none⟩ = some (.slice (some ⟨c5, 0, none⟩) m5 d5) ∧ w'.cell? ⟨w4.heap.size, 0, none⟩ = some (.int .i64 kk)) (first | exact K.out _ (thenB (Below.refl _ _).drew be1) | exact K.out _ (Below.refl _ _).drew) ((go_at_call 13; refine (CF.out _).mono ?_; rintro e we1 ⟨rfl, be1⟩))
        have BB := thenB B (thenB (Below.refl _ _).drew be1)
        go_wp2
        go_ret
        exact ⟨rfl, BB⟩
  · go_enter Try.func3, Try.ntmps3
    go_wp2_with (first | (go_at_call 5; go_in) | fail)
    go_ret
    exact ⟨rfl, Below.refl _ _⟩

end Go.Proofs.Ythjaehcfakjemaa
