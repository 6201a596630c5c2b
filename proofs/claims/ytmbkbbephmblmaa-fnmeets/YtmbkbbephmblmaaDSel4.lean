/- The draw of a selector and a packet. -/
import Derived.Test.YtmbkbbephmblmaaDSel3
import Derived.Test.YtmbkbbephmblmaaDrawL
import Derived.Test.YtmbkbbephmblmaaXSmp
namespace Go.Proofs.Ytmbkbbephmblmaa
open Go.RowKit

theorem impl_none {w : World} : Rd .u8 w none [] := Rd.nil

set_option maxRecDepth 20000 in
set_option maxHeartbeats 8000000 in
theorem drawHolds_ok (a : Option Addr) (n ca : Nat) (zs : List Int) (w : World) (ha : Rd .u8 w a zs) (hb : Bytes zs) (hn : zs.length = n) (hx : n ≤ 1048577) :
    Calls Try.prog 14 #[.slice a n ca] w fun e w' => ∃ (x : S9) (f t' r l u v : Int) (s : Option Addr) (m d : Nat) (ys : List Int), e = .returned (.tuple #[.agg #[.int .i64 x.a, .int .i64 x.b, .int .i64 x.c, .int .i64 x.d, .int .i64 x.e, .int .i64 x.f, .int .i64 x.g, .int .i64 x.h, .int .i64 x.r], .agg #[.int .i64 f, .int .i64 t', .int .i64 r, .int .i64 l, .int .i64 u, .int .i64 v, .slice s m d]]) ∧ ys.length = m ∧ m ≤ 201 ∧ Rd .u8 w' s ys ∧ Below w.heap.size w w' := by
  go_enter Try.func14, Try.ntmps14
  have S : Src (((w.alloc (.cells #[.int .i64 0, .int .i64 0, .int .i64 0, .int .i64 0, .int .i64 0, .int .i64 0, .int .i64 0, .int .i64 0, .int .i64 0] 27)).alloc (.cells #[.int .i64 0, .int .i64 0, .int .i64 0, .int .i64 0, .int .i64 0, .int .i64 0, .slice none 0 0] 35)).alloc (.cells #[.slice a n ca, .int .i64 0] 105)) (w.heap.size + 1 + 1) a n ca zs 0 := by have h := Src.new ((w.alloc (.cells #[.int .i64 0, .int .i64 0, .int .i64 0, .int .i64 0, .int .i64 0, .int .i64 0, .int .i64 0, .int .i64 0, .int .i64 0] 27)).alloc (.cells #[.int .i64 0, .int .i64 0, .int .i64 0, .int .i64 0, .int .i64 0, .int .i64 0, .slice none 0 0] 35)) a n ca zs 105 ((ha.kept (belowA _ _)).kept (belowA _ _)); simpa only [World.size_alloc] using h
  have G : Below w.heap.size w (((w.alloc (.cells #[.int .i64 0, .int .i64 0, .int .i64 0, .int .i64 0, .int .i64 0, .int .i64 0, .int .i64 0, .int .i64 0, .int .i64 0] 27)).alloc (.cells #[.int .i64 0, .int .i64 0, .int .i64 0, .int .i64 0, .int .i64 0, .int .i64 0, .slice none 0 0] 35)).alloc (.cells #[.slice a n ca, .int .i64 0] 105)) := belowA3 w _ _ _
  have V1 : V (((w.alloc (.cells #[.int .i64 0, .int .i64 0, .int .i64 0, .int .i64 0, .int .i64 0, .int .i64 0, .int .i64 0, .int .i64 0, .int .i64 0] 27)).alloc (.cells #[.int .i64 0, .int .i64 0, .int .i64 0, .int .i64 0, .int .i64 0, .int .i64 0, .slice none 0 0] 35)).alloc (.cells #[.slice a n ca, .int .i64 0] 105)) (w.heap.size) [.int .i64 0, .int .i64 0, .int .i64 0, .int .i64 0, .int .i64 0, .int .i64 0, .int .i64 0, .int .i64 0, .int .i64 0] := ((V.newAt _ _ _ _ rfl).kept (belowA _ _)).kept (belowA _ _)
  have V2 : V (((w.alloc (.cells #[.int .i64 0, .int .i64 0, .int .i64 0, .int .i64 0, .int .i64 0, .int .i64 0, .int .i64 0, .int .i64 0, .int .i64 0] 27)).alloc (.cells #[.int .i64 0, .int .i64 0, .int .i64 0, .int .i64 0, .int .i64 0, .int .i64 0, .slice none 0 0] 35)).alloc (.cells #[.slice a n ca, .int .i64 0] 105)) (w.heap.size + 1) [.int .i64 0, .int .i64 0, .int .i64 0, .int .i64 0, .int .i64 0, .int .i64 0, .slice none 0 0] := (V.newAt _ _ _ _ (by simp)).kept (belowA _ _)
  go_wp2_with (first | (go_at_call 49; go_in) | fail)
  refine (l3Bent_ok (w.heap.size + 1 + 1) a n ca zs 0 _ S hb hn hx (by omega)).mono ?_
  rintro e w1 ⟨xa, xb, xc, xd, xe, xf, xg, xh, xr, q1, rfl, hq1, S1, g1⟩
  replace V1 := V1.grownB g1 (by (try simp); (try omega))
  replace V2 := V2.grownB g1 (by (try simp); (try omega))
  replace G := G.grown g1 (by have := G.size; (try simp at this); (try simp); omega) (by intro k hk; simp at hk; omega)
  have Z1 := g1.size
  try simp only [World.size_alloc] at Z1
  replace S := S1
  clear g1 S1
  replace V1 := V1.kept (belowA w1 (.cells #[.int .i64 xa, .int .i64 xb, .int .i64 xc, .int .i64 xd, .int .i64 xe, .int .i64 xf, .int .i64 xg, .int .i64 xh, .int .i64 xr] 27))
  replace V2 := V2.kept (belowA w1 (.cells #[.int .i64 xa, .int .i64 xb, .int .i64 xc, .int .i64 xd, .int .i64 xe, .int .i64 xf, .int .i64 xg, .int .i64 xh, .int .i64 xr] 27))
  replace S := S.kept (belowA w1 (.cells #[.int .i64 xa, .int .i64 xb, .int .i64 xc, .int .i64 xd, .int .i64 xe, .int .i64 xf, .int .i64 xg, .int .i64 xh, .int .i64 xr] 27))
  replace G := G.alloc G.size (.cells #[.int .i64 xa, .int .i64 xb, .int .i64 xc, .int .i64 xd, .int .i64 xe, .int .i64 xf, .int .i64 xg, .int .i64 xh, .int .i64 xr] 27)
  have VX : V (w1.alloc (.cells #[.int .i64 xa, .int .i64 xb, .int .i64 xc, .int .i64 xd, .int .i64 xe, .int .i64 xf, .int .i64 xg, .int .i64 xh, .int .i64 xr] 27)) (w1.heap.size) [.int .i64 xa, .int .i64 xb, .int .i64 xc, .int .i64 xd, .int .i64 xe, .int .i64 xf, .int .i64 xg, .int .i64 xh, .int .i64 xr] := V.newAt _ _ _ _ (by simp)
  obtain ⟨s_V1, f_V1, z_V1⟩ := V1.open
  obtain ⟨s_V2, f_V2, z_V2⟩ := V2.open
  obtain ⟨s_VX, f_VX, z_VX⟩ := VX.open
  go_wp2_with fail
  refine (l2Bent_ok (w.heap.size + 1 + 1) a n ca zs (q1) _ S hb hn hx (by omega)).mono ?_
  rintro e w2 ⟨f, t', r, l, u, v, c, d, m, ys, rfl, hys, hm, _, hc, RP, g2, q2, hq2, S2⟩
  clear s_V1 f_V1 z_V1 s_V2 f_V2 z_V2 s_VX f_VX z_VX
  replace V1 := V1.grownB g2 (by (try simp); (try omega))
  replace V2 := V2.grownB g2 (by (try simp); (try omega))
  replace VX := VX.grownB g2 (by (try simp); (try omega))
  replace G := G.grown g2 (by have := G.size; (try simp at this); (try simp); omega) (by intro k hk; simp at hk; omega)
  have Z2 := g2.size
  try simp only [World.size_alloc] at Z2
  replace S := S2
  clear g2 S2
  simp only [World.size_alloc] at hc
  have hcB : w.heap.size + 1 + 1 < c := by omega
  replace RP := RP.kept (belowA w2 (.cells #[.int .i64 f, .int .i64 t', .int .i64 r, .int .i64 l, .int .i64 u, .int .i64 v, .slice (some ⟨c, 0, none⟩) m d] 35))
  replace V1 := V1.kept (belowA w2 (.cells #[.int .i64 f, .int .i64 t', .int .i64 r, .int .i64 l, .int .i64 u, .int .i64 v, .slice (some ⟨c, 0, none⟩) m d] 35))
  replace V2 := V2.kept (belowA w2 (.cells #[.int .i64 f, .int .i64 t', .int .i64 r, .int .i64 l, .int .i64 u, .int .i64 v, .slice (some ⟨c, 0, none⟩) m d] 35))
  replace VX := VX.kept (belowA w2 (.cells #[.int .i64 f, .int .i64 t', .int .i64 r, .int .i64 l, .int .i64 u, .int .i64 v, .slice (some ⟨c, 0, none⟩) m d] 35))
  replace S := S.kept (belowA w2 (.cells #[.int .i64 f, .int .i64 t', .int .i64 r, .int .i64 l, .int .i64 u, .int .i64 v, .slice (some ⟨c, 0, none⟩) m d] 35))
  replace G := G.alloc G.size (.cells #[.int .i64 f, .int .i64 t', .int .i64 r, .int .i64 l, .int .i64 u, .int .i64 v, .slice (some ⟨c, 0, none⟩) m d] 35)
  have VP : V (w2.alloc (.cells #[.int .i64 f, .int .i64 t', .int .i64 r, .int .i64 l, .int .i64 u, .int .i64 v, .slice (some ⟨c, 0, none⟩) m d] 35)) (w2.heap.size) [.int .i64 f, .int .i64 t', .int .i64 r, .int .i64 l, .int .i64 u, .int .i64 v, .slice (some ⟨c, 0, none⟩) m d] := V.newAt _ _ _ _ (by simp)
  obtain ⟨s_V1, f_V1, z_V1⟩ := V1.open
  obtain ⟨s_V2, f_V2, z_V2⟩ := V2.open
  obtain ⟨s_VX, f_VX, z_VX⟩ := VX.open
  obtain ⟨s_VP, f_VP, z_VP⟩ := VP.open
  go_wp2_with fail
  refine (l1Chance_ok (w.heap.size + 1 + 1) a n ca zs (q2) 2 _ S hb hn hx (by omega) (by omega)).mono ?_
  rintro e w3 ⟨vv, rfl, S3, g3⟩
  clear s_V1 f_V1 z_V1 s_V2 f_V2 z_V2 s_VX f_VX z_VX s_VP f_VP z_VP
  have hS1 := S.1.1
  replace RP : Rd .u8 w3 (some ⟨c, 0, none⟩) ys := RP.grown g3 (.inr fun b hb => by simp at hb; subst hb; simp; (try simp only [World.size_alloc] at hS1); omega)
  replace V1 := V1.grownB g3 (by (try simp); (try omega))
  replace V2 := V2.grownB g3 (by (try simp); (try omega))
  replace VX := VX.grownB g3 (by (try simp); (try omega))
  replace VP := VP.grownB g3 (by (try simp); (try omega))
  replace G := G.grown g3 (by have := G.size; (try simp at this); (try simp); omega) (by intro k hk; simp at hk; omega)
  have Z3 := g3.size
  try simp only [World.size_alloc] at Z3
  replace S := S3
  clear g3 S3
  cases vv
  · obtain ⟨s_V1, f_V1, z_V1⟩ := V1.open
    obtain ⟨s_V2, f_V2, z_V2⟩ := V2.open
    obtain ⟨s_VX, f_VX, z_VX⟩ := VX.open
    obtain ⟨s_VP, f_VP, z_VP⟩ := VP.open
    have g_VX0 := f_VX 0 (by simp)
    have g_VX1 := f_VX 1 (by simp)
    have g_VX2 := f_VX 2 (by simp)
    have g_VX3 := f_VX 3 (by simp)
    have g_VX4 := f_VX 4 (by simp)
    have g_VX5 := f_VX 5 (by simp)
    have g_VX6 := f_VX 6 (by simp)
    have g_VX7 := f_VX 7 (by simp)
    have g_VX8 := f_VX 8 (by simp)
    have g_VP0 := f_VP 0 (by simp)
    have g_VP1 := f_VP 1 (by simp)
    have g_VP2 := f_VP 2 (by simp)
    have g_VP3 := f_VP 3 (by simp)
    have g_VP4 := f_VP 4 (by simp)
    have g_VP5 := f_VP 5 (by simp)
    have g_VP6 := f_VP 6 (by simp)
    have g_V10 := f_V1 0 (by simp)
    have g_V11 := f_V1 1 (by simp)
    have g_V12 := f_V1 2 (by simp)
    have g_V13 := f_V1 3 (by simp)
    have g_V14 := f_V1 4 (by simp)
    have g_V15 := f_V1 5 (by simp)
    have g_V16 := f_V1 6 (by simp)
    have g_V17 := f_V1 7 (by simp)
    have g_V18 := f_V1 8 (by simp)
    have g_V20 := f_V2 0 (by simp)
    have g_V21 := f_V2 1 (by simp)
    have g_V22 := f_V2 2 (by simp)
    have g_V23 := f_V2 3 (by simp)
    have g_V24 := f_V2 4 (by simp)
    have g_V25 := f_V2 5 (by simp)
    have g_V26 := f_V2 6 (by simp)
    simp at g_VX0 g_VX1 g_VX2 g_VX3 g_VX4 g_VX5 g_VX6 g_VX7 g_VX8 g_VP0 g_VP1 g_VP2 g_VP3 g_VP4 g_VP5 g_VP6 g_V10 g_V11 g_V12 g_V13 g_V14 g_V15 g_V16 g_V17 g_V18 g_V20 g_V21 g_V22 g_V23 g_V24 g_V25 g_V26
    clear f_VX f_VP f_V1 f_V2
    have hG := G.size
    replace G := Hid.mk G
    go_wp2
    go_region
    all_goals
      go_wp2
      refine bodyPost_ret (v := .tuple #[.agg #[.int .i64 xa, .int .i64 xb, .int .i64 xc, .int .i64 xd, .int .i64 xe, .int .i64 xf, .int .i64 xg, .int .i64 xh, .int .i64 xr], .agg #[.int .i64 f, .int .i64 t', .int .i64 r, .int .i64 l, .int .i64 u, .int .i64 v, .slice (some ⟨c, 0, none⟩) m d]]) (by simp [results, Try.results14, go_sem, g_V10, g_V11, g_V12, g_V13, g_V14, g_V15, g_V16, g_V17, g_V18, g_V20, g_V21, g_V22, g_V23, g_V24, g_V25, g_V26]) rfl ⟨⟨xa, xb, xc, xd, xe, xf, xg, xh, xr⟩, f, t', r, l, u, v, some ⟨c, 0, none⟩, m, d, ys, rfl, hys, hm, ?_, ?_⟩
      · first | exact Rd.nil | (repeat' first | with_reducible exact RP | with_reducible refine Rd.past ?_ ?_ _ | with_reducible refine Rd.kept ?_ (Below.refl _ _).drew | (simp; done) | (simp; omega) | omega)
      · replace G := G.out
        repeat' first | with_reducible exact G | with_reducible refine Below.setCell ?_ ?_ _ | with_reducible refine Below.drew ?_ | (simp; done) | (simp; omega) | omega
  · skip
    obtain ⟨k0, f0, t0, r0, l0, u0, v0, CS, _⟩ := smp_both ⟨xa, xb, xc, xd, xe, xf, xg, xh, xr⟩
    dsimp only at CS
    replace CS := Hid.mk CS
    obtain ⟨s_V1, f_V1, z_V1⟩ := V1.open
    obtain ⟨s_V2, f_V2, z_V2⟩ := V2.open
    obtain ⟨s_VX, f_VX, z_VX⟩ := VX.open
    obtain ⟨s_VP, f_VP, z_VP⟩ := VP.open
    go_wp2_with fail
    refine (CS.out _).mono ?_
    rintro e w4 ⟨rfl, b4⟩
    clear s_V1 f_V1 z_V1 s_V2 f_V2 z_V2 s_VX f_VX z_VX s_VP f_VP z_VP
    replace V1 := V1.kept b4
    replace V2 := V2.kept b4
    replace VX := VX.kept b4
    replace VP := VP.kept b4
    replace S := S.kept b4
    replace RP := RP.kept b4
    replace G := G.trans (b4.mono G.size)
    have Z4 := b4.size
    clear b4
    replace RP := RP.kept (belowA w4 (.cells #[.int .i64 k0, .int .i64 f0, .int .i64 t0, .int .i64 r0, .int .i64 l0, .int .i64 u0, .int .i64 v0, .slice none 0 0] 39))
    replace V1 := V1.kept (belowA w4 (.cells #[.int .i64 k0, .int .i64 f0, .int .i64 t0, .int .i64 r0, .int .i64 l0, .int .i64 u0, .int .i64 v0, .slice none 0 0] 39))
    replace V2 := V2.kept (belowA w4 (.cells #[.int .i64 k0, .int .i64 f0, .int .i64 t0, .int .i64 r0, .int .i64 l0, .int .i64 u0, .int .i64 v0, .slice none 0 0] 39))
    replace VX := VX.kept (belowA w4 (.cells #[.int .i64 k0, .int .i64 f0, .int .i64 t0, .int .i64 r0, .int .i64 l0, .int .i64 u0, .int .i64 v0, .slice none 0 0] 39))
    replace VP := VP.kept (belowA w4 (.cells #[.int .i64 k0, .int .i64 f0, .int .i64 t0, .int .i64 r0, .int .i64 l0, .int .i64 u0, .int .i64 v0, .slice none 0 0] 39))
    replace S := S.kept (belowA w4 (.cells #[.int .i64 k0, .int .i64 f0, .int .i64 t0, .int .i64 r0, .int .i64 l0, .int .i64 u0, .int .i64 v0, .slice none 0 0] 39))
    replace G := G.alloc G.size (.cells #[.int .i64 k0, .int .i64 f0, .int .i64 t0, .int .i64 r0, .int .i64 l0, .int .i64 u0, .int .i64 v0, .slice none 0 0] 39)
    have VS : V (w4.alloc (.cells #[.int .i64 k0, .int .i64 f0, .int .i64 t0, .int .i64 r0, .int .i64 l0, .int .i64 u0, .int .i64 v0, .slice none 0 0] 39)) (w4.heap.size) [.int .i64 k0, .int .i64 f0, .int .i64 t0, .int .i64 r0, .int .i64 l0, .int .i64 u0, .int .i64 v0, .slice none 0 0] := V.newAt _ _ _ _ (by simp)
    by_cases hk0 : k0 = 0
    · subst hk0
      obtain ⟨s_V1, f_V1, z_V1⟩ := V1.open
      obtain ⟨s_V2, f_V2, z_V2⟩ := V2.open
      obtain ⟨s_VX, f_VX, z_VX⟩ := VX.open
      obtain ⟨s_VP, f_VP, z_VP⟩ := VP.open
      obtain ⟨s_VS, f_VS, z_VS⟩ := VS.open
      have g_VS0 := f_VS 0 (by simp)
      have g_VS1 := f_VS 1 (by simp)
      have g_VS2 := f_VS 2 (by simp)
      have g_VS3 := f_VS 3 (by simp)
      have g_VS4 := f_VS 4 (by simp)
      have g_VS5 := f_VS 5 (by simp)
      have g_VS6 := f_VS 6 (by simp)
      have g_VS7 := f_VS 7 (by simp)
      simp at g_VS0 g_VS1 g_VS2 g_VS3 g_VS4 g_VS5 g_VS6 g_VS7
      clear f_VS
      have g_VX0 := f_VX 0 (by simp)
      have g_VX1 := f_VX 1 (by simp)
      have g_VX2 := f_VX 2 (by simp)
      have g_VX3 := f_VX 3 (by simp)
      have g_VX4 := f_VX 4 (by simp)
      have g_VX5 := f_VX 5 (by simp)
      have g_VX6 := f_VX 6 (by simp)
      have g_VX7 := f_VX 7 (by simp)
      have g_VX8 := f_VX 8 (by simp)
      have g_VP0 := f_VP 0 (by simp)
      have g_VP1 := f_VP 1 (by simp)
      have g_VP2 := f_VP 2 (by simp)
      have g_VP3 := f_VP 3 (by simp)
      have g_VP4 := f_VP 4 (by simp)
      have g_VP5 := f_VP 5 (by simp)
      have g_VP6 := f_VP 6 (by simp)
      have g_V10 := f_V1 0 (by simp)
      have g_V11 := f_V1 1 (by simp)
      have g_V12 := f_V1 2 (by simp)
      have g_V13 := f_V1 3 (by simp)
      have g_V14 := f_V1 4 (by simp)
      have g_V15 := f_V1 5 (by simp)
      have g_V16 := f_V1 6 (by simp)
      have g_V17 := f_V1 7 (by simp)
      have g_V18 := f_V1 8 (by simp)
      have g_V20 := f_V2 0 (by simp)
      have g_V21 := f_V2 1 (by simp)
      have g_V22 := f_V2 2 (by simp)
      have g_V23 := f_V2 3 (by simp)
      have g_V24 := f_V2 4 (by simp)
      have g_V25 := f_V2 5 (by simp)
      have g_V26 := f_V2 6 (by simp)
      simp at g_VX0 g_VX1 g_VX2 g_VX3 g_VX4 g_VX5 g_VX6 g_VX7 g_VX8 g_VP0 g_VP1 g_VP2 g_VP3 g_VP4 g_VP5 g_VP6 g_V10 g_V11 g_V12 g_V13 g_V14 g_V15 g_V16 g_V17 g_V18 g_V20 g_V21 g_V22 g_V23 g_V24 g_V25 g_V26
      clear f_VX f_VP f_V1 f_V2
      have hG := G.size
      replace G := Hid.mk G
      go_wp2
      go_region
      all_goals
        go_wp2
        refine bodyPost_ret (v := .tuple #[.agg #[.int .i64 xa, .int .i64 xb, .int .i64 xc, .int .i64 xd, .int .i64 xe, .int .i64 xf, .int .i64 xg, .int .i64 xh, .int .i64 xr], .agg #[.int .i64 f0, .int .i64 t0, .int .i64 r0, .int .i64 l0, .int .i64 u0, .int .i64 v0, .slice none 0 0]]) (by simp [results, Try.results14, go_sem, g_V10, g_V11, g_V12, g_V13, g_V14, g_V15, g_V16, g_V17, g_V18, g_V20, g_V21, g_V22, g_V23, g_V24, g_V25, g_V26]) rfl ⟨⟨xa, xb, xc, xd, xe, xf, xg, xh, xr⟩, f0, t0, r0, l0, u0, v0, none, 0, 0, [], rfl, rfl, by omega, ?_, ?_⟩
        · first | exact Rd.nil | (repeat' first | with_reducible exact RP | with_reducible refine Rd.past ?_ ?_ _ | with_reducible refine Rd.kept ?_ (Below.refl _ _).drew | (simp; done) | (simp; omega) | omega)
        · replace G := G.out
          repeat' first | with_reducible exact G | with_reducible refine Below.setCell ?_ ?_ _ | with_reducible refine Below.drew ?_ | (simp; done) | (simp; omega) | omega
    · have hk1 : (k0 == 0) = false := by simp [hk0]
      obtain ⟨s_V1, f_V1, z_V1⟩ := V1.open
      obtain ⟨s_V2, f_V2, z_V2⟩ := V2.open
      obtain ⟨s_VX, f_VX, z_VX⟩ := VX.open
      obtain ⟨s_VP, f_VP, z_VP⟩ := VP.open
      obtain ⟨s_VS, f_VS, z_VS⟩ := VS.open
      have g_VS0 := f_VS 0 (by simp)
      have g_VS1 := f_VS 1 (by simp)
      have g_VS2 := f_VS 2 (by simp)
      have g_VS3 := f_VS 3 (by simp)
      have g_VS4 := f_VS 4 (by simp)
      have g_VS5 := f_VS 5 (by simp)
      have g_VS6 := f_VS 6 (by simp)
      have g_VS7 := f_VS 7 (by simp)
      simp at g_VS0 g_VS1 g_VS2 g_VS3 g_VS4 g_VS5 g_VS6 g_VS7
      clear f_VS
      have g_VX0 := f_VX 0 (by simp)
      have g_VX1 := f_VX 1 (by simp)
      have g_VX2 := f_VX 2 (by simp)
      have g_VX3 := f_VX 3 (by simp)
      have g_VX4 := f_VX 4 (by simp)
      have g_VX5 := f_VX 5 (by simp)
      have g_VX6 := f_VX 6 (by simp)
      have g_VX7 := f_VX 7 (by simp)
      have g_VX8 := f_VX 8 (by simp)
      have g_VP0 := f_VP 0 (by simp)
      have g_VP1 := f_VP 1 (by simp)
      have g_VP2 := f_VP 2 (by simp)
      have g_VP3 := f_VP 3 (by simp)
      have g_VP4 := f_VP 4 (by simp)
      have g_VP5 := f_VP 5 (by simp)
      have g_VP6 := f_VP 6 (by simp)
      have g_V10 := f_V1 0 (by simp)
      have g_V11 := f_V1 1 (by simp)
      have g_V12 := f_V1 2 (by simp)
      have g_V13 := f_V1 3 (by simp)
      have g_V14 := f_V1 4 (by simp)
      have g_V15 := f_V1 5 (by simp)
      have g_V16 := f_V1 6 (by simp)
      have g_V17 := f_V1 7 (by simp)
      have g_V18 := f_V1 8 (by simp)
      have g_V20 := f_V2 0 (by simp)
      have g_V21 := f_V2 1 (by simp)
      have g_V22 := f_V2 2 (by simp)
      have g_V23 := f_V2 3 (by simp)
      have g_V24 := f_V2 4 (by simp)
      have g_V25 := f_V2 5 (by simp)
      have g_V26 := f_V2 6 (by simp)
      simp at g_VX0 g_VX1 g_VX2 g_VX3 g_VX4 g_VX5 g_VX6 g_VX7 g_VX8 g_VP0 g_VP1 g_VP2 g_VP3 g_VP4 g_VP5 g_VP6 g_V10 g_V11 g_V12 g_V13 g_V14 g_V15 g_V16 g_V17 g_V18 g_V20 g_V21 g_V22 g_V23 g_V24 g_V25 g_V26
      clear f_VX f_VP f_V1 f_V2
      have hG := G.size
      replace G := Hid.mk G
      go_wp2
      go_region
      all_goals
        go_wp2
        refine bodyPost_ret (v := .tuple #[.agg #[.int .i64 xa, .int .i64 xb, .int .i64 xc, .int .i64 xd, .int .i64 xe, .int .i64 xf, .int .i64 xg, .int .i64 xh, .int .i64 xr], .agg #[.int .i64 f, .int .i64 t', .int .i64 r, .int .i64 l, .int .i64 u, .int .i64 v, .slice (some ⟨c, 0, none⟩) m d]]) (by simp [results, Try.results14, go_sem, g_V10, g_V11, g_V12, g_V13, g_V14, g_V15, g_V16, g_V17, g_V18, g_V20, g_V21, g_V22, g_V23, g_V24, g_V25, g_V26]) rfl ⟨⟨xa, xb, xc, xd, xe, xf, xg, xh, xr⟩, f, t', r, l, u, v, some ⟨c, 0, none⟩, m, d, ys, rfl, hys, hm, ?_, ?_⟩
        · first | exact Rd.nil | (repeat' first | with_reducible exact RP | with_reducible refine Rd.past ?_ ?_ _ | with_reducible refine Rd.kept ?_ (Below.refl _ _).drew | (simp; done) | (simp; omega) | omega)
        · replace G := G.out
          repeat' first | with_reducible exact G | with_reducible refine Below.setCell ?_ ?_ _ | with_reducible refine Below.drew ?_ | (simp; done) | (simp; omega) | omega

end Go.Proofs.Ytmbkbbephmblmaa
