/- The draws of two selectors. -/
import Derived.Test.YtmbkbbephmblmaaDSel2
import Derived.BigRegion
namespace Go.Proofs.Ytmbkbbephmblmaa
open Go.RowKit

theorem extractP0 (u v : Value) (w : World) : (Instr.extract (.tuple #[u, v]) 0).run Try.prog w = .ok u w := by kernel_rfl

theorem extractP1 (u v : Value) (w : World) : (Instr.extract (.tuple #[u, v]) 1).run Try.prog w = .ok v w := by kernel_rfl

set_option maxRecDepth 20000 in
set_option maxHeartbeats 4000000 in
theorem l3Two_ok (a : Option Addr) (n ca : Nat) (zs : List Int) (w : World) (ha : Rd .u8 w a zs) (hb : Bytes zs) (hn : zs.length = n) (hx : n ≤ 1048577) :
    Calls Try.prog 34 #[.slice a n ca] w fun e w' => ∃ x y : S9, e = .returned (.tuple #[.agg #[.int .i64 x.a, .int .i64 x.b, .int .i64 x.c, .int .i64 x.d, .int .i64 x.e, .int .i64 x.f, .int .i64 x.g, .int .i64 x.h, .int .i64 x.r], .agg #[.int .i64 y.a, .int .i64 y.b, .int .i64 y.c, .int .i64 y.d, .int .i64 y.e, .int .i64 y.f, .int .i64 y.g, .int .i64 y.h, .int .i64 y.r]]) ∧ Below w.heap.size w w' := by
  go_enter Try.func34, Try.ntmps34
  have S : Src (((w.alloc (.cells #[.int .i64 0, .int .i64 0, .int .i64 0, .int .i64 0, .int .i64 0, .int .i64 0, .int .i64 0, .int .i64 0, .int .i64 0] 27)).alloc (.cells #[.int .i64 0, .int .i64 0, .int .i64 0, .int .i64 0, .int .i64 0, .int .i64 0, .int .i64 0, .int .i64 0, .int .i64 0] 27)).alloc (.cells #[.slice a n ca, .int .i64 0] 105)) (w.heap.size + 1 + 1) a n ca zs 0 := by have h := Src.new ((w.alloc (.cells #[.int .i64 0, .int .i64 0, .int .i64 0, .int .i64 0, .int .i64 0, .int .i64 0, .int .i64 0, .int .i64 0, .int .i64 0] 27)).alloc (.cells #[.int .i64 0, .int .i64 0, .int .i64 0, .int .i64 0, .int .i64 0, .int .i64 0, .int .i64 0, .int .i64 0, .int .i64 0] 27)) a n ca zs 105 ((ha.kept (belowA _ _)).kept (belowA _ _)); simpa only [World.size_alloc] using h
  have G : Below w.heap.size w (((w.alloc (.cells #[.int .i64 0, .int .i64 0, .int .i64 0, .int .i64 0, .int .i64 0, .int .i64 0, .int .i64 0, .int .i64 0, .int .i64 0] 27)).alloc (.cells #[.int .i64 0, .int .i64 0, .int .i64 0, .int .i64 0, .int .i64 0, .int .i64 0, .int .i64 0, .int .i64 0, .int .i64 0] 27)).alloc (.cells #[.slice a n ca, .int .i64 0] 105)) := belowA3 w _ _ _
  have V1 : V (((w.alloc (.cells #[.int .i64 0, .int .i64 0, .int .i64 0, .int .i64 0, .int .i64 0, .int .i64 0, .int .i64 0, .int .i64 0, .int .i64 0] 27)).alloc (.cells #[.int .i64 0, .int .i64 0, .int .i64 0, .int .i64 0, .int .i64 0, .int .i64 0, .int .i64 0, .int .i64 0, .int .i64 0] 27)).alloc (.cells #[.slice a n ca, .int .i64 0] 105)) (w.heap.size) [.int .i64 0, .int .i64 0, .int .i64 0, .int .i64 0, .int .i64 0, .int .i64 0, .int .i64 0, .int .i64 0, .int .i64 0] := ((V.newAt _ _ _ _ rfl).kept (belowA _ _)).kept (belowA _ _)
  have V2 : V (((w.alloc (.cells #[.int .i64 0, .int .i64 0, .int .i64 0, .int .i64 0, .int .i64 0, .int .i64 0, .int .i64 0, .int .i64 0, .int .i64 0] 27)).alloc (.cells #[.int .i64 0, .int .i64 0, .int .i64 0, .int .i64 0, .int .i64 0, .int .i64 0, .int .i64 0, .int .i64 0, .int .i64 0] 27)).alloc (.cells #[.slice a n ca, .int .i64 0] 105)) (w.heap.size + 1) [.int .i64 0, .int .i64 0, .int .i64 0, .int .i64 0, .int .i64 0, .int .i64 0, .int .i64 0, .int .i64 0, .int .i64 0] := (V.newAt _ _ _ _ (by simp)).kept (belowA _ _)
  go_wp2_with (first | (go_at_call 49; go_in) | fail)
  refine (l3Bent_ok (w.heap.size + 1 + 1) a n ca zs 0 _ S hb hn hx (by omega)).mono ?_
  rintro e w1 ⟨xa, xb, xc, xd, xe, xf, xg, xh, xr, q1, rfl, hq1, S1, g1⟩
  replace V1 := V1.grownB g1 (by (try simp); (try omega))
  replace V2 := V2.grownB g1 (by (try simp); (try omega))
  replace G := G.grown g1 (by have := G.size; (try simp at this); (try simp); omega) (by intro k hk; simp at hk; omega)
  have Z1 := g1.size
  try simp only [World.size_alloc] at Z1
  replace S := S1
  clear g1 S1
  replace V1 := V1.kept (belowA w1 (.cells #[.int .i64 xa, .int .i64 xb, .int .i64 xc, .int .i64 xd, .int .i64 xe, .int .i64 xf, .int .i64 xg, .int .i64 xh, .int .i64 xr] 27))
  replace V2 := V2.kept (belowA w1 (.cells #[.int .i64 xa, .int .i64 xb, .int .i64 xc, .int .i64 xd, .int .i64 xe, .int .i64 xf, .int .i64 xg, .int .i64 xh, .int .i64 xr] 27))
  replace S := S.kept (belowA w1 (.cells #[.int .i64 xa, .int .i64 xb, .int .i64 xc, .int .i64 xd, .int .i64 xe, .int .i64 xf, .int .i64 xg, .int .i64 xh, .int .i64 xr] 27))
  replace G := G.alloc G.size (.cells #[.int .i64 xa, .int .i64 xb, .int .i64 xc, .int .i64 xd, .int .i64 xe, .int .i64 xf, .int .i64 xg, .int .i64 xh, .int .i64 xr] 27)
  have VX : V (w1.alloc (.cells #[.int .i64 xa, .int .i64 xb, .int .i64 xc, .int .i64 xd, .int .i64 xe, .int .i64 xf, .int .i64 xg, .int .i64 xh, .int .i64 xr] 27)) (w1.heap.size) [.int .i64 xa, .int .i64 xb, .int .i64 xc, .int .i64 xd, .int .i64 xe, .int .i64 xf, .int .i64 xg, .int .i64 xh, .int .i64 xr] := V.newAt _ _ _ _ (by simp)
  obtain ⟨s_V1, f_V1, z_V1⟩ := V1.open
  obtain ⟨s_V2, f_V2, z_V2⟩ := V2.open
  obtain ⟨s_VX, f_VX, z_VX⟩ := VX.open
  go_wp2_with fail
  refine (l3Bent_ok (w.heap.size + 1 + 1) a n ca zs (q1) _ S hb hn hx (by omega)).mono ?_
  rintro e w2 ⟨ya, yb, yc, yd, ye, yf, yg, yh, yr, q2, rfl, hq2, S2, g2⟩
  clear s_V1 f_V1 z_V1 s_V2 f_V2 z_V2 s_VX f_VX z_VX
  replace V1 := V1.grownB g2 (by (try simp); (try omega))
  replace V2 := V2.grownB g2 (by (try simp); (try omega))
  replace VX := VX.grownB g2 (by (try simp); (try omega))
  replace G := G.grown g2 (by have := G.size; (try simp at this); (try simp); omega) (by intro k hk; simp at hk; omega)
  have Z2 := g2.size
  try simp only [World.size_alloc] at Z2
  replace S := S2
  clear g2 S2
  replace V1 := V1.kept (belowA w2 (.cells #[.int .i64 ya, .int .i64 yb, .int .i64 yc, .int .i64 yd, .int .i64 ye, .int .i64 yf, .int .i64 yg, .int .i64 yh, .int .i64 yr] 27))
  replace V2 := V2.kept (belowA w2 (.cells #[.int .i64 ya, .int .i64 yb, .int .i64 yc, .int .i64 yd, .int .i64 ye, .int .i64 yf, .int .i64 yg, .int .i64 yh, .int .i64 yr] 27))
  replace VX := VX.kept (belowA w2 (.cells #[.int .i64 ya, .int .i64 yb, .int .i64 yc, .int .i64 yd, .int .i64 ye, .int .i64 yf, .int .i64 yg, .int .i64 yh, .int .i64 yr] 27))
  replace S := S.kept (belowA w2 (.cells #[.int .i64 ya, .int .i64 yb, .int .i64 yc, .int .i64 yd, .int .i64 ye, .int .i64 yf, .int .i64 yg, .int .i64 yh, .int .i64 yr] 27))
  replace G := G.alloc G.size (.cells #[.int .i64 ya, .int .i64 yb, .int .i64 yc, .int .i64 yd, .int .i64 ye, .int .i64 yf, .int .i64 yg, .int .i64 yh, .int .i64 yr] 27)
  have VY : V (w2.alloc (.cells #[.int .i64 ya, .int .i64 yb, .int .i64 yc, .int .i64 yd, .int .i64 ye, .int .i64 yf, .int .i64 yg, .int .i64 yh, .int .i64 yr] 27)) (w2.heap.size) [.int .i64 ya, .int .i64 yb, .int .i64 yc, .int .i64 yd, .int .i64 ye, .int .i64 yf, .int .i64 yg, .int .i64 yh, .int .i64 yr] := V.newAt _ _ _ _ (by simp)
  obtain ⟨s_V1, f_V1, z_V1⟩ := V1.open
  obtain ⟨s_V2, f_V2, z_V2⟩ := V2.open
  obtain ⟨s_VX, f_VX, z_VX⟩ := VX.open
  obtain ⟨s_VY, f_VY, z_VY⟩ := VY.open
  go_wp2_with fail
  refine (l1Chance_ok (w.heap.size + 1 + 1) a n ca zs (q2) 4 _ S hb hn hx (by omega) (by omega)).mono ?_
  rintro e w3 ⟨v, rfl, S3, g3⟩
  clear s_V1 f_V1 z_V1 s_V2 f_V2 z_V2 s_VX f_VX z_VX s_VY f_VY z_VY
  replace V1 := V1.grownB g3 (by (try simp); (try omega))
  replace V2 := V2.grownB g3 (by (try simp); (try omega))
  replace VX := VX.grownB g3 (by (try simp); (try omega))
  replace VY := VY.grownB g3 (by (try simp); (try omega))
  replace G := G.grown g3 (by have := G.size; (try simp at this); (try simp); omega) (by intro k hk; simp at hk; omega)
  have Z3 := g3.size
  try simp only [World.size_alloc] at Z3
  replace S := S3
  clear g3 S3
  cases v
  · obtain ⟨s_V1, f_V1, z_V1⟩ := V1.open
    obtain ⟨s_V2, f_V2, z_V2⟩ := V2.open
    obtain ⟨s_VX, f_VX, z_VX⟩ := VX.open
    obtain ⟨s_VY, f_VY, z_VY⟩ := VY.open
    have g_VX0 := f_VX 0 (by simp)
    have g_VX1 := f_VX 1 (by simp)
    have g_VX2 := f_VX 2 (by simp)
    have g_VX3 := f_VX 3 (by simp)
    have g_VX4 := f_VX 4 (by simp)
    have g_VX5 := f_VX 5 (by simp)
    have g_VX6 := f_VX 6 (by simp)
    have g_VX7 := f_VX 7 (by simp)
    have g_VX8 := f_VX 8 (by simp)
    have g_VY0 := f_VY 0 (by simp)
    have g_VY1 := f_VY 1 (by simp)
    have g_VY2 := f_VY 2 (by simp)
    have g_VY3 := f_VY 3 (by simp)
    have g_VY4 := f_VY 4 (by simp)
    have g_VY5 := f_VY 5 (by simp)
    have g_VY6 := f_VY 6 (by simp)
    have g_VY7 := f_VY 7 (by simp)
    have g_VY8 := f_VY 8 (by simp)
    have g_V10 := f_V1 0 (by simp)
    have g_V11 := f_V1 1 (by simp)
    have g_V12 := f_V1 2 (by simp)
    have g_V13 := f_V1 3 (by simp)
    have g_V14 := f_V1 4 (by simp)
    have g_V15 := f_V1 5 (by simp)
    have g_V16 := f_V1 6 (by simp)
    have g_V17 := f_V1 7 (by simp)
    have g_V18 := f_V1 8 (by simp)
    have g_V20 := f_V2 0 (by simp)
    have g_V21 := f_V2 1 (by simp)
    have g_V22 := f_V2 2 (by simp)
    have g_V23 := f_V2 3 (by simp)
    have g_V24 := f_V2 4 (by simp)
    have g_V25 := f_V2 5 (by simp)
    have g_V26 := f_V2 6 (by simp)
    have g_V27 := f_V2 7 (by simp)
    have g_V28 := f_V2 8 (by simp)
    simp at g_VX0 g_VX1 g_VX2 g_VX3 g_VX4 g_VX5 g_VX6 g_VX7 g_VX8 g_VY0 g_VY1 g_VY2 g_VY3 g_VY4 g_VY5 g_VY6 g_VY7 g_VY8 g_V10 g_V11 g_V12 g_V13 g_V14 g_V15 g_V16 g_V17 g_V18 g_V20 g_V21 g_V22 g_V23 g_V24 g_V25 g_V26 g_V27 g_V28
    clear f_VX f_VY f_V1 f_V2
    have hG := G.size
    replace G := Hid.mk G
    go_wp2
    go_region
    all_goals
      go_wp2
      refine bodyPost_ret (v := .tuple #[.agg #[.int .i64 xa, .int .i64 xb, .int .i64 xc, .int .i64 xd, .int .i64 xe, .int .i64 xf, .int .i64 xg, .int .i64 xh, .int .i64 xr], .agg #[.int .i64 ya, .int .i64 yb, .int .i64 yc, .int .i64 yd, .int .i64 ye, .int .i64 yf, .int .i64 yg, .int .i64 yh, .int .i64 yr]]) (by simp [results, Try.results34, go_sem, g_V10, g_V20, g_V11, g_V21, g_V12, g_V22, g_V13, g_V23, g_V14, g_V24, g_V15, g_V25, g_V16, g_V26, g_V17, g_V27, g_V18, g_V28]) rfl ⟨⟨xa, xb, xc, xd, xe, xf, xg, xh, xr⟩, ⟨ya, yb, yc, yd, ye, yf, yg, yh, yr⟩, rfl, ?_⟩
      replace G := G.out
      repeat' first | with_reducible exact G | with_reducible refine Below.setCell ?_ ?_ _ | with_reducible refine Below.drew ?_ | (simp; done) | (simp; omega) | omega
  · obtain ⟨s_V1, f_V1, z_V1⟩ := V1.open
    obtain ⟨s_V2, f_V2, z_V2⟩ := V2.open
    obtain ⟨s_VX, f_VX, z_VX⟩ := VX.open
    obtain ⟨s_VY, f_VY, z_VY⟩ := VY.open
    have g_VX0 := f_VX 0 (by simp)
    have g_VX1 := f_VX 1 (by simp)
    have g_VX2 := f_VX 2 (by simp)
    have g_VX3 := f_VX 3 (by simp)
    have g_VX4 := f_VX 4 (by simp)
    have g_VX5 := f_VX 5 (by simp)
    have g_VX6 := f_VX 6 (by simp)
    have g_VX7 := f_VX 7 (by simp)
    have g_VX8 := f_VX 8 (by simp)
    have g_VY0 := f_VY 0 (by simp)
    have g_VY1 := f_VY 1 (by simp)
    have g_VY2 := f_VY 2 (by simp)
    have g_VY3 := f_VY 3 (by simp)
    have g_VY4 := f_VY 4 (by simp)
    have g_VY5 := f_VY 5 (by simp)
    have g_VY6 := f_VY 6 (by simp)
    have g_VY7 := f_VY 7 (by simp)
    have g_VY8 := f_VY 8 (by simp)
    have g_V10 := f_V1 0 (by simp)
    have g_V11 := f_V1 1 (by simp)
    have g_V12 := f_V1 2 (by simp)
    have g_V13 := f_V1 3 (by simp)
    have g_V14 := f_V1 4 (by simp)
    have g_V15 := f_V1 5 (by simp)
    have g_V16 := f_V1 6 (by simp)
    have g_V17 := f_V1 7 (by simp)
    have g_V18 := f_V1 8 (by simp)
    have g_V20 := f_V2 0 (by simp)
    have g_V21 := f_V2 1 (by simp)
    have g_V22 := f_V2 2 (by simp)
    have g_V23 := f_V2 3 (by simp)
    have g_V24 := f_V2 4 (by simp)
    have g_V25 := f_V2 5 (by simp)
    have g_V26 := f_V2 6 (by simp)
    have g_V27 := f_V2 7 (by simp)
    have g_V28 := f_V2 8 (by simp)
    simp at g_VX0 g_VX1 g_VX2 g_VX3 g_VX4 g_VX5 g_VX6 g_VX7 g_VX8 g_VY0 g_VY1 g_VY2 g_VY3 g_VY4 g_VY5 g_VY6 g_VY7 g_VY8 g_V10 g_V11 g_V12 g_V13 g_V14 g_V15 g_V16 g_V17 g_V18 g_V20 g_V21 g_V22 g_V23 g_V24 g_V25 g_V26 g_V27 g_V28
    clear f_VX f_VY f_V1 f_V2
    have hG := G.size
    replace G := Hid.mk G
    go_wp2
    go_region
    all_goals
      go_wp2
      refine bodyPost_ret (v := .tuple #[.agg #[.int .i64 xa, .int .i64 xb, .int .i64 xc, .int .i64 xd, .int .i64 xe, .int .i64 xf, .int .i64 xg, .int .i64 xh, .int .i64 xr], .agg #[.int .i64 xa, .int .i64 xb, .int .i64 xc, .int .i64 xd, .int .i64 xe, .int .i64 xf, .int .i64 xg, .int .i64 xh, .int .i64 xr]]) (by simp [results, Try.results34, go_sem, g_V10, g_V20, g_V11, g_V21, g_V12, g_V22, g_V13, g_V23, g_V14, g_V24, g_V15, g_V25, g_V16, g_V26, g_V17, g_V27, g_V18, g_V28]) rfl ⟨⟨xa, xb, xc, xd, xe, xf, xg, xh, xr⟩, ⟨xa, xb, xc, xd, xe, xf, xg, xh, xr⟩, rfl, ?_⟩
      replace G := G.out
      repeat' first | with_reducible exact G | with_reducible refine Below.setCell ?_ ?_ _ | with_reducible refine Below.drew ?_ | (simp; done) | (simp; omega) | omega

set_option maxHeartbeats 2000000 in
theorem drawMeetSels_ok (a : Option Addr) (n ca : Nat) (zs : List Int) (w : World) (ha : Rd .u8 w a zs) (hb : Bytes zs) (hn : zs.length = n) (hx : n ≤ 1048577) :
    Calls Try.prog 10 #[.slice a n ca] w fun e w' => ∃ x y : S9, e = .returned (.tuple #[.agg #[.int .i64 x.a, .int .i64 x.b, .int .i64 x.c, .int .i64 x.d, .int .i64 x.e, .int .i64 x.f, .int .i64 x.g, .int .i64 x.h, .int .i64 x.r], .agg #[.int .i64 y.a, .int .i64 y.b, .int .i64 y.c, .int .i64 y.d, .int .i64 y.e, .int .i64 y.f, .int .i64 y.g, .int .i64 y.h, .int .i64 y.r]]) ∧ Below w.heap.size w w' := by
  have V1 : V ((w.alloc (.cells #[.int .i64 0, .int .i64 0, .int .i64 0, .int .i64 0, .int .i64 0, .int .i64 0, .int .i64 0, .int .i64 0, .int .i64 0] 27)).alloc (.cells #[.int .i64 0, .int .i64 0, .int .i64 0, .int .i64 0, .int .i64 0, .int .i64 0, .int .i64 0, .int .i64 0, .int .i64 0] 27)) (w.heap.size) [.int .i64 0, .int .i64 0, .int .i64 0, .int .i64 0, .int .i64 0, .int .i64 0, .int .i64 0, .int .i64 0, .int .i64 0] := (V.newAt _ _ _ _ rfl).kept (belowA _ _)
  have V2 : V ((w.alloc (.cells #[.int .i64 0, .int .i64 0, .int .i64 0, .int .i64 0, .int .i64 0, .int .i64 0, .int .i64 0, .int .i64 0, .int .i64 0] 27)).alloc (.cells #[.int .i64 0, .int .i64 0, .int .i64 0, .int .i64 0, .int .i64 0, .int .i64 0, .int .i64 0, .int .i64 0, .int .i64 0] 27)) (w.heap.size + 1) [.int .i64 0, .int .i64 0, .int .i64 0, .int .i64 0, .int .i64 0, .int .i64 0, .int .i64 0, .int .i64 0, .int .i64 0] := V.newAt _ _ _ _ (by simp)
  go_enter Try.func10, Try.ntmps10
  go_wp2_with fail
  refine (l3Two_ok a n ca zs _ (ha.kept (belowA2 _ _ _)) hb hn hx).mono ?_
  rintro e w1 ⟨x, y, rfl, b1⟩
  replace V1 := V1.kept b1
  replace V2 := V2.kept b1
  have G := thenB (belowA2 w _ _) b1
  clear b1
  obtain ⟨s_V1, f_V1, z_V1⟩ := V1.open
  obtain ⟨s_V2, f_V2, z_V2⟩ := V2.open
  have e0 := extractP0 (.agg #[.int .i64 x.a, .int .i64 x.b, .int .i64 x.c, .int .i64 x.d, .int .i64 x.e, .int .i64 x.f, .int .i64 x.g, .int .i64 x.h, .int .i64 x.r]) (.agg #[.int .i64 y.a, .int .i64 y.b, .int .i64 y.c, .int .i64 y.d, .int .i64 y.e, .int .i64 y.f, .int .i64 y.g, .int .i64 y.h, .int .i64 y.r])
  have e1 := extractP1 (.agg #[.int .i64 x.a, .int .i64 x.b, .int .i64 x.c, .int .i64 x.d, .int .i64 x.e, .int .i64 x.f, .int .i64 x.g, .int .i64 x.h, .int .i64 x.r]) (.agg #[.int .i64 y.a, .int .i64 y.b, .int .i64 y.c, .int .i64 y.d, .int .i64 y.e, .int .i64 y.f, .int .i64 y.g, .int .i64 y.h, .int .i64 y.r])
  go_wp2
  refine bodyPost_ret (v := .tuple #[.agg #[.int .i64 x.a, .int .i64 x.b, .int .i64 x.c, .int .i64 x.d, .int .i64 x.e, .int .i64 x.f, .int .i64 x.g, .int .i64 x.h, .int .i64 x.r], .agg #[.int .i64 y.a, .int .i64 y.b, .int .i64 y.c, .int .i64 y.d, .int .i64 y.e, .int .i64 y.f, .int .i64 y.g, .int .i64 y.h, .int .i64 y.r]]) (by simp [results, Try.results10, go_sem, f_V1, f_V2]) rfl ⟨x, y, rfl, ?_⟩
  repeat' first | with_reducible exact G | with_reducible refine Below.setCell ?_ ?_ _ | with_reducible refine Below.drew ?_ | (simp; done) | (simp; omega) | omega

set_option maxHeartbeats 2000000 in
theorem drawWithinSel_ok (a : Option Addr) (n ca : Nat) (zs : List Int) (w : World) (ha : Rd .u8 w a zs) (hb : Bytes zs) (hn : zs.length = n) (hx : n ≤ 1048577) :
    Calls Try.prog 19 #[.slice a n ca] w fun e w' => ∃ x y : S9, e = .returned (.tuple #[.agg #[.int .i64 x.a, .int .i64 x.b, .int .i64 x.c, .int .i64 x.d, .int .i64 x.e, .int .i64 x.f, .int .i64 x.g, .int .i64 x.h, .int .i64 x.r], .agg #[.int .i64 y.a, .int .i64 y.b, .int .i64 y.c, .int .i64 y.d, .int .i64 y.e, .int .i64 y.f, .int .i64 y.g, .int .i64 y.h, .int .i64 y.r]]) ∧ Below w.heap.size w w' := by
  have V1 : V ((w.alloc (.cells #[.int .i64 0, .int .i64 0, .int .i64 0, .int .i64 0, .int .i64 0, .int .i64 0, .int .i64 0, .int .i64 0, .int .i64 0] 27)).alloc (.cells #[.int .i64 0, .int .i64 0, .int .i64 0, .int .i64 0, .int .i64 0, .int .i64 0, .int .i64 0, .int .i64 0, .int .i64 0] 27)) (w.heap.size) [.int .i64 0, .int .i64 0, .int .i64 0, .int .i64 0, .int .i64 0, .int .i64 0, .int .i64 0, .int .i64 0, .int .i64 0] := (V.newAt _ _ _ _ rfl).kept (belowA _ _)
  have V2 : V ((w.alloc (.cells #[.int .i64 0, .int .i64 0, .int .i64 0, .int .i64 0, .int .i64 0, .int .i64 0, .int .i64 0, .int .i64 0, .int .i64 0] 27)).alloc (.cells #[.int .i64 0, .int .i64 0, .int .i64 0, .int .i64 0, .int .i64 0, .int .i64 0, .int .i64 0, .int .i64 0, .int .i64 0] 27)) (w.heap.size + 1) [.int .i64 0, .int .i64 0, .int .i64 0, .int .i64 0, .int .i64 0, .int .i64 0, .int .i64 0, .int .i64 0, .int .i64 0] := V.newAt _ _ _ _ (by simp)
  go_enter Try.func19, Try.ntmps19
  go_wp2_with fail
  refine (l3Two_ok a n ca zs _ (ha.kept (belowA2 _ _ _)) hb hn hx).mono ?_
  rintro e w1 ⟨x, y, rfl, b1⟩
  replace V1 := V1.kept b1
  replace V2 := V2.kept b1
  have G := thenB (belowA2 w _ _) b1
  clear b1
  obtain ⟨s_V1, f_V1, z_V1⟩ := V1.open
  obtain ⟨s_V2, f_V2, z_V2⟩ := V2.open
  have e0 := extractP0 (.agg #[.int .i64 x.a, .int .i64 x.b, .int .i64 x.c, .int .i64 x.d, .int .i64 x.e, .int .i64 x.f, .int .i64 x.g, .int .i64 x.h, .int .i64 x.r]) (.agg #[.int .i64 y.a, .int .i64 y.b, .int .i64 y.c, .int .i64 y.d, .int .i64 y.e, .int .i64 y.f, .int .i64 y.g, .int .i64 y.h, .int .i64 y.r])
  have e1 := extractP1 (.agg #[.int .i64 x.a, .int .i64 x.b, .int .i64 x.c, .int .i64 x.d, .int .i64 x.e, .int .i64 x.f, .int .i64 x.g, .int .i64 x.h, .int .i64 x.r]) (.agg #[.int .i64 y.a, .int .i64 y.b, .int .i64 y.c, .int .i64 y.d, .int .i64 y.e, .int .i64 y.f, .int .i64 y.g, .int .i64 y.h, .int .i64 y.r])
  go_wp2
  refine bodyPost_ret (v := .tuple #[.agg #[.int .i64 x.a, .int .i64 x.b, .int .i64 x.c, .int .i64 x.d, .int .i64 x.e, .int .i64 x.f, .int .i64 x.g, .int .i64 x.h, .int .i64 x.r], .agg #[.int .i64 y.a, .int .i64 y.b, .int .i64 y.c, .int .i64 y.d, .int .i64 y.e, .int .i64 y.f, .int .i64 y.g, .int .i64 y.h, .int .i64 y.r]]) (by simp [results, Try.results19, go_sem, f_V1, f_V2]) rfl ⟨x, y, rfl, ?_⟩
  repeat' first | with_reducible exact G | with_reducible refine Below.setCell ?_ ?_ _ | with_reducible refine Below.drew ?_ | (simp; done) | (simp; omega) | omega

end Go.Proofs.Ytmbkbbephmblmaa
