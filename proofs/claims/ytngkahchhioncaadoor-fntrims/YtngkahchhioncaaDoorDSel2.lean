/- The draws of selectors that may be bent. -/
import Derived.Test.YtngkahchhioncaaDoorDSel
namespace Go.Proofs.YtngkahchhioncaaDoor
open Go.RowKit


set_option maxRecDepth 20000 in
set_option maxHeartbeats 4000000 in
theorem l3Bent_ok (B : Nat) (a : Option Addr) (n ca : Nat) (zs : List Int) (t : Nat) (w : World) (hs : Src w B a n ca zs t) (hb : Bytes zs) (hn : zs.length = n) (hx : n ≤ 1048577) (ht : t ≤ 5000) :
    Calls Tryd.prog 110 #[.pointer (some ⟨B, 0, none⟩)] w fun e w' => ∃ (xa xb xc xd xe xf xg xh xr : Int) (q : Nat), e = .returned (.agg #[.int .i64 xa, .int .i64 xb, .int .i64 xc, .int .i64 xd, .int .i64 xe, .int .i64 xf, .int .i64 xg, .int .i64 xh, .int .i64 xr]) ∧ q ≤ t + 60 ∧ Src w' B a n ca zs q ∧ w.grownBy w' (some B) := by
  have hB := hs.1.1
  have S := hs
  have G := World.grownBy.refl w (some B)
  go_enter Tryd.func110, Tryd.ntmps110
  replace S := S.kept (belowA w (.cells #[.int .i64 0, .int .i64 0, .int .i64 0, .int .i64 0, .int .i64 0, .int .i64 0, .int .i64 0, .int .i64 0, .int .i64 0] 32))
  replace G := grown_alloc G (.cells #[.int .i64 0, .int .i64 0, .int .i64 0, .int .i64 0, .int .i64 0, .int .i64 0, .int .i64 0, .int .i64 0, .int .i64 0] 32)
  have VR : V (w.alloc (.cells #[.int .i64 0, .int .i64 0, .int .i64 0, .int .i64 0, .int .i64 0, .int .i64 0, .int .i64 0, .int .i64 0, .int .i64 0] 32)) (w.heap.size) [.int .i64 0, .int .i64 0, .int .i64 0, .int .i64 0, .int .i64 0, .int .i64 0, .int .i64 0, .int .i64 0, .int .i64 0] := V.newAt _ _ _ _ (by simp)
  obtain ⟨s_VR, f_VR, z_VR⟩ := VR.open
  go_wp2_with fail
  refine (l3Sel_ok B a n ca zs (t) _ S hb hn hx (by omega)).mono ?_
  rintro e w1 ⟨xa, xb, xc, xd, xe, xf, xg, xh, xr, q1, rfl, hq1, S1, g1⟩
  clear s_VR f_VR z_VR
  replace VR := VR.grownB g1 (by (try simp); (try omega))
  replace G := grownBy_trans G g1
  have Z1 := g1.size
  try simp only [World.size_alloc] at Z1
  replace S := S1
  clear g1 S1
  replace VR := VR.kept (belowA w1 (.cells #[.int .i64 xa, .int .i64 xb, .int .i64 xc, .int .i64 xd, .int .i64 xe, .int .i64 xf, .int .i64 xg, .int .i64 xh, .int .i64 xr] 32))
  replace S := S.kept (belowA w1 (.cells #[.int .i64 xa, .int .i64 xb, .int .i64 xc, .int .i64 xd, .int .i64 xe, .int .i64 xf, .int .i64 xg, .int .i64 xh, .int .i64 xr] 32))
  replace G := grown_alloc G (.cells #[.int .i64 xa, .int .i64 xb, .int .i64 xc, .int .i64 xd, .int .i64 xe, .int .i64 xf, .int .i64 xg, .int .i64 xh, .int .i64 xr] 32)
  have VX : V (w1.alloc (.cells #[.int .i64 xa, .int .i64 xb, .int .i64 xc, .int .i64 xd, .int .i64 xe, .int .i64 xf, .int .i64 xg, .int .i64 xh, .int .i64 xr] 32)) (w1.heap.size) [.int .i64 xa, .int .i64 xb, .int .i64 xc, .int .i64 xd, .int .i64 xe, .int .i64 xf, .int .i64 xg, .int .i64 xh, .int .i64 xr] := V.newAt _ _ _ _ (by simp)
  obtain ⟨s_VR, f_VR, z_VR⟩ := VR.open
  obtain ⟨s_VX, f_VX, z_VX⟩ := VX.open
  go_wp2_with fail
  refine (l1Next_ok B a n ca zs (q1) 16 _ S hb hn hx (by omega) (by omega)).mono ?_
  rintro e w2 ⟨v, rfl, hv, _, S2, g2⟩
  clear s_VR f_VR z_VR s_VX f_VX z_VX
  obtain ⟨hv1, hv2⟩ := hv (by omega)
  replace VR := VR.grownB g2 (by (try simp); (try omega))
  replace VX := VX.grownB g2 (by (try simp); (try omega))
  replace G := grownBy_trans G g2
  have Z2 := g2.size
  try simp only [World.size_alloc] at Z2
  replace S := S2
  clear g2 S2
  rcases (by omega : v = 0 ∨ v = 1 ∨ v = 2 ∨ v = 3 ∨ 4 ≤ v) with rfl | rfl | rfl | rfl | hv3
  · skip
    obtain ⟨s_VR, f_VR, z_VR⟩ := VR.open
    obtain ⟨s_VX, f_VX, z_VX⟩ := VX.open
    go_wp2_with fail
    clear s_VR f_VR z_VR s_VX f_VX z_VX
    replace VR := VR.kept (belowA w2 (.cells #[.int .i64 (-1), .int .i64 (wrap64 (xb + 1)), .int .i64 4611686018427387904] 2))
    replace VX := VX.kept (belowA w2 (.cells #[.int .i64 (-1), .int .i64 (wrap64 (xb + 1)), .int .i64 4611686018427387904] 2))
    replace G := grown_alloc G (.cells #[.int .i64 (-1), .int .i64 (wrap64 (xb + 1)), .int .i64 4611686018427387904] 2)
    refine (l1Pick_ok B a n ca zs (q1 + 1) w2.heap.size 3 3 [-1, wrap64 (xb + 1), 4611686018427387904] _ (S.kept (belowA _ _)) hb hn hx (by omega) rfl (by omega) (by omega) (fun i hi => ?_) (by have := S.1.1; omega)).mono ?_
    · exact lit_cells w2 [-1, wrap64 (xb + 1), 4611686018427387904] _ _ (by simp) i hi
    rintro e w3 ⟨u, rfl, _, S3, g3⟩
    replace VR := VR.grownB g3 (by (try simp); (try omega))
    replace VX := VX.grownB g3 (by (try simp); (try omega))
    replace G := grownBy_trans G g3
    have Z3 := g3.size
    try simp only [World.size_alloc] at Z3
    replace S := S3
    clear g3 S3
    obtain ⟨s_VR, f_VR, z_VR⟩ := VR.open
    obtain ⟨s_VX, f_VX, z_VX⟩ := VX.open
    have hG := G.size
    go_wp2
    refine bodyPost_ret (v := .agg #[.int .i64 u, .int .i64 xb, .int .i64 xc, .int .i64 xd, .int .i64 xe, .int .i64 xf, .int .i64 xg, .int .i64 xh, .int .i64 xr]) (by first | (simp [results, Tryd.results110, go_sem]; done) | simp [results, Tryd.results110, go_sem, f_VR]) rfl ⟨u, xb, xc, xd, xe, xf, xg, xh, xr, q1 + 1 + 1, rfl, by omega, ?_, ?_⟩
    · repeat' first | with_reducible exact S | with_reducible refine Src.other ?_ ?_ _ | (simp; done) | (simp; omega) | omega
    · repeat' first | with_reducible exact G | with_reducible refine grownSet' ?_ ?_ _ | (simp; done) | (simp; omega) | omega
  · skip
    obtain ⟨s_VR, f_VR, z_VR⟩ := VR.open
    obtain ⟨s_VX, f_VX, z_VX⟩ := VX.open
    go_wp2_with fail
    clear s_VR f_VR z_VR s_VX f_VX z_VX
    replace VR := VR.kept (belowA w2 (.cells #[.int .i64 4294967296, .int .i64 (-1)] 2))
    replace VX := VX.kept (belowA w2 (.cells #[.int .i64 4294967296, .int .i64 (-1)] 2))
    replace G := grown_alloc G (.cells #[.int .i64 4294967296, .int .i64 (-1)] 2)
    refine (l1Pick_ok B a n ca zs (q1 + 1) w2.heap.size 2 2 [4294967296, -1] _ (S.kept (belowA _ _)) hb hn hx (by omega) rfl (by omega) (by omega) (fun i hi => ?_) (by have := S.1.1; omega)).mono ?_
    · exact lit_cells w2 [4294967296, -1] _ _ (by simp) i hi
    rintro e w3 ⟨u, rfl, _, S3, g3⟩
    replace VR := VR.grownB g3 (by (try simp); (try omega))
    replace VX := VX.grownB g3 (by (try simp); (try omega))
    replace G := grownBy_trans G g3
    have Z3 := g3.size
    try simp only [World.size_alloc] at Z3
    replace S := S3
    clear g3 S3
    obtain ⟨s_VR, f_VR, z_VR⟩ := VR.open
    obtain ⟨s_VX, f_VX, z_VX⟩ := VX.open
    have hG := G.size
    go_wp2
    refine bodyPost_ret (v := .agg #[.int .i64 xa, .int .i64 xb, .int .i64 xc, .int .i64 u, .int .i64 xe, .int .i64 xf, .int .i64 xg, .int .i64 xh, .int .i64 xr]) (by first | (simp [results, Tryd.results110, go_sem]; done) | simp [results, Tryd.results110, go_sem, f_VR]) rfl ⟨xa, xb, xc, u, xe, xf, xg, xh, xr, q1 + 1 + 1, rfl, by omega, ?_, ?_⟩
    · repeat' first | with_reducible exact S | with_reducible refine Src.other ?_ ?_ _ | (simp; done) | (simp; omega) | omega
    · repeat' first | with_reducible exact G | with_reducible refine grownSet' ?_ ?_ _ | (simp; done) | (simp; omega) | omega
  · skip
    obtain ⟨s_VR, f_VR, z_VR⟩ := VR.open
    obtain ⟨s_VX, f_VX, z_VX⟩ := VX.open
    go_wp2_with fail
    clear s_VR f_VR z_VR s_VX f_VX z_VX
    replace VR := VR.kept (belowA w2 (.cells #[.int .i64 65536, .int .i64 5] 2))
    replace VX := VX.kept (belowA w2 (.cells #[.int .i64 65536, .int .i64 5] 2))
    replace G := grown_alloc G (.cells #[.int .i64 65536, .int .i64 5] 2)
    refine (l1Pick_ok B a n ca zs (q1 + 1) w2.heap.size 2 2 [65536, 5] _ (S.kept (belowA _ _)) hb hn hx (by omega) rfl (by omega) (by omega) (fun i hi => ?_) (by have := S.1.1; omega)).mono ?_
    · exact lit_cells w2 [65536, 5] _ _ (by simp) i hi
    rintro e w3 ⟨u, rfl, _, S3, g3⟩
    replace VR := VR.grownB g3 (by (try simp); (try omega))
    replace VX := VX.grownB g3 (by (try simp); (try omega))
    replace G := grownBy_trans G g3
    have Z3 := g3.size
    try simp only [World.size_alloc] at Z3
    replace S := S3
    clear g3 S3
    obtain ⟨s_VR, f_VR, z_VR⟩ := VR.open
    obtain ⟨s_VX, f_VX, z_VX⟩ := VX.open
    have hG := G.size
    go_wp2
    refine bodyPost_ret (v := .agg #[.int .i64 xa, .int .i64 xb, .int .i64 xc, .int .i64 xd, .int .i64 xe, .int .i64 xf, .int .i64 xg, .int .i64 u, .int .i64 xr]) (by first | (simp [results, Tryd.results110, go_sem]; done) | simp [results, Tryd.results110, go_sem, f_VR]) rfl ⟨xa, xb, xc, xd, xe, xf, xg, u, xr, q1 + 1 + 1, rfl, by omega, ?_, ?_⟩
    · repeat' first | with_reducible exact S | with_reducible refine Src.other ?_ ?_ _ | (simp; done) | (simp; omega) | omega
    · repeat' first | with_reducible exact G | with_reducible refine grownSet' ?_ ?_ _ | (simp; done) | (simp; omega) | omega
  · skip
    obtain ⟨s_VR, f_VR, z_VR⟩ := VR.open
    obtain ⟨s_VX, f_VX, z_VX⟩ := VX.open
    go_wp2_with fail
    clear s_VR f_VR z_VR s_VX f_VX z_VX
    replace VR := VR.kept (belowA w2 (.cells #[.int .i64 (-1), .int .i64 256, .int .i64 1, .int .i64 255] 2))
    replace VX := VX.kept (belowA w2 (.cells #[.int .i64 (-1), .int .i64 256, .int .i64 1, .int .i64 255] 2))
    replace G := grown_alloc G (.cells #[.int .i64 (-1), .int .i64 256, .int .i64 1, .int .i64 255] 2)
    refine (l1Pick_ok B a n ca zs (q1 + 1) w2.heap.size 4 4 [-1, 256, 1, 255] _ (S.kept (belowA _ _)) hb hn hx (by omega) rfl (by omega) (by omega) (fun i hi => ?_) (by have := S.1.1; omega)).mono ?_
    · exact lit_cells w2 [-1, 256, 1, 255] _ _ (by simp) i hi
    rintro e w3 ⟨u, rfl, _, S3, g3⟩
    replace VR := VR.grownB g3 (by (try simp); (try omega))
    replace VX := VX.grownB g3 (by (try simp); (try omega))
    replace G := grownBy_trans G g3
    have Z3 := g3.size
    try simp only [World.size_alloc] at Z3
    replace S := S3
    clear g3 S3
    obtain ⟨s_VR, f_VR, z_VR⟩ := VR.open
    obtain ⟨s_VX, f_VX, z_VX⟩ := VX.open
    have hG := G.size
    go_wp2
    refine bodyPost_ret (v := .agg #[.int .i64 xa, .int .i64 xb, .int .i64 xc, .int .i64 xd, .int .i64 xe, .int .i64 xf, .int .i64 xg, .int .i64 xh, .int .i64 u]) (by first | (simp [results, Tryd.results110, go_sem]; done) | simp [results, Tryd.results110, go_sem, f_VR]) rfl ⟨xa, xb, xc, xd, xe, xf, xg, xh, u, q1 + 1 + 1, rfl, by omega, ?_, ?_⟩
    · repeat' first | with_reducible exact S | with_reducible refine Src.other ?_ ?_ _ | (simp; done) | (simp; omega) | omega
    · repeat' first | with_reducible exact G | with_reducible refine grownSet' ?_ ?_ _ | (simp; done) | (simp; omega) | omega
  · have n0 : (v == 0) = false := by simp; omega
    have n1 : (v == 1) = false := by simp; omega
    have n2 : (v == 2) = false := by simp; omega
    have n3 : (v == 3) = false := by simp; omega
    obtain ⟨s_VR, f_VR, z_VR⟩ := VR.open
    obtain ⟨s_VX, f_VX, z_VX⟩ := VX.open
    have hG := G.size
    go_wp2
    refine bodyPost_ret (v := .agg #[.int .i64 xa, .int .i64 xb, .int .i64 xc, .int .i64 xd, .int .i64 xe, .int .i64 xf, .int .i64 xg, .int .i64 xh, .int .i64 xr]) (by first | (simp [results, Tryd.results110, go_sem]; done) | simp [results, Tryd.results110, go_sem, f_VR]) rfl ⟨xa, xb, xc, xd, xe, xf, xg, xh, xr, q1 + 1, rfl, by omega, ?_, ?_⟩
    · repeat' first | with_reducible exact S | with_reducible refine Src.other ?_ ?_ _ | (simp; done) | (simp; omega) | omega
    · repeat' first | with_reducible exact G | with_reducible refine grownSet' ?_ ?_ _ | (simp; done) | (simp; omega) | omega

end Go.Proofs.YtngkahchhioncaaDoor
