/- The draws of ranges and selectors. -/
import Derived.Test.YtngkahchhioncaaDoorDrawK
import Derived.Test.YtngkahchhioncaaDoorDrawC
import Derived.Test.YtngkahchhioncaaDoorSelB
import Derived.Test.YtngkahchhioncaaDoorSelI
namespace Go.Proofs.YtngkahchhioncaaDoor
open Go.RowKit

theorem build_rngH (w : World) : (Instr.build 30 #[(1, .int .i64 4294967295)]).run Tryd.prog w = .ok (.agg #[.int .i64 0, .int .i64 4294967295]) w := run_build w 30 _ _ (by kernel_rfl)


set_option maxHeartbeats 4000000 in
theorem l3Addresses_ok (B : Nat) (a : Option Addr) (n ca : Nat) (zs : List Int) (t : Nat) (w : World) (hs : Src w B a n ca zs t) (hb : Bytes zs) (hn : zs.length = n) (hx : n ≤ 1048577) (ht : t ≤ 20000) :
    Calls Tryd.prog 153 #[.pointer (some ⟨B, 0, none⟩)] w fun e w' => ∃ (l h : Int) (q : Nat), e = .returned (.agg #[.int .i64 l, .int .i64 h]) ∧ q ≤ t + 4 ∧ Src w' B a n ca zs q ∧ w.grownBy w' (some B) := by
  have qb := build_rng
  have qh := build_rngH
  have hB := hs.1.1
  have S := hs
  have G := World.grownBy.refl w (some B)
  go_enter Tryd.func153, Tryd.ntmps153
  replace S := S.kept (belowA w (.cells #[.int .i64 0, .int .i64 0] 30))
  replace G := grown_alloc G (.cells #[.int .i64 0, .int .i64 0] 30)
  have VR : V (w.alloc (.cells #[.int .i64 0, .int .i64 0] 30)) (w.heap.size) [.int .i64 0, .int .i64 0] := V.newAt _ _ _ _ (by simp)
  obtain ⟨s_VR, f_VR, z_VR⟩ := VR.open
  go_wp2_with fail
  refine (l1Next_ok B a n ca zs (t) 4 _ S hb hn hx (by omega) (by omega)).mono ?_
  rintro e w1 ⟨v, rfl, hv, _, S1, g1⟩
  clear s_VR f_VR z_VR
  obtain ⟨hv1, hv2⟩ := hv (by omega)
  replace VR := VR.grownB g1 (by (try simp); (try omega))
  replace G := grownBy_trans G g1
  have Z1 := g1.size
  try simp only [World.size_alloc] at Z1
  replace S := S1
  clear g1 S1
  rcases (by omega : v = 0 ∨ v = 1 ∨ 2 ≤ v) with rfl | rfl | hv3
  · obtain ⟨s_VR, f_VR, z_VR⟩ := VR.open
    have hG := G.size
    go_wp2
    refine bodyPost_ret (v := .agg #[.int .i64 0, .int .i64 4294967295]) (by first | (simp [results, Tryd.results153, go_sem]; done) | simp [results, Tryd.results153, go_sem, f_VR]) rfl ⟨0, 4294967295, t + 1, rfl, by omega, ?_, ?_⟩
    · repeat' first | with_reducible exact S | with_reducible refine Src.other ?_ ?_ _ | (simp; done) | (simp; omega) | omega
    · repeat' first | with_reducible exact G | with_reducible refine grownSet' ?_ ?_ _ | (simp; done) | (simp; omega) | omega
  · skip
    obtain ⟨s_VR, f_VR, z_VR⟩ := VR.open
    go_wp2_with fail
    refine (l1Next_ok B a n ca zs (t + 1) 6 _ S hb hn hx (by omega) (by omega)).mono ?_
    rintro e w2 ⟨u, rfl, hu, _, S2, g2⟩
    clear s_VR f_VR z_VR
    obtain ⟨hu1, hu2⟩ := hu (by omega)
    replace VR := VR.grownB g2 (by (try simp); (try omega))
    replace G := grownBy_trans G g2
    have Z2 := g2.size
    replace S := S2
    clear g2 S2
    obtain ⟨s_VR, f_VR, z_VR⟩ := VR.open
    have hG := G.size
    go_wp2
    refine bodyPost_ret (v := .agg #[.int .i64 (167772160 + u), .int .i64 (167772160 + u)]) (by first | (simp [results, Tryd.results153, go_sem]; done) | simp [results, Tryd.results153, go_sem, f_VR]) rfl ⟨_, _, t + 1 + 1, rfl, by omega, ?_, ?_⟩
    · repeat' first | with_reducible exact S | with_reducible refine Src.other ?_ ?_ _ | (simp; done) | (simp; omega) | omega
    · repeat' first | with_reducible exact G | with_reducible refine grownSet' ?_ ?_ _ | (simp; done) | (simp; omega) | omega
  · have n0 : (v == 0) = false := by simp; omega
    have n1 : (v == 1) = false := by simp; omega
    obtain ⟨s_VR, f_VR, z_VR⟩ := VR.open
    go_wp2_with fail
    refine (l1Next_ok B a n ca zs (t + 1) 6 _ S hb hn hx (by omega) (by omega)).mono ?_
    rintro e w2 ⟨u, rfl, hu, _, S2, g2⟩
    clear s_VR f_VR z_VR
    obtain ⟨hu1, hu2⟩ := hu (by omega)
    replace VR := VR.grownB g2 (by (try simp); (try omega))
    replace G := grownBy_trans G g2
    have Z2 := g2.size
    replace S := S2
    clear g2 S2
    obtain ⟨s_VR, f_VR, z_VR⟩ := VR.open
    go_wp2_with fail
    refine (l1Next_ok B a n ca zs (t + 1 + 1) 5 _ S hb hn hx (by omega) (by omega)).mono ?_
    rintro e w3 ⟨y, rfl, hy, _, S3, g3⟩
    clear s_VR f_VR z_VR
    obtain ⟨hy1, hy2⟩ := hy (by omega)
    replace VR := VR.grownB g3 (by (try simp); (try omega))
    replace G := grownBy_trans G g3
    have Z3 := g3.size
    replace S := S3
    clear g3 S3
    obtain ⟨s_VR, f_VR, z_VR⟩ := VR.open
    have hG := G.size
    go_wp2
    refine bodyPost_ret (v := .agg #[.int .i64 (167772160 + u), .int .i64 (167772160 + u + y)]) (by first | (simp [results, Tryd.results153, go_sem]; done) | simp [results, Tryd.results153, go_sem, f_VR]) rfl ⟨_, _, t + 1 + 1 + 1, rfl, by omega, ?_, ?_⟩
    · repeat' first | with_reducible exact S | with_reducible refine Src.other ?_ ?_ _ | (simp; done) | (simp; omega) | omega
    · repeat' first | with_reducible exact G | with_reducible refine grownSet' ?_ ?_ _ | (simp; done) | (simp; omega) | omega

set_option maxHeartbeats 4000000 in
theorem l3Ports_ok (B : Nat) (a : Option Addr) (n ca : Nat) (zs : List Int) (t : Nat) (w : World) (hs : Src w B a n ca zs t) (hb : Bytes zs) (hn : zs.length = n) (hx : n ≤ 1048577) (ht : t ≤ 20000) :
    Calls Tryd.prog 154 #[.pointer (some ⟨B, 0, none⟩)] w fun e w' => ∃ (l h : Int) (q : Nat), e = .returned (.agg #[.int .i64 l, .int .i64 h]) ∧ q ≤ t + 4 ∧ Src w' B a n ca zs q ∧ w.grownBy w' (some B) := by
  have qb := build_rng
  have hB := hs.1.1
  have S := hs
  have G := World.grownBy.refl w (some B)
  go_enter Tryd.func154, Tryd.ntmps154
  replace S := S.kept (belowA w (.cells #[.int .i64 0, .int .i64 0] 30))
  replace G := grown_alloc G (.cells #[.int .i64 0, .int .i64 0] 30)
  have VR : V (w.alloc (.cells #[.int .i64 0, .int .i64 0] 30)) (w.heap.size) [.int .i64 0, .int .i64 0] := V.newAt _ _ _ _ (by simp)
  obtain ⟨s_VR, f_VR, z_VR⟩ := VR.open
  go_wp2_with fail
  refine (l1Next_ok B a n ca zs (t) 3 _ S hb hn hx (by omega) (by omega)).mono ?_
  rintro e w1 ⟨v, rfl, hv, _, S1, g1⟩
  clear s_VR f_VR z_VR
  obtain ⟨hv1, hv2⟩ := hv (by omega)
  replace VR := VR.grownB g1 (by (try simp); (try omega))
  replace G := grownBy_trans G g1
  have Z1 := g1.size
  try simp only [World.size_alloc] at Z1
  replace S := S1
  clear g1 S1
  rcases (by omega : v = 0 ∨ v = 1 ∨ 2 ≤ v) with rfl | rfl | hv3
  · skip
    obtain ⟨s_VR, f_VR, z_VR⟩ := VR.open
    go_wp2_with fail
    clear s_VR f_VR z_VR
    replace VR := VR.kept (belowA w1 (.cells #[.int .i64 80, .int .i64 443, .int .i64 22] 2))
    replace G := grown_alloc G (.cells #[.int .i64 80, .int .i64 443, .int .i64 22] 2)
    refine (l1Pick_ok B a n ca zs (t + 1) w1.heap.size 3 3 [80, 443, 22] _ (S.kept (belowA _ _)) hb hn hx (by omega) rfl (by omega) (by omega) (fun i hi => ?_) (by have := S.1.1; omega)).mono ?_
    · exact lit_cells w1 [80, 443, 22] _ _ (by simp) i hi
    rintro e w2 ⟨u, rfl, _, S2, g2⟩
    replace VR := VR.grownB g2 (by (try simp); (try omega))
    replace G := grownBy_trans G g2
    have Z2 := g2.size
    try simp only [World.size_alloc] at Z2
    replace S := S2
    clear g2 S2
    obtain ⟨s_VR, f_VR, z_VR⟩ := VR.open
    have hG := G.size
    go_wp2
    refine bodyPost_ret (v := .agg #[.int .i64 u, .int .i64 u]) (by first | (simp [results, Tryd.results154, go_sem]; done) | simp [results, Tryd.results154, go_sem, f_VR]) rfl ⟨_, _, t + 1 + 1, rfl, by omega, ?_, ?_⟩
    · repeat' first | with_reducible exact S | with_reducible refine Src.other ?_ ?_ _ | (simp; done) | (simp; omega) | omega
    · repeat' first | with_reducible exact G | with_reducible refine grownSet' ?_ ?_ _ | (simp; done) | (simp; omega) | omega
  · obtain ⟨s_VR, f_VR, z_VR⟩ := VR.open
    have hG := G.size
    go_wp2
    refine bodyPost_ret (v := .agg #[.int .i64 22, .int .i64 1024]) (by first | (simp [results, Tryd.results154, go_sem]; done) | simp [results, Tryd.results154, go_sem, f_VR]) rfl ⟨_, _, t + 1, rfl, by omega, ?_, ?_⟩
    · repeat' first | with_reducible exact S | with_reducible refine Src.other ?_ ?_ _ | (simp; done) | (simp; omega) | omega
    · repeat' first | with_reducible exact G | with_reducible refine grownSet' ?_ ?_ _ | (simp; done) | (simp; omega) | omega
  · have n0 : (v == 0) = false := by simp; omega
    have n1 : (v == 1) = false := by simp; omega
    obtain ⟨s_VR, f_VR, z_VR⟩ := VR.open
    go_wp2_with fail
    refine (l3All_ok _).mono ?_
    rintro e w2 ⟨rfl, b2⟩
    clear s_VR f_VR z_VR
    replace VR := VR.kept b2
    replace S := S.kept b2
    replace G := grownBy_trans G (Below.grownBy b2 _)
    have Z2 := b2.size
    clear b2
    obtain ⟨s_VR, f_VR, z_VR⟩ := VR.open
    have hG := G.size
    go_wp2
    refine bodyPost_ret (v := .agg #[.int .i64 0, .int .i64 65535]) (by first | (simp [results, Tryd.results154, go_sem]; done) | simp [results, Tryd.results154, go_sem, f_VR]) rfl ⟨_, _, t + 1, rfl, by omega, ?_, ?_⟩
    · repeat' first | with_reducible exact S | with_reducible refine Src.other ?_ ?_ _ | (simp; done) | (simp; omega) | omega
    · repeat' first | with_reducible exact G | with_reducible refine grownSet' ?_ ?_ _ | (simp; done) | (simp; omega) | omega

set_option maxHeartbeats 4000000 in
theorem l3Sel_ok (B : Nat) (a : Option Addr) (n ca : Nat) (zs : List Int) (t : Nat) (w : World) (hs : Src w B a n ca zs t) (hb : Bytes zs) (hn : zs.length = n) (hx : n ≤ 1048577) (ht : t ≤ 10000) :
    Calls Tryd.prog 134 #[.pointer (some ⟨B, 0, none⟩)] w fun e w' => ∃ (xa xb xc xd xe xf xg xh xr : Int) (q : Nat), e = .returned (.agg #[.int .i64 xa, .int .i64 xb, .int .i64 xc, .int .i64 xd, .int .i64 xe, .int .i64 xf, .int .i64 xg, .int .i64 xh, .int .i64 xr]) ∧ q ≤ t + 40 ∧ Src w' B a n ca zs q ∧ w.grownBy w' (some B) := by
  have qb := build_sel
  have hB := hs.1.1
  have S := hs
  have G := World.grownBy.refl w (some B)
  go_enter Tryd.func134, Tryd.ntmps134
  replace S := S.kept (belowA w (.cells #[.int .i64 0, .int .i64 0, .int .i64 0, .int .i64 0, .int .i64 0, .int .i64 0, .int .i64 0, .int .i64 0, .int .i64 0] 32))
  replace G := grown_alloc G (.cells #[.int .i64 0, .int .i64 0, .int .i64 0, .int .i64 0, .int .i64 0, .int .i64 0, .int .i64 0, .int .i64 0, .int .i64 0] 32)
  have VR : V (w.alloc (.cells #[.int .i64 0, .int .i64 0, .int .i64 0, .int .i64 0, .int .i64 0, .int .i64 0, .int .i64 0, .int .i64 0, .int .i64 0] 32)) (w.heap.size) [.int .i64 0, .int .i64 0, .int .i64 0, .int .i64 0, .int .i64 0, .int .i64 0, .int .i64 0, .int .i64 0, .int .i64 0] := V.newAt _ _ _ _ (by simp)
  obtain ⟨s_VR, f_VR, z_VR⟩ := VR.open
  go_wp2_with fail
  refine (l3Addresses_ok B a n ca zs (t) _ S hb hn hx (by omega)).mono ?_
  rintro e w1 ⟨l0, k0, q1, rfl, hq1, S1, g1⟩
  clear s_VR f_VR z_VR
  replace VR := VR.grownB g1 (by (try simp); (try omega))
  replace G := grownBy_trans G g1
  have Z1 := g1.size
  try simp only [World.size_alloc] at Z1
  replace S := S1
  clear g1 S1
  obtain ⟨s_VR, f_VR, z_VR⟩ := VR.open
  go_wp2_with fail
  refine (l3Addresses_ok B a n ca zs (q1) _ S hb hn hx (by omega)).mono ?_
  rintro e w2 ⟨l1, k1, q2, rfl, hq2, S2, g2⟩
  clear s_VR f_VR z_VR
  replace VR := VR.grownB g2 (by (try simp); (try omega))
  replace G := grownBy_trans G g2
  have Z2 := g2.size
  replace S := S2
  clear g2 S2
  obtain ⟨s_VR, f_VR, z_VR⟩ := VR.open
  go_wp2_with fail
  refine (l3All_ok _).mono ?_
  rintro e w3 ⟨rfl, b3⟩
  clear s_VR f_VR z_VR
  replace VR := VR.kept b3
  replace S := S.kept b3
  replace G := grownBy_trans G (Below.grownBy b3 _)
  have Z3 := b3.size
  clear b3
  obtain ⟨s_VR, f_VR, z_VR⟩ := VR.open
  go_wp2_with fail
  refine (l3All_ok _).mono ?_
  rintro e w4 ⟨rfl, b4⟩
  clear s_VR f_VR z_VR
  replace VR := VR.kept b4
  replace S := S.kept b4
  replace G := grownBy_trans G (Below.grownBy b4 _)
  have Z4 := b4.size
  clear b4
  obtain ⟨s_VR, f_VR, z_VR⟩ := VR.open
  go_wp2_with fail
  clear s_VR f_VR z_VR
  replace VR := VR.kept (belowA w4 (.cells #[.int .i64 0, .int .i64 6, .int .i64 17, .int .i64 6, .int .i64 0, .int .i64 1, .int .i64 50] 2))
  replace G := grown_alloc G (.cells #[.int .i64 0, .int .i64 6, .int .i64 17, .int .i64 6, .int .i64 0, .int .i64 1, .int .i64 50] 2)
  refine (l1Pick_ok B a n ca zs (q2) w4.heap.size 7 7 [0, 6, 17, 6, 0, 1, 50] _ (S.kept (belowA _ _)) hb hn hx (by omega) rfl (by omega) (by omega) (fun i hi => ?_) (by have := S.1.1; omega)).mono ?_
  · exact lit_cells w4 [0, 6, 17, 6, 0, 1, 50] _ _ (by simp) i hi
  rintro e w5 ⟨r, rfl, _, S5, g5⟩
  replace VR := VR.grownB g5 (by (try simp); (try omega))
  replace G := grownBy_trans G g5
  have Z5 := g5.size
  try simp only [World.size_alloc] at Z5
  replace S := S5
  clear g5 S5
  replace qb := qb ⟨l0, k0, l1, k1, 0, 65535, 0, 65535, r⟩
  dsimp only at qb
  replace VR := VR.kept (belowA w5 (.cells #[.int .i64 l0, .int .i64 k0, .int .i64 l1, .int .i64 k1, .int .i64 0, .int .i64 65535, .int .i64 0, .int .i64 65535, .int .i64 r] 32))
  replace S := S.kept (belowA w5 (.cells #[.int .i64 l0, .int .i64 k0, .int .i64 l1, .int .i64 k1, .int .i64 0, .int .i64 65535, .int .i64 0, .int .i64 65535, .int .i64 r] 32))
  replace G := grown_alloc G (.cells #[.int .i64 l0, .int .i64 k0, .int .i64 l1, .int .i64 k1, .int .i64 0, .int .i64 65535, .int .i64 0, .int .i64 65535, .int .i64 r] 32)
  have VX : V (w5.alloc (.cells #[.int .i64 l0, .int .i64 k0, .int .i64 l1, .int .i64 k1, .int .i64 0, .int .i64 65535, .int .i64 0, .int .i64 65535, .int .i64 r] 32)) (w5.heap.size) [.int .i64 l0, .int .i64 k0, .int .i64 l1, .int .i64 k1, .int .i64 0, .int .i64 65535, .int .i64 0, .int .i64 65535, .int .i64 r] := V.newAt _ _ _ _ (by simp)
  obtain ⟨s_VR, f_VR, z_VR⟩ := VR.open
  obtain ⟨s_VX, f_VX, z_VX⟩ := VX.open
  have hr0 : (r == 0) = true ∨ ((r == 0) = false ∧ portsP r = true) ∨ ((r == 0) = false ∧ portsP r = false) := by cases (r == 0) <;> cases portsP r <;> simp
  rcases hr0 with hr0 | hr0 | hr0
  · have r0 : (r == 0) = true := hr0
    clear hr0
    go_wp2_with (first | (go_at_call 119; refine (specHasPorts_ok _ _).mono ?_; rintro e wq ⟨rfl, rfl⟩) | fail)
    refine (l3All_ok _).mono ?_
    rintro e w6 ⟨rfl, b6⟩
    clear s_VR f_VR z_VR s_VX f_VX z_VX
    replace VR := VR.kept b6
    replace VX := VX.kept b6
    replace S := S.kept b6
    replace G := grownBy_trans G (Below.grownBy b6 _)
    have Z6 := b6.size
    try simp only [World.size_alloc] at Z6
    clear b6
    obtain ⟨s_VR, f_VR, z_VR⟩ := VR.open
    obtain ⟨s_VX, f_VX, z_VX⟩ := VX.open
    replace VR := VR.other (p := ⟨w5.heap.size, 4, none⟩) (by (try simp); (try omega)) (.int .i64 0)
    replace VX := VX.set (i := 4) (by simp) (.int .i64 0)
    simp only [List.set_cons_zero, List.set_cons_succ] at VX
    replace S := S.other (p := ⟨w5.heap.size, 4, none⟩) (by (try simp); omega) (.int .i64 0)
    replace G := grownSet' G (p := ⟨w5.heap.size, 4, none⟩) (by (try simp); (try omega)) (.int .i64 0)
    replace VR := VR.other (p := ⟨w5.heap.size, 5, none⟩) (by (try simp); (try omega)) (.int .i64 65535)
    replace VX := VX.set (i := 5) (by simp) (.int .i64 65535)
    simp only [List.set_cons_zero, List.set_cons_succ] at VX
    replace S := S.other (p := ⟨w5.heap.size, 5, none⟩) (by (try simp); omega) (.int .i64 65535)
    replace G := grownSet' G (p := ⟨w5.heap.size, 5, none⟩) (by (try simp); (try omega)) (.int .i64 65535)
    go_wp2_with fail
    refine (l3Ports_ok B a n ca zs (q2 + 1) _ S hb hn hx (by omega)).mono ?_
    rintro e w7 ⟨l2, k2, q7, rfl, hq7, S7, g7⟩
    clear s_VR f_VR z_VR s_VX f_VX z_VX
    replace VR := VR.grownB g7 (by (try simp); (try omega))
    replace VX := VX.grownB g7 (by (try simp); (try omega))
    replace G := grownBy_trans G g7
    have Z7 := g7.size
    try simp only [World.size_setCell] at Z7
    replace S := S7
    clear g7 S7
    replace VR := VR.other (p := ⟨w5.heap.size, 6, none⟩) (by (try simp); (try omega)) (.int .i64 l2)
    obtain ⟨s_VR, f_VR, z_VR⟩ := VR.open
    obtain ⟨s_VX, f_VX, z_VX⟩ := VX.open
    have hG := G.size
    try simp only [World.size_setCell] at hG
    go_wp2
    refine bodyPost_ret (v := .agg #[.int .i64 l0, .int .i64 k0, .int .i64 l1, .int .i64 k1, .int .i64 0, .int .i64 65535, .int .i64 l2, .int .i64 k2, .int .i64 r]) (by first | (simp [results, Tryd.results134, go_sem]; done) | simp [results, Tryd.results134, go_sem, f_VR]) rfl ⟨l0, k0, l1, k1, 0, 65535, l2, k2, r, q7, rfl, by omega, ?_, ?_⟩
    · repeat' first | with_reducible exact S | with_reducible refine Src.other ?_ ?_ _ | (simp; done) | (simp; omega) | omega
    · repeat' first | with_reducible exact G | with_reducible refine grownSet' ?_ ?_ _ | (simp; done) | (simp; omega) | omega
  · have r0 : (r == 0) = false := hr0.1
    have r1 : portsP r = true := hr0.2
    clear hr0
    go_wp2_with (first | (go_at_call 119; refine (specHasPorts_ok _ _).mono ?_; rintro e wq ⟨rfl, rfl⟩) | fail)
    refine (l3All_ok _).mono ?_
    rintro e w6 ⟨rfl, b6⟩
    clear s_VR f_VR z_VR s_VX f_VX z_VX
    replace VR := VR.kept b6
    replace VX := VX.kept b6
    replace S := S.kept b6
    replace G := grownBy_trans G (Below.grownBy b6 _)
    have Z6 := b6.size
    try simp only [World.size_alloc] at Z6
    clear b6
    obtain ⟨s_VR, f_VR, z_VR⟩ := VR.open
    obtain ⟨s_VX, f_VX, z_VX⟩ := VX.open
    replace VR := VR.other (p := ⟨w5.heap.size, 4, none⟩) (by (try simp); (try omega)) (.int .i64 0)
    replace VX := VX.set (i := 4) (by simp) (.int .i64 0)
    simp only [List.set_cons_zero, List.set_cons_succ] at VX
    replace S := S.other (p := ⟨w5.heap.size, 4, none⟩) (by (try simp); omega) (.int .i64 0)
    replace G := grownSet' G (p := ⟨w5.heap.size, 4, none⟩) (by (try simp); (try omega)) (.int .i64 0)
    replace VR := VR.other (p := ⟨w5.heap.size, 5, none⟩) (by (try simp); (try omega)) (.int .i64 65535)
    replace VX := VX.set (i := 5) (by simp) (.int .i64 65535)
    simp only [List.set_cons_zero, List.set_cons_succ] at VX
    replace S := S.other (p := ⟨w5.heap.size, 5, none⟩) (by (try simp); omega) (.int .i64 65535)
    replace G := grownSet' G (p := ⟨w5.heap.size, 5, none⟩) (by (try simp); (try omega)) (.int .i64 65535)
    go_wp2_with fail
    refine (l3Ports_ok B a n ca zs (q2 + 1) _ S hb hn hx (by omega)).mono ?_
    rintro e w7 ⟨l2, k2, q7, rfl, hq7, S7, g7⟩
    clear s_VR f_VR z_VR s_VX f_VX z_VX
    replace VR := VR.grownB g7 (by (try simp); (try omega))
    replace VX := VX.grownB g7 (by (try simp); (try omega))
    replace G := grownBy_trans G g7
    have Z7 := g7.size
    try simp only [World.size_setCell] at Z7
    replace S := S7
    clear g7 S7
    replace VR := VR.other (p := ⟨w5.heap.size, 6, none⟩) (by (try simp); (try omega)) (.int .i64 l2)
    obtain ⟨s_VR, f_VR, z_VR⟩ := VR.open
    obtain ⟨s_VX, f_VX, z_VX⟩ := VX.open
    have hG := G.size
    try simp only [World.size_setCell] at hG
    go_wp2
    refine bodyPost_ret (v := .agg #[.int .i64 l0, .int .i64 k0, .int .i64 l1, .int .i64 k1, .int .i64 0, .int .i64 65535, .int .i64 l2, .int .i64 k2, .int .i64 r]) (by first | (simp [results, Tryd.results134, go_sem]; done) | simp [results, Tryd.results134, go_sem, f_VR]) rfl ⟨l0, k0, l1, k1, 0, 65535, l2, k2, r, q7, rfl, by omega, ?_, ?_⟩
    · repeat' first | with_reducible exact S | with_reducible refine Src.other ?_ ?_ _ | (simp; done) | (simp; omega) | omega
    · repeat' first | with_reducible exact G | with_reducible refine grownSet' ?_ ?_ _ | (simp; done) | (simp; omega) | omega
  · have r0 : (r == 0) = false := hr0.1
    have r1 : portsP r = false := hr0.2
    clear hr0
    clear s_VR f_VR z_VR s_VX f_VX z_VX
    obtain ⟨s_VR, f_VR, z_VR⟩ := VR.open
    obtain ⟨s_VX, f_VX, z_VX⟩ := VX.open
    have hG := G.size
    try simp only [World.size_alloc] at hG
    go_wp2_with (first | (go_at_call 119; refine (specHasPorts_ok _ _).mono ?_; rintro e wq ⟨rfl, rfl⟩) | fail)
    refine bodyPost_ret (v := .agg #[.int .i64 l0, .int .i64 k0, .int .i64 l1, .int .i64 k1, .int .i64 0, .int .i64 65535, .int .i64 0, .int .i64 65535, .int .i64 r]) (by first | (simp [results, Tryd.results134, go_sem]; done) | simp [results, Tryd.results134, go_sem, f_VR]) rfl ⟨l0, k0, l1, k1, 0, 65535, 0, 65535, r, q2 + 1, rfl, by omega, ?_, ?_⟩
    · repeat' first | with_reducible exact S | with_reducible refine Src.other ?_ ?_ _ | (simp; done) | (simp; omega) | omega
    · repeat' first | with_reducible exact G | with_reducible refine grownSet' ?_ ?_ _ | (simp; done) | (simp; omega) | omega

end Go.Proofs.YtngkahchhioncaaDoor
