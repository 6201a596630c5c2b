/- The draws of suites and of lists of them. -/
import Derived.Test.YthaaompkcomfcaaPsI
import Derived.Test.YthaaompkcomfcaaPsN
import Derived.Test.YthaaompkcomfcaaDrawK
import Derived.Deep.CutBlock
namespace Go.Proofs.Ythaaompkcomfcaa
open Go.RowKit

theorem suGrown {w w1 w2 : World} {B : Nat} {row : Option Nat} (h : w.grownBy w1 (some B)) (g : w1.grownBy w2 row) (hr : ∀ q, row = some q → w.heap.size ≤ q) : w.grownBy w2 (some B) :=
  ⟨g.os.trans h.os, g.tape.trans h.tape, g.output.trans h.output, Nat.le_trans h.size g.size, fun k hk hne => (g.block k (Nat.lt_of_lt_of_le hk h.size) (fun e => by have := hr k e.symm; omega)).trans (h.block k hk hne)⟩

theorem suSrc {w : World} {B : Nat} {a : Option Addr} {n ca : Nat} {zs : List Int} {t : Nat} (h : Src w B a n ca zs t) {b : Nat} (hb : B < b) (o : Nat) (vs : List Value) : Src (w.setCells b o vs) B a n ca zs t := by
  induction vs generalizing w o with
  | nil => exact h
  | cons v vs ih => exact ih (h.other (p := ⟨b, o, none⟩) hb v) (o + 1)

theorem suCells {w w' : World} {row : Option Nat} (h : w.grownBy w' row) {b : Nat} (hb : w.heap.size ≤ b) (o : Nat) (vs : List Value) : w.grownBy (w'.setCells b o vs) row := by
  induction vs generalizing w' o with
  | nil => exact h
  | cons v vs ih => exact ih (grownSet' h (p := ⟨b, o, none⟩) hb v) (o + 1)

theorem ownSuite_some {w : World} {base : Nat} {a : Option Addr} {cap : Nat} {xs : List Su} (h : OwnSuite w base a cap xs) (h0 : 0 < xs.length) : ∃ g, a = some ⟨g, 0, Option.none⟩ := by
  rcases h.2 with ⟨h, _⟩ | ⟨g, cap', cur, hv, _⟩
  · simp only [Value.slice.injEq] at h
    omega
  · simp only [Value.slice.injEq] at hv
    exact ⟨g, hv.1⟩

set_option maxRecDepth 20000 in
set_option maxHeartbeats 4000000 in
theorem l8Suite_ok (B : Nat) (a : Option Addr) (n ca : Nat) (zs : List Int) (t : Nat) (w : World) (hs : Src w B a n ca zs t) (hb : Bytes zs) (hn : zs.length = n) (hx : n ≤ 1048577) (ht : t ≤ 900) :
    Calls Try.prog 68 #[.pointer (some ⟨B, 0, none⟩)] w fun e w' => ∃ x : Su, e = .returned (.agg #[.int .i64 x.c, .int .i64 x.b, .int .i64 x.m, .int .i64 x.g]) ∧ Src w' B a n ca zs (t + 4) ∧ w.grownBy w' (some B) := by
  have hBw : B < w.heap.size := hs.1.1
  have hBn : w.heap.size ≠ B := by omega
  go_enter Try.func68, Try.ntmps68
  have VR := V.new w [.int .i64 0, .int .i64 0, .int .i64 0, .int .i64 0] 28
  have S := hs.kept (belowA w (.cells #[.int .i64 0, .int .i64 0, .int .i64 0, .int .i64 0] 28))
  have G := grown_alloc (World.grownBy.refl w (some B)) (.cells #[.int .i64 0, .int .i64 0, .int .i64 0, .int .i64 0] 28)
  clear hs
  go_wp2_with fail
  refine (l1Next_ok B a n ca zs (t) 2 _ S hb hn hx (by omega) (by omega)).mono ?_
  rintro e w1 ⟨v1, rfl, hv, _, S1, g1⟩
  obtain ⟨hl1, hu1⟩ := hv (by omega)
  clear hv
  replace VR := VR.grownB g1 (by omega)
  replace G := grownBy_trans G g1
  have Z1 := g1.size
  try simp only [World.size_alloc] at Z1
  clear S g1
  have S2' := S1.kept (belowA w1 (.cells #[.int .i64 128, .int .i64 256, .int .i64 192] 2))
  clear S1
  replace VR := VR.kept (belowA w1 (.cells #[.int .i64 128, .int .i64 256, .int .i64 192] 2))
  replace G := grown_alloc G (.cells #[.int .i64 128, .int .i64 256, .int .i64 192] 2)
  have hbw3 : w1.heap.size ≠ B := by have h9 := G.size; (try simp only [World.size_alloc] at h9); (try simp only [World.size_alloc]); omega
  go_wp2_with fail
  refine (l1Pick_ok B a n ca zs (t + 1) (w1.heap.size) 3 3 [128, 256, 192] _ S2' hb hn hx (by omega) rfl (by omega) (by omega) (fun i hi => ?_) hbw3).mono ?_
  · exact lit_cells w1 [128, 256, 192] _ _ (by simp) i hi
  rintro e w3 ⟨x3, rfl, hm3, S3, g3⟩
  replace VR := VR.grownB g3 (by omega)
  replace G := grownBy_trans G g3
  have Z3 := g3.size
  try simp only [World.size_alloc] at Z3
  clear S2' g3
  go_wp2_with fail
  refine (l1Next_ok B a n ca zs (t + 1 + 1) 2 _ S3 hb hn hx (by omega) (by omega)).mono ?_
  rintro e w4 ⟨v4, rfl, hv, _, S4, g4⟩
  obtain ⟨hl4, hu4⟩ := hv (by omega)
  clear hv
  replace VR := VR.grownB g4 (by omega)
  replace G := grownBy_trans G g4
  have Z4 := g4.size
  try simp only [World.size_alloc] at Z4
  clear S3 g4
  go_wp2_with fail
  refine (l1Next_ok B a n ca zs (t + 1 + 1 + 1) 2 _ S4 hb hn hx (by omega) (by omega)).mono ?_
  rintro e w5 ⟨v5, rfl, hv, _, S5, g5⟩
  obtain ⟨hl5, hu5⟩ := hv (by omega)
  clear hv
  replace VR := VR.grownB g5 (by omega)
  replace G := grownBy_trans G g5
  have Z5 := g5.size
  try simp only [World.size_alloc] at Z5
  clear S4 g5
  have VF := Hid.mk (VR.filled [.int .i64 (1 + v1), .int .i64 x3, .int .i64 (1 + v4), .int .i64 (1 + v5)] rfl)
  have HT := Hid.mk VR.there
  obtain ⟨s_VR, f_VR, z_VR⟩ := VR.open
  have SF := Hid.mk (suSrc S5 (show B < w.heap.size by omega) 0 [.int .i64 (1 + v1), .int .i64 x3, .int .i64 (1 + v4), .int .i64 (1 + v5)])
  have GF := Hid.mk (suCells G (show w.heap.size ≤ w.heap.size by omega) 0 [.int .i64 (1 + v1), .int .i64 x3, .int .i64 (1 + v4), .int .i64 (1 + v5)])
  go_wp2_with (refine wpList_store_mid rfl 28 _ _ rfl (w.heap.size) 0 #[.int .i64 (1 + v1), .int .i64 x3, .int .i64 (1 + v4), .int .i64 (1 + v5)] rfl rfl HT.out (by kernel_rfl) (by kernel_rfl) ?_)
  refine bodyPost_ret (v := .agg #[.int .i64 (1 + v1), .int .i64 x3, .int .i64 (1 + v4), .int .i64 (1 + v5)]) (results_row Try.results68 _ _ (w.heap.size) [.int .i64 (1 + v1), .int .i64 x3, .int .i64 (1 + v4), .int .i64 (1 + v5)] _ rfl VF.out Try.underlying28 rfl (by kernel_rfl)) rfl ⟨⟨(1 + v1), x3, (1 + v4), (1 + v5)⟩, rfl, SF.out, GF.out⟩

set_option maxRecDepth 20000 in
set_option maxHeartbeats 8000000 in
theorem l8Bent_ok (B : Nat) (a : Option Addr) (n ca : Nat) (zs : List Int) (t : Nat) (w : World) (hs : Src w B a n ca zs t) (hb : Bytes zs) (hn : zs.length = n) (hx : n ≤ 1048577) (ht : t ≤ 900) :
    Calls Try.prog 70 #[.pointer (some ⟨B, 0, none⟩)] w fun e w' => ∃ (x : Su) (q : Nat), e = .returned (.agg #[.int .i64 x.c, .int .i64 x.b, .int .i64 x.m, .int .i64 x.g]) ∧ q ≤ t + 6 ∧ Src w' B a n ca zs q ∧ w.grownBy w' (some B) := by
  have hBw : B < w.heap.size := hs.1.1
  have hBn : w.heap.size ≠ B := by omega
  go_enter Try.func70, Try.ntmps70
  have VR := V.new w [.int .i64 0, .int .i64 0, .int .i64 0, .int .i64 0] 28
  have S := hs.kept (belowA w (.cells #[.int .i64 0, .int .i64 0, .int .i64 0, .int .i64 0] 28))
  have G := grown_alloc (World.grownBy.refl w (some B)) (.cells #[.int .i64 0, .int .i64 0, .int .i64 0, .int .i64 0] 28)
  clear hs
  go_wp2_with fail
  refine (l8Suite_ok B a n ca zs t _ S hb hn hx ht).mono ?_
  rintro e w1 ⟨x, rfl, S1, g1⟩
  replace VR := VR.grownB g1 (by omega)
  replace G := grownBy_trans G g1
  have Z1 := g1.size
  simp only [World.size_alloc] at Z1
  clear S g1
  have VX := V.new w1 [.int .i64 x.c, .int .i64 x.b, .int .i64 x.m, .int .i64 x.g] 28
  have S2' := S1.kept (belowA w1 (.cells #[.int .i64 x.c, .int .i64 x.b, .int .i64 x.m, .int .i64 x.g] 28))
  clear S1
  replace VR := VR.kept (belowA w1 (.cells #[.int .i64 x.c, .int .i64 x.b, .int .i64 x.m, .int .i64 x.g] 28))
  replace G := grown_alloc G (.cells #[.int .i64 x.c, .int .i64 x.b, .int .i64 x.m, .int .i64 x.g] 28)
  go_wp2_with fail
  refine (l1Next_ok B a n ca zs (t + 4) 12 _ S2' hb hn hx (by omega) (by omega)).mono ?_
  rintro e w3 ⟨v3, rfl, hv, _, S3, g3⟩
  obtain ⟨hl3, hu3⟩ := hv (by omega)
  clear hv
  replace VR := VR.grownB g3 (by omega)
  replace VX := VX.grownB g3 (by omega)
  replace G := grownBy_trans G g3
  have Z3 := g3.size
  try simp only [World.size_alloc] at Z3
  clear S2' g3
  rcases (by omega : v3 = 0 ∨ v3 = 1 ∨ v3 = 2 ∨ v3 = 3 ∨ 4 ≤ v3) with rfl | rfl | rfl | rfl | hge
  · have S4' := S3.kept (belowA w3 (.cells #[.int .i64 0, .int .i64 5, .int .i64 4] 2))
    clear S3
    replace VR := VR.kept (belowA w3 (.cells #[.int .i64 0, .int .i64 5, .int .i64 4] 2))
    replace VX := VX.kept (belowA w3 (.cells #[.int .i64 0, .int .i64 5, .int .i64 4] 2))
    replace G := grown_alloc G (.cells #[.int .i64 0, .int .i64 5, .int .i64 4] 2)
    have hbw5 : w3.heap.size ≠ B := by have h9 := G.size; (try simp only [World.size_alloc] at h9); (try simp only [World.size_alloc]); omega
    go_wp2_with fail
    refine (l1Pick_ok B a n ca zs (t + 4 + 1) (w3.heap.size) 3 3 [0, 5, 4] _ S4' hb hn hx (by omega) rfl (by omega) (by omega) (fun i hi => ?_) hbw5).mono ?_
    · exact lit_cells w3 [0, 5, 4] _ _ (by simp) i hi
    rintro e w5 ⟨x5, rfl, hm5, S5, g5⟩
    replace VR := VR.grownB g5 (by omega)
    replace VX := VX.grownB g5 (by omega)
    replace G := grownBy_trans G g5
    have Z5 := g5.size
    try simp only [World.size_alloc] at Z5
    clear S4' g5
    have VXo := VX
    obtain ⟨s_VX, f_VX, z_VX⟩ := VX.open
    have hVX := VX.1
    have VX2 := VX.set (i := 0) (by simp) (.int .i64 x5)
    simp only [List.set_cons_zero] at VX2
    have VR2 := VR.other (p := ⟨w1.heap.size, 0, none⟩) (by simp only; omega) (.int .i64 x5)
    have S2 := S5.other (p := ⟨w1.heap.size, 0, none⟩) (by simp only; omega) (.int .i64 x5)
    have G2 := grownSet' G (p := ⟨w1.heap.size, 0, none⟩) (by simp only; omega) (.int .i64 x5)
    have VF := Hid.mk (VR2.filled [.int .i64 x5, .int .i64 x.b, .int .i64 x.m, .int .i64 x.g] rfl)
    have HT := Hid.mk VR2.there
    have SF := Hid.mk (suSrc S2 (show B < w.heap.size by omega) 0 [.int .i64 x5, .int .i64 x.b, .int .i64 x.m, .int .i64 x.g])
    have GF := Hid.mk (suCells G2 (show w.heap.size ≤ w.heap.size by omega) 0 [.int .i64 x5, .int .i64 x.b, .int .i64 x.m, .int .i64 x.g])
    clear VX2 VR2 S2 G2 VXo
    obtain ⟨s_VR, f_VR, z_VR⟩ := VR.open
    go_wp2_with (refine wpList_store_mid rfl 28 _ _ rfl (w.heap.size) 0 #[.int .i64 x5, .int .i64 x.b, .int .i64 x.m, .int .i64 x.g] rfl rfl HT.out (by kernel_rfl) (by kernel_rfl) ?_)
    refine bodyPost_ret (v := .agg #[.int .i64 x5, .int .i64 x.b, .int .i64 x.m, .int .i64 x.g]) (results_row Try.results70 _ _ (w.heap.size) [.int .i64 x5, .int .i64 x.b, .int .i64 x.m, .int .i64 x.g] _ rfl VF.out Try.underlying28 rfl (by kernel_rfl)) rfl ⟨⟨x5, x.b, x.m, x.g⟩, _, rfl, ?_, SF.out, GF.out⟩
    omega
  · have S4' := S3.kept (belowA w3 (.cells #[.int .i64 0, .int .i64 64, .int .i64 257] 2))
    clear S3
    replace VR := VR.kept (belowA w3 (.cells #[.int .i64 0, .int .i64 64, .int .i64 257] 2))
    replace VX := VX.kept (belowA w3 (.cells #[.int .i64 0, .int .i64 64, .int .i64 257] 2))
    replace G := grown_alloc G (.cells #[.int .i64 0, .int .i64 64, .int .i64 257] 2)
    have hbw5 : w3.heap.size ≠ B := by have h9 := G.size; (try simp only [World.size_alloc] at h9); (try simp only [World.size_alloc]); omega
    go_wp2_with fail
    refine (l1Pick_ok B a n ca zs (t + 4 + 1) (w3.heap.size) 3 3 [0, 64, 257] _ S4' hb hn hx (by omega) rfl (by omega) (by omega) (fun i hi => ?_) hbw5).mono ?_
    · exact lit_cells w3 [0, 64, 257] _ _ (by simp) i hi
    rintro e w5 ⟨x5, rfl, hm5, S5, g5⟩
    replace VR := VR.grownB g5 (by omega)
    replace VX := VX.grownB g5 (by omega)
    replace G := grownBy_trans G g5
    have Z5 := g5.size
    try simp only [World.size_alloc] at Z5
    clear S4' g5
    have VXo := VX
    obtain ⟨s_VX, f_VX, z_VX⟩ := VX.open
    have hVX := VX.1
    have VX2 := VX.set (i := 1) (by simp) (.int .i64 x5)
    simp only [List.set_cons_zero, List.set_cons_succ] at VX2
    have VR2 := VR.other (p := ⟨w1.heap.size, 1, none⟩) (by simp only; omega) (.int .i64 x5)
    have S2 := S5.other (p := ⟨w1.heap.size, 1, none⟩) (by simp only; omega) (.int .i64 x5)
    have G2 := grownSet' G (p := ⟨w1.heap.size, 1, none⟩) (by simp only; omega) (.int .i64 x5)
    have VF := Hid.mk (VR2.filled [.int .i64 x.c, .int .i64 x5, .int .i64 x.m, .int .i64 x.g] rfl)
    have HT := Hid.mk VR2.there
    have SF := Hid.mk (suSrc S2 (show B < w.heap.size by omega) 0 [.int .i64 x.c, .int .i64 x5, .int .i64 x.m, .int .i64 x.g])
    have GF := Hid.mk (suCells G2 (show w.heap.size ≤ w.heap.size by omega) 0 [.int .i64 x.c, .int .i64 x5, .int .i64 x.m, .int .i64 x.g])
    clear VX2 VR2 S2 G2 VXo
    obtain ⟨s_VR, f_VR, z_VR⟩ := VR.open
    go_wp2_with (refine wpList_store_mid rfl 28 _ _ rfl (w.heap.size) 0 #[.int .i64 x.c, .int .i64 x5, .int .i64 x.m, .int .i64 x.g] rfl rfl HT.out (by kernel_rfl) (by kernel_rfl) ?_)
    refine bodyPost_ret (v := .agg #[.int .i64 x.c, .int .i64 x5, .int .i64 x.m, .int .i64 x.g]) (results_row Try.results70 _ _ (w.heap.size) [.int .i64 x.c, .int .i64 x5, .int .i64 x.m, .int .i64 x.g] _ rfl VF.out Try.underlying28 rfl (by kernel_rfl)) rfl ⟨⟨x.c, x5, x.m, x.g⟩, _, rfl, ?_, SF.out, GF.out⟩
    omega
  · have S4' := S3.kept (belowA w3 (.cells #[.int .i64 0, .int .i64 4, .int .i64 3] 2))
    clear S3
    replace VR := VR.kept (belowA w3 (.cells #[.int .i64 0, .int .i64 4, .int .i64 3] 2))
    replace VX := VX.kept (belowA w3 (.cells #[.int .i64 0, .int .i64 4, .int .i64 3] 2))
    replace G := grown_alloc G (.cells #[.int .i64 0, .int .i64 4, .int .i64 3] 2)
    have hbw5 : w3.heap.size ≠ B := by have h9 := G.size; (try simp only [World.size_alloc] at h9); (try simp only [World.size_alloc]); omega
    go_wp2_with fail
    refine (l1Pick_ok B a n ca zs (t + 4 + 1) (w3.heap.size) 3 3 [0, 4, 3] _ S4' hb hn hx (by omega) rfl (by omega) (by omega) (fun i hi => ?_) hbw5).mono ?_
    · exact lit_cells w3 [0, 4, 3] _ _ (by simp) i hi
    rintro e w5 ⟨x5, rfl, hm5, S5, g5⟩
    replace VR := VR.grownB g5 (by omega)
    replace VX := VX.grownB g5 (by omega)
    replace G := grownBy_trans G g5
    have Z5 := g5.size
    try simp only [World.size_alloc] at Z5
    clear S4' g5
    have VXo := VX
    obtain ⟨s_VX, f_VX, z_VX⟩ := VX.open
    have hVX := VX.1
    have VX2 := VX.set (i := 2) (by simp) (.int .i64 x5)
    simp only [List.set_cons_zero, List.set_cons_succ] at VX2
    have VR2 := VR.other (p := ⟨w1.heap.size, 2, none⟩) (by simp only; omega) (.int .i64 x5)
    have S2 := S5.other (p := ⟨w1.heap.size, 2, none⟩) (by simp only; omega) (.int .i64 x5)
    have G2 := grownSet' G (p := ⟨w1.heap.size, 2, none⟩) (by simp only; omega) (.int .i64 x5)
    have VF := Hid.mk (VR2.filled [.int .i64 x.c, .int .i64 x.b, .int .i64 x5, .int .i64 x.g] rfl)
    have HT := Hid.mk VR2.there
    have SF := Hid.mk (suSrc S2 (show B < w.heap.size by omega) 0 [.int .i64 x.c, .int .i64 x.b, .int .i64 x5, .int .i64 x.g])
    have GF := Hid.mk (suCells G2 (show w.heap.size ≤ w.heap.size by omega) 0 [.int .i64 x.c, .int .i64 x.b, .int .i64 x5, .int .i64 x.g])
    clear VX2 VR2 S2 G2 VXo
    obtain ⟨s_VR, f_VR, z_VR⟩ := VR.open
    go_wp2_with (refine wpList_store_mid rfl 28 _ _ rfl (w.heap.size) 0 #[.int .i64 x.c, .int .i64 x.b, .int .i64 x5, .int .i64 x.g] rfl rfl HT.out (by kernel_rfl) (by kernel_rfl) ?_)
    refine bodyPost_ret (v := .agg #[.int .i64 x.c, .int .i64 x.b, .int .i64 x5, .int .i64 x.g]) (results_row Try.results70 _ _ (w.heap.size) [.int .i64 x.c, .int .i64 x.b, .int .i64 x5, .int .i64 x.g] _ rfl VF.out Try.underlying28 rfl (by kernel_rfl)) rfl ⟨⟨x.c, x.b, x5, x.g⟩, _, rfl, ?_, SF.out, GF.out⟩
    omega
  · have S4' := S3.kept (belowA w3 (.cells #[.int .i64 0, .int .i64 7, .int .i64 6] 2))
    clear S3
    replace VR := VR.kept (belowA w3 (.cells #[.int .i64 0, .int .i64 7, .int .i64 6] 2))
    replace VX := VX.kept (belowA w3 (.cells #[.int .i64 0, .int .i64 7, .int .i64 6] 2))
    replace G := grown_alloc G (.cells #[.int .i64 0, .int .i64 7, .int .i64 6] 2)
    have hbw5 : w3.heap.size ≠ B := by have h9 := G.size; (try simp only [World.size_alloc] at h9); (try simp only [World.size_alloc]); omega
    go_wp2_with fail
    refine (l1Pick_ok B a n ca zs (t + 4 + 1) (w3.heap.size) 3 3 [0, 7, 6] _ S4' hb hn hx (by omega) rfl (by omega) (by omega) (fun i hi => ?_) hbw5).mono ?_
    · exact lit_cells w3 [0, 7, 6] _ _ (by simp) i hi
    rintro e w5 ⟨x5, rfl, hm5, S5, g5⟩
    replace VR := VR.grownB g5 (by omega)
    replace VX := VX.grownB g5 (by omega)
    replace G := grownBy_trans G g5
    have Z5 := g5.size
    try simp only [World.size_alloc] at Z5
    clear S4' g5
    have VXo := VX
    obtain ⟨s_VX, f_VX, z_VX⟩ := VX.open
    have hVX := VX.1
    have VX2 := VX.set (i := 3) (by simp) (.int .i64 x5)
    simp only [List.set_cons_zero, List.set_cons_succ] at VX2
    have VR2 := VR.other (p := ⟨w1.heap.size, 3, none⟩) (by simp only; omega) (.int .i64 x5)
    have S2 := S5.other (p := ⟨w1.heap.size, 3, none⟩) (by simp only; omega) (.int .i64 x5)
    have G2 := grownSet' G (p := ⟨w1.heap.size, 3, none⟩) (by simp only; omega) (.int .i64 x5)
    have VF := Hid.mk (VR2.filled [.int .i64 x.c, .int .i64 x.b, .int .i64 x.m, .int .i64 x5] rfl)
    have HT := Hid.mk VR2.there
    have SF := Hid.mk (suSrc S2 (show B < w.heap.size by omega) 0 [.int .i64 x.c, .int .i64 x.b, .int .i64 x.m, .int .i64 x5])
    have GF := Hid.mk (suCells G2 (show w.heap.size ≤ w.heap.size by omega) 0 [.int .i64 x.c, .int .i64 x.b, .int .i64 x.m, .int .i64 x5])
    clear VX2 VR2 S2 G2 VXo
    obtain ⟨s_VR, f_VR, z_VR⟩ := VR.open
    go_wp2_with (refine wpList_store_mid rfl 28 _ _ rfl (w.heap.size) 0 #[.int .i64 x.c, .int .i64 x.b, .int .i64 x.m, .int .i64 x5] rfl rfl HT.out (by kernel_rfl) (by kernel_rfl) ?_)
    refine bodyPost_ret (v := .agg #[.int .i64 x.c, .int .i64 x.b, .int .i64 x.m, .int .i64 x5]) (results_row Try.results70 _ _ (w.heap.size) [.int .i64 x.c, .int .i64 x.b, .int .i64 x.m, .int .i64 x5] _ rfl VF.out Try.underlying28 rfl (by kernel_rfl)) rfl ⟨⟨x.c, x.b, x.m, x5⟩, _, rfl, ?_, SF.out, GF.out⟩
    omega
  · have hn0 : (v3 == 0) = false := by simp; omega
    have hn1 : (v3 == 1) = false := by simp; omega
    have hn2 : (v3 == 2) = false := by simp; omega
    have hn3 : (v3 == 3) = false := by simp; omega
    obtain ⟨s_VX, f_VX, z_VX⟩ := VX.open
    have VF := Hid.mk (VR.filled [.int .i64 x.c, .int .i64 x.b, .int .i64 x.m, .int .i64 x.g] rfl)
    have HT := Hid.mk VR.there
    obtain ⟨s_VR, f_VR, z_VR⟩ := VR.open
    have SF := Hid.mk (suSrc S3 (show B < w.heap.size by omega) 0 [.int .i64 x.c, .int .i64 x.b, .int .i64 x.m, .int .i64 x.g])
    have GF := Hid.mk (suCells G (show w.heap.size ≤ w.heap.size by omega) 0 [.int .i64 x.c, .int .i64 x.b, .int .i64 x.m, .int .i64 x.g])
    go_wp2_with (refine wpList_store_mid rfl 28 _ _ rfl (w.heap.size) 0 #[.int .i64 x.c, .int .i64 x.b, .int .i64 x.m, .int .i64 x.g] rfl rfl HT.out (by kernel_rfl) (by kernel_rfl) ?_)
    refine bodyPost_ret (v := .agg #[.int .i64 x.c, .int .i64 x.b, .int .i64 x.m, .int .i64 x.g]) (results_row Try.results70 _ _ (w.heap.size) [.int .i64 x.c, .int .i64 x.b, .int .i64 x.m, .int .i64 x.g] _ rfl VF.out Try.underlying28 rfl (by kernel_rfl)) rfl ⟨x, _, rfl, by omega, SF.out, GF.out⟩


end Go.Proofs.Ythaaompkcomfcaa
