/- The draws of policies that may be bent. -/
import Derived.Test.YtngkahchhioncaaDoorDPol
import Derived.Test.YtngkahchhioncaaDoorDSel3
namespace Go.Proofs.YtngkahchhioncaaDoor
open Go.RowKit

set_option maxRecDepth 20000 in
set_option maxHeartbeats 8000000 in
theorem l4Bent_ok (B : Nat) (a : Option Addr) (n ca : Nat) (zs : List Int) (t : Nat) (w : World) (hs : Src w B a n ca zs t) (hb : Bytes zs) (hn : zs.length = n) (hx : n ≤ 1048577) (ht : t ≤ 100) :
    Calls Tryd.prog 63 #[.pointer (some ⟨B, 0, none⟩)] w fun e w' => ∃ (c d m : Nat) (xs : List R11) (q : Nat), e = .returned (.slice (some ⟨c, 0, none⟩) m d) ∧ m ≤ 21 ∧ xs.length = m ∧ OwnRule w' w.heap.size (some ⟨c, 0, none⟩) d xs ∧ q ≤ t + 950 ∧ Src w' B a n ca zs q ∧ w.grownBy w' (some B) := by
  have hBw : B < w.heap.size := hs.1.1
  go_enter Tryd.func63, Tryd.ntmps63
  have S := hs.kept (belowA w (.cells #[.int .i64 1, .int .i64 2, .int .i64 3, .int .i64 4, .int .i64 5, .int .i64 0, .int .i64 20] 2))
  have G := grown_alloc (World.grownBy.refl w (some B)) (.cells #[.int .i64 1, .int .i64 2, .int .i64 3, .int .i64 4, .int .i64 5, .int .i64 0, .int .i64 20] 2)
  go_wp2_with fail
  refine (l1Pick_ok B a n ca zs t w.heap.size 7 7 [1, 2, 3, 4, 5, 0, 20] _ S hb hn hx (by omega) rfl (by omega) (by omega) (fun i hi => ?_) (by omega)).mono ?_
  · exact lit_cells w [1, 2, 3, 4, 5, 0, 20] _ _ (by simp) i hi
  rintro e w1 ⟨x, rfl, hmem, S1, g1⟩
  have hx1 : 0 ≤ x ∧ x ≤ 20 := by
    simp at hmem
    rcases hmem with rfl | rfl | rfl | rfl | rfl | rfl | rfl <;> omega
  obtain ⟨x1, x2⟩ := hx1
  obtain ⟨m, rfl⟩ := Int.eq_ofNat_of_zero_le x1
  have hm20 : m ≤ 20 := by omega
  clear hmem x1 x2
  replace G := grownBy_trans G g1
  have hGz := G.size
  clear S g1 hs
  go_wp2_with fail
  refine (l4Policy_ok B a n ca zs (t + 1) m _ S1 hb hn hx (by omega) hm20).mono ?_
  rintro e w2 ⟨c, d, xs, q, rfl, hl, O, hq, S2, g2⟩
  replace O := O.mono hGz
  replace G := grownBy_trans G g2
  clear S1 g2
  by_cases h0 : m = 0
  · subst h0
    have O' := Hid.mk O
    have S' := Hid.mk S2
    have G' := Hid.mk G
    have hl' := Hid.mk hl
    clear O S2 G hl
    go_wp2
    go_ret
    exact ⟨c, d, 0, xs, q, rfl, by omega, hl'.out, O'.out, by omega, S'.out, G'.out⟩
  have hm0 : ((m : Int) == 0) = false := by simp; omega
  have hmp : 1 ≤ m := by omega
  have hl' := Hid.mk hl
  clear hl h0
  have O' := Hid.mk O
  clear O
  go_wp2_with fail
  refine (l1Next_ok B a n ca zs q (m : Int) _ S2 hb hn hx (by omega) (by omega)).mono ?_
  rintro e w3 ⟨v, rfl, hv, _, S3, g3⟩
  obtain ⟨hv1, hv2⟩ := hv (by omega)
  obtain ⟨i, rfl⟩ := Int.eq_ofNat_of_zero_le hv1
  have him : i < m := by omega
  have O := O'.out.grown g3 (fun b hb => by have := (O'.out.lt b hb).1; simp; omega)
  replace G := grownBy_trans G g3
  clear S2 g3 O' hv hv1
  have O' := Hid.mk O
  clear O
  go_wp2_with fail
  refine (l1Next_ok B a n ca zs (q + 1) 20 _ S3 hb hn hx (by omega) (by omega)).mono ?_
  rintro e w4 ⟨u, rfl, hu, _, S4, g4⟩
  obtain ⟨hu1, hu2⟩ := hu (by omega)
  have O := O'.out.grown g4 (fun b hb => by have := (O'.out.lt b hb).1; simp; omega)
  replace G := grownBy_trans G g4
  clear S3 g4 O' hu
  have hcw := O.lt ⟨c, 0, none⟩ rfl
  simp only at hcw
  have hi1 : (i : Int) < (m : Int) := by omega
  rcases (by omega : u = 0 ∨ u = 1 ∨ u = 2 ∨ u = 3 ∨ 4 ≤ u) with rfl | rfl | rfl | rfl | hu3
  · have O' := Hid.mk O
    clear O
    go_wp2_with fail
    refine (l3Bent_ok B a n ca zs (q + 1 + 1) _ S4 hb hn hx (by omega)).mono ?_
    rintro e w5 ⟨xa, xb, xc, xd, xe, xf, xg, xh, xr, q5, rfl, hq5, S5, g5⟩
    have O := O'.out.grown g5 (fun b hb => by have := (O'.out.lt b hb).1; simp; omega)
    replace G := grownBy_trans G g5
    clear S4 g5 O'
    have zF := fun o => World.ownsRow.frozenAt O o
    obtain ⟨y, hy⟩ : ∃ y, xs.getD i zRule = y := ⟨_, rfl⟩
    obtain ⟨p0, p1, p2, p3, p4, p5, p6, p7, p8, p9, p10⟩ := RdRule.at O.rd i (by rw [hl'.out]; exact him) y hy
    simp only [Nat.zero_add] at p0 p1 p2 p3 p4 p5 p6 p7 p8 p9 p10
    clear hy
    have O0 := O.poke i 0 (by (try simp only [List.length_set]); rw [hl'.out]; exact him) (by decide) xa
    have O1 := O0.poke i 1 (by (try simp only [List.length_set]); rw [hl'.out]; exact him) (by decide) xb
    have O2 := O1.poke i 2 (by (try simp only [List.length_set]); rw [hl'.out]; exact him) (by decide) xc
    have O3 := O2.poke i 3 (by (try simp only [List.length_set]); rw [hl'.out]; exact him) (by decide) xd
    have O4 := O3.poke i 4 (by (try simp only [List.length_set]); rw [hl'.out]; exact him) (by decide) xe
    have O5 := O4.poke i 5 (by (try simp only [List.length_set]); rw [hl'.out]; exact him) (by decide) xf
    have O6 := O5.poke i 6 (by (try simp only [List.length_set]); rw [hl'.out]; exact him) (by decide) xg
    have O7 := O6.poke i 7 (by (try simp only [List.length_set]); rw [hl'.out]; exact him) (by decide) xh
    have O8 := O7.poke i 8 (by (try simp only [List.length_set]); rw [hl'.out]; exact him) (by decide) xr
    have OZ := Hid.mk O8
    have S' := Hid.mk S5
    have G' := Hid.mk G
    clear O0 O1 O2 O3 O4 O5 O6 O7 O8 O S5 G
    go_wp2
    go_ret
    refine ⟨c, d, m, _, q5, rfl, by omega, ?_, OZ.out, by omega, (((((((((S'.out.other (by simp; omega) _).other (by simp; omega) _).other (by simp; omega) _).other (by simp; omega) _).other (by simp; omega) _).other (by simp; omega) _).other (by simp; omega) _).other (by simp; omega) _).other (by simp; omega) _), (grownSet' (grownSet' (grownSet' (grownSet' (grownSet' (grownSet' (grownSet' (grownSet' (grownSet' G'.out (by simp; omega) _) (by simp; omega) _) (by simp; omega) _) (by simp; omega) _) (by simp; omega) _) (by simp; omega) _) (by simp; omega) _) (by simp; omega) _) (by simp; omega) _)⟩
    simp only [List.length_set]
    exact hl'.out
  · have O' := Hid.mk O
    clear O
    have S4' := S4.kept (belowA w4 (.cells #[.int .i64 0, .int .i64 4, .int .i64 1, .int .i64 3] 2))
    have O4' := Hid.mk (O'.out.kept (belowA w4 (.cells #[.int .i64 0, .int .i64 4, .int .i64 1, .int .i64 3] 2)))
    replace G := grown_alloc G (.cells #[.int .i64 0, .int .i64 4, .int .i64 1, .int .i64 3] 2)
    go_wp2_with fail
    refine (l1Pick_ok B a n ca zs (q + 1 + 1) w4.heap.size 4 4 [0, 4, 1, 3] _ S4' hb hn hx (by omega) rfl (by omega) (by omega) (fun i hi => ?_) (by have := S4.1.1; omega)).mono ?_
    · exact lit_cells w4 [0, 4, 1, 3] _ _ (by simp) i hi
    rintro e w5 ⟨z, rfl, _, S5, g5⟩
    have O := O4'.out.grown g5 (fun b hb => by have := (O4'.out.lt b hb).1; simp; omega)
    clear S4' O4'
    replace G := grownBy_trans G g5
    clear S4 g5 O'
    have zF := fun o => World.ownsRow.frozenAt O o
    obtain ⟨y, hy⟩ : ∃ y, xs.getD i zRule = y := ⟨_, rfl⟩
    obtain ⟨p0, p1, p2, p3, p4, p5, p6, p7, p8, p9, p10⟩ := RdRule.at O.rd i (by rw [hl'.out]; exact him) y hy
    simp only [Nat.zero_add] at p0 p1 p2 p3 p4 p5 p6 p7 p8 p9 p10
    clear hy
    have O0 := O.poke i 9 (by (try simp only [List.length_set]); rw [hl'.out]; exact him) (by decide) z
    have OZ := Hid.mk O0
    have S' := Hid.mk S5
    have G' := Hid.mk G
    clear O0 O S5 G
    go_wp2
    go_ret
    refine ⟨c, d, m, _, q + 1 + 1 + 1, rfl, by omega, ?_, OZ.out, by omega, (S'.out.other (by simp; omega) _), (grownSet' G'.out (by simp; omega) _)⟩
    simp only [List.length_set]
    exact hl'.out
  · have O' := Hid.mk O
    clear O
    have S4' := S4.kept (belowA w4 (.cells #[.int .i64 0, .int .i64 10, .int .i64 5] 2))
    have O4' := Hid.mk (O'.out.kept (belowA w4 (.cells #[.int .i64 0, .int .i64 10, .int .i64 5] 2)))
    replace G := grown_alloc G (.cells #[.int .i64 0, .int .i64 10, .int .i64 5] 2)
    go_wp2_with fail
    refine (l1Pick_ok B a n ca zs (q + 1 + 1) w4.heap.size 3 3 [0, 10, 5] _ S4' hb hn hx (by omega) rfl (by omega) (by omega) (fun i hi => ?_) (by have := S4.1.1; omega)).mono ?_
    · exact lit_cells w4 [0, 10, 5] _ _ (by simp) i hi
    rintro e w5 ⟨z, rfl, _, S5, g5⟩
    have O := O4'.out.grown g5 (fun b hb => by have := (O4'.out.lt b hb).1; simp; omega)
    clear S4' O4'
    replace G := grownBy_trans G g5
    clear S4 g5 O'
    have zF := fun o => World.ownsRow.frozenAt O o
    obtain ⟨y, hy⟩ : ∃ y, xs.getD i zRule = y := ⟨_, rfl⟩
    obtain ⟨p0, p1, p2, p3, p4, p5, p6, p7, p8, p9, p10⟩ := RdRule.at O.rd i (by rw [hl'.out]; exact him) y hy
    simp only [Nat.zero_add] at p0 p1 p2 p3 p4 p5 p6 p7 p8 p9 p10
    clear hy
    have O0 := O.poke i 10 (by (try simp only [List.length_set]); rw [hl'.out]; exact him) (by decide) z
    have OZ := Hid.mk O0
    have S' := Hid.mk S5
    have G' := Hid.mk G
    clear O0 O S5 G
    go_wp2
    go_ret
    refine ⟨c, d, m, _, q + 1 + 1 + 1, rfl, by omega, ?_, OZ.out, by omega, (S'.out.other (by simp; omega) _), (grownSet' G'.out (by simp; omega) _)⟩
    simp only [List.length_set]
    exact hl'.out
  · have S' := Hid.mk S4
    have G' := Hid.mk G
    have hGz4 := G.size
    clear O S4 G
    obtain ⟨i0, hi, hz0, hz1, hz2⟩ := info_parts Tryd.infoRule
    go_wp2_with (at_make; refine wpList_make_full _ rfl _ _ 24 rfl w4.heap.size 34 i0 (.agg #[.int .i64 0, .int .i64 0, .int .i64 0, .int .i64 0, .int .i64 0, .int .i64 0, .int .i64 0, .int .i64 0, .int .i64 0, .int .i64 0, .int .i64 0]) 11 Tryd.underlying24 hi hz0 hz1 .i64 .i64 _ _ 21 rfl rfl rfl rfl (by rw [hz2]; omega) (by unfold maxLen; omega) (Nat.le_refl _) ?_)
    intro w5 hown hgrow
    have hown0 : w5.ownsRow w4.heap.size 34 11 (.slice (some ⟨w4.heap.size, 0, none⟩) 21 21) 21 (flatRule (List.replicate 21 zRule)) := by
      rw [zerosRule, ← madeRule]
      exact hown
    have OZ := Hid.mk (OwnRule.mono (base' := w.heap.size) (show OwnRule w5 w4.heap.size (some ⟨w4.heap.size, 0, none⟩) 21 (List.replicate 21 zRule) by unfold OwnRule; rw [List.length_replicate]; exact hown0) hGz4)
    have hbel : Below w4.heap.size w4 w5 := (Below.refl _ _).grown hgrow (Nat.le_refl _) (by intro k hk; cases hk)
    have S5 := Hid.mk (S'.out.kept hbel)
    have G5 := Hid.mk (grownBy_trans G'.out (Below.grownBy hbel _))
    clear hown hgrow hown0 hbel
    go_wp2
    go_ret
    exact ⟨w4.heap.size, 21, 21, _, q + 1 + 1, rfl, by omega, List.length_replicate, OZ.out, by omega, S5.out, G5.out⟩
  · have O' := Hid.mk O
    have S' := Hid.mk S4
    have G' := Hid.mk G
    have hu4 : (u == 0) = false := by simp; omega
    have hu5 : (u == 1) = false := by simp; omega
    have hu6 : (u == 2) = false := by simp; omega
    have hu7 : (u == 3) = false := by simp; omega
    clear O S4 G
    go_wp2
    go_ret
    exact ⟨c, d, m, xs, q + 1 + 1, rfl, by omega, hl'.out, O'.out, by omega, S'.out, G'.out⟩

end Go.Proofs.YtngkahchhioncaaDoor
