/- The draw of a packet that may be bent, by its contract (written by gen_bent.py). -/
import Derived.Test.YthjaehcfakjemaaDrawW
namespace Go.Proofs.Ythjaehcfakjemaa
open Go.RowKit

/-- A row that is read is not touched by a store into another block. -/
theorem Rd.past {k : IntKind} {w : World} {c : Nat} {zs : List Int} {p : Addr} (h : Rd k w (some ⟨c, 0, none⟩) zs) (hp : p.block ≠ c) (v : Value) : Rd k (w.setCell p v) (some ⟨c, 0, none⟩) zs := by
  rcases h with h | ⟨b, off, h, hc⟩
  · exact .inl h
  · refine .inr ⟨b, off, h, fun i hi => ?_⟩
    simp only [Option.some.injEq, Addr.mk.injEq, and_true] at h
    obtain ⟨rfl, rfl⟩ := h
    rw [World.cell?_setCell_other w _ _ _ (by intro e; exact hp (by rw [e]))]
    exact hc i hi

set_option maxRecDepth 20000 in
set_option maxHeartbeats 4000000 in
theorem l2Bent_ok (B : Nat) (a : Option Addr) (n ca : Nat) (zs : List Int) (t : Nat) (w : World) (hs : Src w B a n ca zs t) (hb : Bytes zs) (hn : zs.length = n) (hx : n ≤ 1048577) (ht : t ≤ 100) :
    Calls Try.prog 34 #[.pointer (some ⟨B, 0, none⟩)] w fun e w' => ∃ (f t' r l x y : Int) (c d m : Nat) (ys : List Int), e = .returned (.agg #[.int .i64 f, .int .i64 t', .int .i64 r, .int .i64 l, .int .i64 x, .int .i64 y, .slice (some ⟨c, 0, none⟩) m d]) ∧ ys.length = m ∧ m ≤ 201 ∧ Bytes ys ∧ w.heap.size ≤ c ∧ Rd .u8 w' (some ⟨c, 0, none⟩) ys ∧ w.grownBy w' (some B) := by
  have hB := hs.1.1
  obtain ⟨i0, hi, j0, j1, j2⟩ := info_parts Try.info_u8
  have VR := V.new w [.int .i64 0, .int .i64 0, .int .i64 0, .int .i64 0, .int .i64 0, .int .i64 0, .slice none 0 0] 26
  have S := hs.kept (belowA w (.cells #[.int .i64 0, .int .i64 0, .int .i64 0, .int .i64 0, .int .i64 0, .int .i64 0, .slice none 0 0] 26))
  have G := grown_alloc (World.grownBy.refl w (some B)) (.cells #[.int .i64 0, .int .i64 0, .int .i64 0, .int .i64 0, .int .i64 0, .int .i64 0, .slice none 0 0] 26)
  go_enter Try.func34, Try.ntmps34
  go_wp2_with fail
  refine (l2Packet_ok B a n ca zs t _ S hb hn hx (by omega)).mono ?_
  rintro e w1 ⟨f, t', r, l, x, y, c, d, m, ys, q, rfl, hR, hys, hby, O, hq, S1, g1⟩
  have hm8 : m ≤ 8 := hR.2.2.2.2.2.2.2
  have Z1 := g1.size
  simp only [World.size_alloc] at Z1
  have Oc : c < w1.heap.size := (O.lt _ rfl).2
  have Oe : w.heap.size + 1 ≤ c := by have h := (O.lt _ rfl).1; simpa using h
  replace VR := VR.grownB g1 (by omega)
  replace G := grownBy_trans G g1
  have VP := V.new w1 [.int .i64 f, .int .i64 t', .int .i64 r, .int .i64 l, .int .i64 x, .int .i64 y, .slice (some ⟨c, 0, none⟩) m d] 26
  replace VR := VR.kept (belowA w1 (.cells #[.int .i64 f, .int .i64 t', .int .i64 r, .int .i64 l, .int .i64 x, .int .i64 y, .slice (some ⟨c, 0, none⟩) m d] 26))
  replace S1 := S1.kept (belowA w1 (.cells #[.int .i64 f, .int .i64 t', .int .i64 r, .int .i64 l, .int .i64 x, .int .i64 y, .slice (some ⟨c, 0, none⟩) m d] 26))
  replace O := O.kept (belowA w1 (.cells #[.int .i64 f, .int .i64 t', .int .i64 r, .int .i64 l, .int .i64 x, .int .i64 y, .slice (some ⟨c, 0, none⟩) m d] 26))
  replace G := grown_alloc G (.cells #[.int .i64 f, .int .i64 t', .int .i64 r, .int .i64 l, .int .i64 x, .int .i64 y, .slice (some ⟨c, 0, none⟩) m d] 26)
  clear S g1 hR
  go_wp2_with fail
  refine (l1Next_ok B a n ca zs q 20 _ S1 hb hn hx (by omega) (by omega)).mono ?_
  rintro e w2 ⟨k, rfl, hk, _, S2, g2⟩
  obtain ⟨hk1, hk2⟩ := hk (by omega)
  have Z2 := g2.size
  simp only [World.size_alloc] at Z2
  replace VR := VR.grownB g2 (by omega)
  replace VP := VP.grownB g2 (by omega)
  replace O := O.past g2 (by simp; omega)
  replace G := grownBy_trans G g2
  have hne : w1.heap.size ≠ w.heap.size := by omega
  have hne' : w.heap.size ≠ w1.heap.size := by omega
  clear g2 S1
  rcases (by omega : k = 0 ∨ k = 1 ∨ k = 2 ∨ k = 3 ∨ k = 4 ∨ k = 5 ∨ k = 6 ∨ 7 ≤ k) with rfl | rfl | rfl | rfl | rfl | rfl | rfl | h7
  · have S3 := S2.kept (belowA w2 (.cells #[.int .i64 (-1), .int .i64 4294967296] 2))
    replace VR := VR.kept (belowA w2 (.cells #[.int .i64 (-1), .int .i64 4294967296] 2))
    replace VP := VP.kept (belowA w2 (.cells #[.int .i64 (-1), .int .i64 4294967296] 2))
    replace O := O.kept (belowA w2 (.cells #[.int .i64 (-1), .int .i64 4294967296] 2))
    replace G := grown_alloc G (.cells #[.int .i64 (-1), .int .i64 4294967296] 2)
    go_wp2_with fail
    refine (l1Pick_ok B a n ca zs (q + 1) w2.heap.size 2 2 [-1, 4294967296] _ S3 hb hn hx (by omega) rfl (by omega) (by omega) (fun i hi => ?_) (by omega)).mono ?_
    · exact lit_cells w2 [-1, 4294967296] _ _ (by simp) i hi
    rintro e w3 ⟨v, rfl, _, S4, g3⟩
    replace VR := VR.grownB g3 (by omega)
    replace VP := VP.grownB g3 (by omega)
    replace O := O.past g3 (by simp; omega)
    replace G := grownBy_trans G g3
    obtain ⟨s_VP, f_VP, z_VP⟩ := VP.open
    obtain ⟨s_VR, f_VR, z_VR⟩ := VR.open
    have R := O.rd
    have hG := G.size
    go_wp2
    refine bodyPost_ret (v := .agg #[.int .i64 v, .int .i64 t', .int .i64 r, .int .i64 l, .int .i64 x, .int .i64 y, .slice (some ⟨c, 0, none⟩) m d]) (by simp [results, Try.results34, go_sem, f_VR]) rfl ⟨v, t', r, l, x, y, c, d, m, ys, rfl, hys, by omega, hby, by omega, ?_, ?_⟩
    · repeat' first | with_reducible exact R | with_reducible refine Rd.past ?_ ?_ _ | (simp; try omega)
    · repeat' first | with_reducible exact G | with_reducible refine grownSet' ?_ ?_ _ | (simp; try omega)
  · have S3 := S2.kept (belowA w2 (.cells #[.int .i64 (-1), .int .i64 4294967296] 2))
    replace VR := VR.kept (belowA w2 (.cells #[.int .i64 (-1), .int .i64 4294967296] 2))
    replace VP := VP.kept (belowA w2 (.cells #[.int .i64 (-1), .int .i64 4294967296] 2))
    replace O := O.kept (belowA w2 (.cells #[.int .i64 (-1), .int .i64 4294967296] 2))
    replace G := grown_alloc G (.cells #[.int .i64 (-1), .int .i64 4294967296] 2)
    go_wp2_with fail
    refine (l1Pick_ok B a n ca zs (q + 1) w2.heap.size 2 2 [-1, 4294967296] _ S3 hb hn hx (by omega) rfl (by omega) (by omega) (fun i hi => ?_) (by omega)).mono ?_
    · exact lit_cells w2 [-1, 4294967296] _ _ (by simp) i hi
    rintro e w3 ⟨v, rfl, _, S4, g3⟩
    replace VR := VR.grownB g3 (by omega)
    replace VP := VP.grownB g3 (by omega)
    replace O := O.past g3 (by simp; omega)
    replace G := grownBy_trans G g3
    obtain ⟨s_VP, f_VP, z_VP⟩ := VP.open
    obtain ⟨s_VR, f_VR, z_VR⟩ := VR.open
    have R := O.rd
    have hG := G.size
    go_wp2
    refine bodyPost_ret (v := .agg #[.int .i64 f, .int .i64 v, .int .i64 r, .int .i64 l, .int .i64 x, .int .i64 y, .slice (some ⟨c, 0, none⟩) m d]) (by simp [results, Try.results34, go_sem, f_VR]) rfl ⟨f, v, r, l, x, y, c, d, m, ys, rfl, hys, by omega, hby, by omega, ?_, ?_⟩
    · repeat' first | with_reducible exact R | with_reducible refine Rd.past ?_ ?_ _ | (simp; try omega)
    · repeat' first | with_reducible exact G | with_reducible refine grownSet' ?_ ?_ _ | (simp; try omega)
  · have S3 := S2.kept (belowA w2 (.cells #[.int .i64 0, .int .i64 256, .int .i64 255, .int .i64 (-1)] 2))
    replace VR := VR.kept (belowA w2 (.cells #[.int .i64 0, .int .i64 256, .int .i64 255, .int .i64 (-1)] 2))
    replace VP := VP.kept (belowA w2 (.cells #[.int .i64 0, .int .i64 256, .int .i64 255, .int .i64 (-1)] 2))
    replace O := O.kept (belowA w2 (.cells #[.int .i64 0, .int .i64 256, .int .i64 255, .int .i64 (-1)] 2))
    replace G := grown_alloc G (.cells #[.int .i64 0, .int .i64 256, .int .i64 255, .int .i64 (-1)] 2)
    go_wp2_with fail
    refine (l1Pick_ok B a n ca zs (q + 1) w2.heap.size 4 4 [0, 256, 255, -1] _ S3 hb hn hx (by omega) rfl (by omega) (by omega) (fun i hi => ?_) (by omega)).mono ?_
    · exact lit_cells w2 [0, 256, 255, -1] _ _ (by simp) i hi
    rintro e w3 ⟨v, rfl, _, S4, g3⟩
    replace VR := VR.grownB g3 (by omega)
    replace VP := VP.grownB g3 (by omega)
    replace O := O.past g3 (by simp; omega)
    replace G := grownBy_trans G g3
    obtain ⟨s_VP, f_VP, z_VP⟩ := VP.open
    obtain ⟨s_VR, f_VR, z_VR⟩ := VR.open
    have R := O.rd
    have hG := G.size
    go_wp2
    refine bodyPost_ret (v := .agg #[.int .i64 f, .int .i64 t', .int .i64 v, .int .i64 l, .int .i64 x, .int .i64 y, .slice (some ⟨c, 0, none⟩) m d]) (by simp [results, Try.results34, go_sem, f_VR]) rfl ⟨f, t', v, l, x, y, c, d, m, ys, rfl, hys, by omega, hby, by omega, ?_, ?_⟩
    · repeat' first | with_reducible exact R | with_reducible refine Rd.past ?_ ?_ _ | (simp; try omega)
    · repeat' first | with_reducible exact G | with_reducible refine grownSet' ?_ ?_ _ | (simp; try omega)
  · have S3 := S2.kept (belowA w2 (.cells #[.int .i64 0, .int .i64 256, .int .i64 (-1)] 2))
    replace VR := VR.kept (belowA w2 (.cells #[.int .i64 0, .int .i64 256, .int .i64 (-1)] 2))
    replace VP := VP.kept (belowA w2 (.cells #[.int .i64 0, .int .i64 256, .int .i64 (-1)] 2))
    replace O := O.kept (belowA w2 (.cells #[.int .i64 0, .int .i64 256, .int .i64 (-1)] 2))
    replace G := grown_alloc G (.cells #[.int .i64 0, .int .i64 256, .int .i64 (-1)] 2)
    go_wp2_with fail
    refine (l1Pick_ok B a n ca zs (q + 1) w2.heap.size 3 3 [0, 256, -1] _ S3 hb hn hx (by omega) rfl (by omega) (by omega) (fun i hi => ?_) (by omega)).mono ?_
    · exact lit_cells w2 [0, 256, -1] _ _ (by simp) i hi
    rintro e w3 ⟨v, rfl, _, S4, g3⟩
    replace VR := VR.grownB g3 (by omega)
    replace VP := VP.grownB g3 (by omega)
    replace O := O.past g3 (by simp; omega)
    replace G := grownBy_trans G g3
    obtain ⟨s_VP, f_VP, z_VP⟩ := VP.open
    obtain ⟨s_VR, f_VR, z_VR⟩ := VR.open
    have R := O.rd
    have hG := G.size
    go_wp2
    refine bodyPost_ret (v := .agg #[.int .i64 f, .int .i64 t', .int .i64 r, .int .i64 v, .int .i64 x, .int .i64 y, .slice (some ⟨c, 0, none⟩) m d]) (by simp [results, Try.results34, go_sem, f_VR]) rfl ⟨f, t', r, v, x, y, c, d, m, ys, rfl, hys, by omega, hby, by omega, ?_, ?_⟩
    · repeat' first | with_reducible exact R | with_reducible refine Rd.past ?_ ?_ _ | (simp; try omega)
    · repeat' first | with_reducible exact G | with_reducible refine grownSet' ?_ ?_ _ | (simp; try omega)
  · have S3 := S2.kept (belowA w2 (.cells #[.int .i64 (-1), .int .i64 65536, .int .i64 5] 2))
    replace VR := VR.kept (belowA w2 (.cells #[.int .i64 (-1), .int .i64 65536, .int .i64 5] 2))
    replace VP := VP.kept (belowA w2 (.cells #[.int .i64 (-1), .int .i64 65536, .int .i64 5] 2))
    replace O := O.kept (belowA w2 (.cells #[.int .i64 (-1), .int .i64 65536, .int .i64 5] 2))
    replace G := grown_alloc G (.cells #[.int .i64 (-1), .int .i64 65536, .int .i64 5] 2)
    go_wp2_with fail
    refine (l1Pick_ok B a n ca zs (q + 1) w2.heap.size 3 3 [-1, 65536, 5] _ S3 hb hn hx (by omega) rfl (by omega) (by omega) (fun i hi => ?_) (by omega)).mono ?_
    · exact lit_cells w2 [-1, 65536, 5] _ _ (by simp) i hi
    rintro e w3 ⟨v, rfl, _, S4, g3⟩
    replace VR := VR.grownB g3 (by omega)
    replace VP := VP.grownB g3 (by omega)
    replace O := O.past g3 (by simp; omega)
    replace G := grownBy_trans G g3
    obtain ⟨s_VP, f_VP, z_VP⟩ := VP.open
    obtain ⟨s_VR, f_VR, z_VR⟩ := VR.open
    have R := O.rd
    have hG := G.size
    go_wp2
    refine bodyPost_ret (v := .agg #[.int .i64 f, .int .i64 t', .int .i64 r, .int .i64 l, .int .i64 v, .int .i64 y, .slice (some ⟨c, 0, none⟩) m d]) (by simp [results, Try.results34, go_sem, f_VR]) rfl ⟨f, t', r, l, v, y, c, d, m, ys, rfl, hys, by omega, hby, by omega, ?_, ?_⟩
    · repeat' first | with_reducible exact R | with_reducible refine Rd.past ?_ ?_ _ | (simp; try omega)
    · repeat' first | with_reducible exact G | with_reducible refine grownSet' ?_ ?_ _ | (simp; try omega)
  · have S3 := S2.kept (belowA w2 (.cells #[.int .i64 (-1), .int .i64 65536, .int .i64 5] 2))
    replace VR := VR.kept (belowA w2 (.cells #[.int .i64 (-1), .int .i64 65536, .int .i64 5] 2))
    replace VP := VP.kept (belowA w2 (.cells #[.int .i64 (-1), .int .i64 65536, .int .i64 5] 2))
    replace O := O.kept (belowA w2 (.cells #[.int .i64 (-1), .int .i64 65536, .int .i64 5] 2))
    replace G := grown_alloc G (.cells #[.int .i64 (-1), .int .i64 65536, .int .i64 5] 2)
    go_wp2_with fail
    refine (l1Pick_ok B a n ca zs (q + 1) w2.heap.size 3 3 [-1, 65536, 5] _ S3 hb hn hx (by omega) rfl (by omega) (by omega) (fun i hi => ?_) (by omega)).mono ?_
    · exact lit_cells w2 [-1, 65536, 5] _ _ (by simp) i hi
    rintro e w3 ⟨v, rfl, _, S4, g3⟩
    replace VR := VR.grownB g3 (by omega)
    replace VP := VP.grownB g3 (by omega)
    replace O := O.past g3 (by simp; omega)
    replace G := grownBy_trans G g3
    obtain ⟨s_VP, f_VP, z_VP⟩ := VP.open
    obtain ⟨s_VR, f_VR, z_VR⟩ := VR.open
    have R := O.rd
    have hG := G.size
    go_wp2
    refine bodyPost_ret (v := .agg #[.int .i64 f, .int .i64 t', .int .i64 r, .int .i64 l, .int .i64 x, .int .i64 v, .slice (some ⟨c, 0, none⟩) m d]) (by simp [results, Try.results34, go_sem, f_VR]) rfl ⟨f, t', r, l, x, v, c, d, m, ys, rfl, hys, by omega, hby, by omega, ?_, ?_⟩
    · repeat' first | with_reducible exact R | with_reducible refine Rd.past ?_ ?_ _ | (simp; try omega)
    · repeat' first | with_reducible exact G | with_reducible refine grownSet' ?_ ?_ _ | (simp; try omega)
  · go_wp2_with fail
    refine (l1Next_ok B a n ca zs (q + 1) 2 _ S2 hb hn hx (by omega) (by omega)).mono ?_
    rintro e w3 ⟨v, rfl, hv, _, S4, g3⟩
    obtain ⟨hv1, hv2⟩ := hv (by omega)
    obtain ⟨u, hu⟩ : ∃ u : Nat, (200 : Int) + v = (u : Int) := Int.eq_ofNat_of_zero_le (by omega)
    have HU := Hid.mk hu
    have hu2 : u ≤ 201 := by omega
    replace VR := VR.grownB g3 (by omega)
    replace VP := VP.grownB g3 (by omega)
    replace G := grownBy_trans G g3
    have Z3 := g3.size
    obtain ⟨s_VP, f_VP, z_VP⟩ := VP.open
    go_wp2_with (at_make; go_loud (refine wpList_make_full _ rfl _ _ 22 rfl w3.heap.size 5 i0 (.int .u8 0) 1 Try.underlying22 hi j0 j1 .i64 .i64 _ _ u rfl rfl rfl rfl (by rw [j2]; omega) (by unfold maxLen; omega) (Nat.le_refl _) ?_))
    intro w4 hown hgrow
    have O4 : Own .u8 5 w4 w3.heap.size (some ⟨w3.heap.size, 0, none⟩) u (List.replicate u 0) := by
      refine Own.mk (n := u) ?_ (by simp)
      simpa [toList_madeCells_one] using hown
    have bn : Below w3.heap.size w3 w4 := (Below.refl _ _).grown hgrow (Nat.le_refl _) (by intro k hk; cases hk)
    have hb0 : Bytes (List.replicate u (0 : Int)) := fun z hz => by rw [List.eq_of_mem_replicate hz]; decide
    have hl0 : (List.replicate u (0 : Int)).length = u := List.length_replicate
    generalize List.replicate u (0 : Int) = zs0 at *
    replace VP := VP.kept bn
    replace VR := VR.kept bn
    replace G := grownBy_trans G (Below.grownBy bn _)
    have R := O4.rd
    clear hown hgrow bn s_VP f_VP z_VP
    obtain ⟨s_VP, f_VP, z_VP⟩ := VP.open
    obtain ⟨s_VR, f_VR, z_VR⟩ := VR.open
    have hG := G.size
    go_wp2
    refine bodyPost_ret (v := .agg #[.int .i64 f, .int .i64 t', .int .i64 r, .int .i64 l, .int .i64 x, .int .i64 y, .slice (some ⟨w3.heap.size, 0, none⟩) u u]) (by simp [results, Try.results34, go_sem, f_VR]) rfl ⟨f, t', r, l, x, y, w3.heap.size, u, u, zs0, rfl, hl0, by omega, hb0, by omega, ?_, ?_⟩
    · repeat' first | with_reducible exact R | with_reducible refine Rd.past ?_ ?_ _ | (simp; try omega)
    · repeat' first | with_reducible exact G | with_reducible refine grownSet' ?_ ?_ _ | (simp; try omega)
  · have n0 : (k == 0) = false := by simp; omega
    have n1 : (k == 1) = false := by simp; omega
    have n2 : (k == 2) = false := by simp; omega
    have n3 : (k == 3) = false := by simp; omega
    have n4 : (k == 4) = false := by simp; omega
    have n5 : (k == 5) = false := by simp; omega
    have n6 : (k == 6) = false := by simp; omega
    obtain ⟨s_VP, f_VP, z_VP⟩ := VP.open
    obtain ⟨s_VR, f_VR, z_VR⟩ := VR.open
    have R := O.rd
    have hG := G.size
    go_wp2
    refine bodyPost_ret (v := .agg #[.int .i64 f, .int .i64 t', .int .i64 r, .int .i64 l, .int .i64 x, .int .i64 y, .slice (some ⟨c, 0, none⟩) m d]) (by simp [results, Try.results34, go_sem, f_VR]) rfl ⟨f, t', r, l, x, y, c, d, m, ys, rfl, hys, by omega, hby, by omega, ?_, ?_⟩
    · repeat' first | with_reducible exact R | with_reducible refine Rd.past ?_ ?_ _ | (simp; try omega)
    · repeat' first | with_reducible exact G | with_reducible refine grownSet' ?_ ?_ _ | (simp; try omega)

set_option maxHeartbeats 1000000 in
theorem drawBuildPacket_ok (a : Option Addr) (n ca : Nat) (zs : List Int) (w : World) (ha : Rd .u8 w a zs) (hb : Bytes zs) (hn : zs.length = n) (hx : n ≤ 1048577) :
    Calls Try.prog 12 #[.slice a n ca] w fun e w' => ∃ (f t' r l x y : Int) (c d m : Nat) (ys : List Int), e = .returned (.agg #[.int .i64 f, .int .i64 t', .int .i64 r, .int .i64 l, .int .i64 x, .int .i64 y, .slice (some ⟨c, 0, none⟩) m d]) ∧ ys.length = m ∧ m ≤ 201 ∧ Bytes ys ∧ Rd .u8 w' (some ⟨c, 0, none⟩) ys ∧ c ≠ w.heap.size ∧ Below w.heap.size w w' := by
  go_enter Try.func12, Try.ntmps12
  have VR := V.new w [.int .i64 0, .int .i64 0, .int .i64 0, .int .i64 0, .int .i64 0, .int .i64 0, .slice none 0 0] 26
  have hs := Src.new (w.alloc (.cells #[.int .i64 0, .int .i64 0, .int .i64 0, .int .i64 0, .int .i64 0, .int .i64 0, .slice none 0 0] 26)) a n ca zs 57 (ha.kept (belowA _ _))
  go_wp2_with (first | (go_at_call 20; go_in))
  have hs2 := hs
  simp only [World.size_alloc] at hs2
  refine (l2Bent_ok (w.heap.size + 1) a n ca zs 0 _ hs2 hb hn hx (by omega)).mono ?_
  rintro e w1 ⟨f, t', r, l, x, y, c, d, m, ys, rfl, hys, hm, hby, hc, R, G⟩
  simp only [World.size_alloc] at hc
  replace VR := (VR.kept (belowA _ _)).grownB G (by omega)
  have Bo := (belowA2 w (.cells #[.int .i64 0, .int .i64 0, .int .i64 0, .int .i64 0, .int .i64 0, .int .i64 0, .slice none 0 0] 26) (.cells #[.slice a n ca, .int .i64 0] 57)).grown G (by simp; omega) (by intro k hk; simp at hk; omega)
  obtain ⟨s_VR, f_VR, z_VR⟩ := VR.open
  go_wp2
  refine bodyPost_ret (v := .agg #[.int .i64 f, .int .i64 t', .int .i64 r, .int .i64 l, .int .i64 x, .int .i64 y, .slice (some ⟨c, 0, none⟩) m d]) (by simp [results, Try.results12, go_sem, f_VR]) rfl ⟨f, t', r, l, x, y, c, d, m, ys, rfl, hys, hm, hby, ?_, by omega, ?_⟩
  · repeat' first | with_reducible exact R | with_reducible refine Rd.past ?_ ?_ _ | (simp; try omega)
  · repeat' first | with_reducible exact Bo | with_reducible refine Below.setCell ?_ ?_ _ | (simp; try omega)

end Go.Proofs.Ythjaehcfakjemaa
