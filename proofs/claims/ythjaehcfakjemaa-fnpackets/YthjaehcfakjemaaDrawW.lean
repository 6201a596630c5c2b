/- The draw of a packet's bytes, by its contract. -/
import Derived.Test.YthjaehcfakjemaaDrawK
import Derived.Test.YthjaehcfakjemaaRound
import Derived.Test.YthjaehcfakjemaaDrawC
import Derived.Test.YthjaehcfakjemaaAppZ
import Derived.Deep.DeepCutAuto
namespace Go.Proofs.Ythjaehcfakjemaa
open Go.RowKit

theorem Own.prefix {k : IntKind} {e : TypeId} {w : World} {base g cap : Nat} {zs : List Int} (h : Own k e w base (some ⟨g, 0, none⟩) cap zs) (i : Nat) : Rd k w (some ⟨g, 0, none⟩) (zs.take i) := Rd.take h.rd i

theorem Own.store {k : IntKind} {e : TypeId} {w : World} {base g cap : Nat} {zs : List Int} (h : Own k e w base (some ⟨g, 0, none⟩) cap zs) (j : Nat) (u : Int) : Own k e (w.setCell ⟨g, j, none⟩ (.int k u)) base (some ⟨g, 0, none⟩) cap (zs.set j u) := by
  have h2 := (h.stored j (.int k u)).1
  rw [set_map] at h2
  exact Own.mk h2 (by simp)

theorem Own.cellAt {k : IntKind} {e : TypeId} {w : World} {base g cap : Nat} {zs : List Int} (h : Own k e w base (some ⟨g, 0, none⟩) cap zs) (j : Nat) (hj : j < zs.length) : w.cell? ⟨g, j, none⟩ = some (.int k (zs.getD j 0)) := by
  rw [World.ownsRow.cellAt h j (by simpa using hj)]
  simp [List.getD, hj]

theorem Own.frozenAt {k : IntKind} {e : TypeId} {w : World} {base g cap : Nat} {zs : List Int} (h : Own k e w base (some ⟨g, 0, none⟩) cap zs) (j : Nat) : w.frozen? ⟨g, j, none⟩ = false := World.ownsRow.frozenAt h j

theorem Bytes.set {zs : List Int} (h : Bytes zs) (j : Nat) {u : Int} (hu : 0 ≤ u ∧ u < 256) : Bytes (zs.set j u) := by
  intro z hz
  rcases List.mem_or_eq_of_mem_set hz with h1 | rfl
  · exact h z h1
  · exact hu

theorem grownBelow {w w1 w2 : World} {row : Option Nat} (h : w.grownBy w1 row) (hb : Below w.heap.size w1 w2) : w.grownBy w2 row :=
  ⟨hb.os.trans h.os, hb.tape.trans h.tape, hb.output.trans h.output, Nat.le_trans h.size hb.size, fun k hk hr => (hb.block k hk).trans (h.block k hk hr)⟩

set_option maxRecDepth 20000 in
set_option maxHeartbeats 4000000 in
theorem l2Wire_ok (B : Nat) (a : Option Addr) (n ca : Nat) (zs : List Int) (t : Nat) (w : World) (hs : Src w B a n ca zs t) (hb : Bytes zs) (hn : zs.length = n) (hx : n ≤ 1048577) (ht : t ≤ 100) :
    Calls Try.prog 19 #[.pointer (some ⟨B, 0, none⟩)] w fun e w' => ∃ (g d m : Nat) (ys : List Int), e = .returned (.slice (some ⟨g, 0, none⟩) m d) ∧ ys.length = m ∧ m ≤ 1000 ∧ m ≤ d ∧ Bytes ys ∧ Rd .u8 w' (some ⟨g, 0, none⟩) ys ∧ w.grownBy w' (some B) := by
  have hB := hs.1.1
  obtain ⟨i0, hi, j0, j1, j2⟩ := info_parts Try.info_u8
  go_enter Try.func19, Try.ntmps19
  go_wp2_with fail
  refine (l2Packet_ok B a n ca zs t _ hs hb hn hx (by omega)).mono ?_
  rintro e w1 ⟨f, t', r, l, x, y, c, d, m, ys, q, rfl, hR, hys, hby, O, hq, S, G⟩
  obtain ⟨hf, ht', hr, hl, hx1, hy1, hp, hm8⟩ := hR
  have Z := G.size
  have Oc : c < w1.heap.size := (O.lt _ rfl).2
  have VP := V.new w1 [.int .i64 f, .int .i64 t', .int .i64 r, .int .i64 l, .int .i64 x, .int .i64 y, .slice (some ⟨c, 0, none⟩) m d] 26
  replace S := S.kept (belowA w1 (.cells #[.int .i64 f, .int .i64 t', .int .i64 r, .int .i64 l, .int .i64 x, .int .i64 y, .slice (some ⟨c, 0, none⟩) m d] 26))
  replace O := O.kept (belowA w1 (.cells #[.int .i64 f, .int .i64 t', .int .i64 r, .int .i64 l, .int .i64 x, .int .i64 y, .slice (some ⟨c, 0, none⟩) m d] 26))
  replace G := grown_alloc G (.cells #[.int .i64 f, .int .i64 t', .int .i64 r, .int .i64 l, .int .i64 x, .int .i64 y, .slice (some ⟨c, 0, none⟩) m d] 26)
  go_wp2_with fail
  refine (l1Chance_ok B a n ca zs q 20 _ S hb hn hx (by omega) (by omega)).mono ?_
  rintro e w2 ⟨v2, rfl, S2, g2⟩
  have Z2 := g2.size
  simp only [World.size_alloc] at Z2
  replace VP := VP.grownB g2 (by omega)
  replace O := O.past g2 (by omega)
  replace G := grownBy_trans G g2
  clear g2 S
  go_upto_if 10 with fail
  go_cut [] (fun wx => ∃ (c' : Nat) (d' m' : Nat) (ys' : List Int), V wx w1.heap.size [.int .i64 f, .int .i64 t', .int .i64 r, .int .i64 l, .int .i64 x, .int .i64 y, .slice (some ⟨c', 0, none⟩) m' d'] ∧ m' ≤ 200 ∧ ys'.length = m' ∧ Bytes ys' ∧ Rd .u8 wx (some ⟨c', 0, none⟩) ys' ∧ Src wx B a n ca zs (q + 1) ∧ w.grownBy wx (some B) ∧ w1.heap.size < wx.heap.size)
  case first =>
    cases v2
    · go_wp2_with fail
      go_meet
      exact ⟨c, d, m, ys, VP, by omega, hys, hby, O.rd, S2, G, by omega⟩
    · obtain ⟨s_VP, f_VP, z_VP⟩ := VP.open
      go_wp2_with (at_make; refine wpList_make_full _ rfl _ _ 22 rfl w2.heap.size 5 i0 (.int .u8 0) 1 Try.underlying22 hi j0 j1 .i64 .i64 _ _ 200 rfl rfl rfl rfl (by rw [j2]; omega) (by unfold maxLen; omega) (Nat.le_refl _) ?_)
      intro w3 hown hgrow
      have O3 : Own .u8 5 w3 w2.heap.size (some ⟨w2.heap.size, 0, none⟩) 200 (List.replicate 200 0) := by
        refine Own.mk (n := 200) ?_ (by simp)
        simpa [toList_madeCells_one] using hown
      have bn : Below w2.heap.size w2 w3 := (Below.refl _ _).grown hgrow (Nat.le_refl _) (by intro k hk; cases hk)
      have hb0 : Bytes (List.replicate 200 (0 : Int)) := fun z hz => by rw [List.eq_of_mem_replicate hz]; decide
      have hl0 : (List.replicate 200 (0 : Int)).length = 200 := List.length_replicate
      generalize List.replicate 200 (0 : Int) = zs0 at *
      replace VP := VP.kept bn
      have S3 := S2.kept bn
      replace G := grownBy_trans G (Below.grownBy bn _)
      have Z3 := bn.size
      clear hown hgrow bn s_VP f_VP z_VP
      obtain ⟨s_VP, f_VP, z_VP⟩ := VP.open
      go_wp2_with fail
      go_meet
      replace VP := VP.set (i := 6) (by simp) (.slice (some ⟨w2.heap.size, 0, none⟩) 200 200)
      simp only [List.set_cons_zero, List.set_cons_succ] at VP
      exact ⟨w2.heap.size, 200, 200, zs0, VP, by omega, hl0, hb0, (O3.below (p := ⟨w1.heap.size, 6, none⟩) (by simp; omega) _).rd, S3.other (p := ⟨w1.heap.size, 6, none⟩) (by simp; omega) _, grownSet' G (p := ⟨w1.heap.size, 6, none⟩) (by simp; omega) _, by simp; omega⟩
  case rest =>
    clear VP O S2 G Z2 hys hby
    obtain ⟨c', d', m', ys', VP, hm, hys, hby, R, S, G, hP⟩ := hcut
    have hle := length_buildP f t' r l x y ys'
    have hpl := portP_len r x y
    have hYb := buildP_bytes (f := f) (t := t') (r := r) (l := l) (x := x) (y := y) (xs := ys') (by omega) (by omega) hby
    have D := Hid.mk (fun w h => l2Build_ok f t' r l x y (some ⟨c', 0, none⟩) m' d' ys' w h hys (fun h => by cases h) hf ht' (by omega) (by omega) hx1 hy1 hm)
    generalize buildP f t' r l x y ys' = Y at *
    obtain ⟨N, hY⟩ : ∃ N, Y.length = N := ⟨_, rfl⟩
    rw [hY] at D hle
    have hN1 : 20 ≤ N := by omega
    have hN2 : N ≤ 300 := by omega
    have HY := Hid.mk hY
    obtain ⟨s_VP, f_VP, z_VP⟩ := VP.open
    go_wp2_with fail
    refine (D.out _ R).mono ?_
    rintro e w3 ⟨c3, d, rfl, O, b3⟩
    obtain ⟨g, rfl, hg⟩ := O.some_of (by omega)
    have Z := G.size
    replace S := S.kept b3
    replace G := grownBy_trans G (Below.grownBy b3 _)
    have Z3 := b3.size
    have hcap := O.cap
    rw [hY] at hcap
    clear hY hle b3 s_VP f_VP z_VP VP R
    go_wp2_with fail
    refine (l1Chance_ok B a n ca zs (q + 1) 3 _ S hb hn hx (by omega) (by omega)).mono ?_
    rintro e w4 ⟨v4, rfl, S4, g4⟩
    replace O := O.past g4 (by omega)
    replace G := grownBy_trans G g4
    have Z4 := g4.size
    clear g4 S
    cases v4
    · go_wp2
      go_ret
      exact ⟨g, d, N, Y, rfl, HY.out, by omega, by omega, hYb, O.rd, G⟩
    go_wp2_with fail
    refine (l1Next_ok B a n ca zs (q + 1 + 1) (N : Int) _ S4 hb hn hx (by omega) (by omega)).mono ?_
    rintro e w5 ⟨i, rfl, hi5, _, S5, g5⟩
    obtain ⟨hi1, hi2⟩ := hi5 (by omega)
    obtain ⟨i, rfl⟩ := Int.eq_ofNat_of_zero_le hi1
    have hi3 : i < N := by omega
    replace O := O.past g5 (by omega)
    replace G := grownBy_trans G g5
    have Z5 := g5.size
    go_wp2_with fail
    refine (l1Next_ok B a n ca zs (q + 1 + 1 + 1) 6 _ S5 hb hn hx (by omega) (by omega)).mono ?_
    rintro e w6 ⟨k, rfl, hk6, _, S6, g6⟩
    obtain ⟨hk1, hk2⟩ := hk6 (by omega)
    replace O := O.past g6 (by omega)
    replace G := grownBy_trans G g6
    have Z6 := g6.size
    clear g5 g6 S4 S5
    rcases (by omega : k = 0 ∨ k = 1 ∨ k = 2 ∨ k = 3 ∨ k = 4 ∨ k = 5) with rfl | rfl | rfl | rfl | rfl | rfl
    · go_wp2_with fail
      refine (l1Next_ok B a n ca zs (q + 1 + 1 + 1 + 1) 256 _ S6 hb hn hx (by omega) (by omega)).mono ?_
      rintro e w7 ⟨v7, rfl, h7, _, S7, g7⟩
      have h7 := h7 (by omega)
      replace O := O.past g7 (by omega)
      replace G := grownBy_trans G g7
      have hw7 : IntKind.u8.wrap v7 = v7 := by rw [IntKind.wrap_u8]; omega
      have hil : (i : Int) < (N : Int) := by omega
      have fg := O.cellAt i (by rw [HY.out]; exact hi3)
      have zg := O.frozenAt i
      generalize Y.getD i 0 = u at *
      go_wp2
      go_ret
      exact ⟨g, d, N, Y.set i v7, rfl, by rw [List.length_set]; exact HY.out, by omega, by omega, hYb.set i h7, (O.store i v7).rd, grownSet' G (by simp; omega) _⟩
    · go_wp2
      go_ret
      exact ⟨g, d, i, Y.take i, rfl, by rw [List.length_take, HY.out]; omega, by omega, by omega, bytes_take hYb i, Rd.take O.rd i, G⟩
    · have O7 := O.kept (belowA w6 (.cells #[.int .u8 0] 5))
      replace G := grown_alloc G (.cells #[.int .u8 0] 5)
      go_wp2_with (at_builtin; go_loud (refine wpList_put _ rfl _ _ 22 rfl wc.heap.size 5 i0 Try.underlying22 hi j0 j1 j2 _ _ N _ rfl O7 HY.out _ 1 1 [0] rfl (Rd.lit w6 5 [0]) rfl (fun h => by cases h) (N + 1) (Y ++ [0]) (by omega) (by rfl) (by omega) (by simp; omega) ?_))
      intro c7 d7 w7 O8 b7
      obtain ⟨g8, rfl, hg8⟩ := O8.some_of (by simp)
      have h8 := O8.cap
      rw [List.length_append, HY.out] at h8
      have G8 := grownBelow G (b7.mono (by omega))
      have O8 := Hid.mk O8
      clear b7
      go_wp2
      go_ret
      exact ⟨g8, d7, N + 1, Y ++ [0], rfl, by rw [List.length_append, HY.out]; rfl, by omega, by simpa using h8, hYb.append (by intro z hz; simp at hz; omega), O8.out.rd, G8⟩
    · go_wp2_with fail
      refine (l1Next_ok B a n ca zs (q + 1 + 1 + 1 + 1) 10 _ S6 hb hn hx (by omega) (by omega)).mono ?_
      rintro e w7 ⟨p, rfl, h7, _, S7, g7⟩
      obtain ⟨hp1, hp2⟩ := h7 (by omega)
      obtain ⟨p, rfl⟩ := Int.eq_ofNat_of_zero_le hp1
      replace O := O.past g7 (by omega)
      replace G := grownBy_trans G g7
      have Z7 := g7.size
      go_wp2_with fail
      refine (l1Next_ok B a n ca zs (q + 1 + 1 + 1 + 1 + 1) 3 _ S7 hb hn hx (by omega) (by omega)).mono ?_
      rintro e w8 ⟨v8, rfl, h8, _, S8, g8⟩
      have h8 := h8 (by omega)
      replace O := O.past g8 (by omega)
      replace G := grownBy_trans G g8
      have Z8 := g8.size
      have hw8 : IntKind.u8.wrap v8 = v8 := by rw [IntKind.wrap_u8]; omega
      have hpl' : (p : Int) < (N : Int) := by omega
      have h10 : (10 : Int) < (N : Int) := by omega
      have h11 : (11 : Int) < (N : Int) := by omega
      have h20 : (20 : Int) ≤ (d : Int) := by omega
      have HB := Hid.mk hYb
      have HL := HY
      clear hYb HY
      have fg := O.cellAt p (by rw [HL.out]; omega)
      have zg := O.frozenAt p
      generalize Y.getD p 0 = u at *
      go_upto_region 17 with fail
      clear fg zg
      replace O := O.store p v8
      replace G := grownSet' G (p := ⟨g, p, none⟩) (by simp; omega) (.int .u8 v8)
      replace HB := Hid.mk (HB.out.set p (u := v8) (by omega))
      replace HL := Hid.mk (show (Y.set p v8).length = N by rw [List.length_set]; exact HL.out)
      generalize Y.set p v8 = Y1 at *
      generalize w8.setCell ⟨g, p, none⟩ (.int .u8 v8) = w9 at *
      have fg := O.cellAt 10 (by rw [HL.out]; omega)
      have zg := O.frozenAt 10
      generalize Y1.getD 10 0 = u1 at *
      go_upto_region 18 with fail
      clear fg zg
      replace O := O.store 10 0
      replace G := grownSet' G (p := ⟨g, 10, none⟩) (by simp; omega) (.int .u8 0)
      replace HB := Hid.mk (HB.out.set 10 (u := 0) (by decide))
      replace HL := Hid.mk (show (Y1.set 10 0).length = N by rw [List.length_set]; exact HL.out)
      generalize Y1.set 10 0 = Y2 at *
      generalize w9.setCell ⟨g, 10, none⟩ (.int .u8 0) = w10 at *
      have fg := O.cellAt 11 (by rw [HL.out]; omega)
      have zg := O.frozenAt 11
      generalize Y2.getD 11 0 = u2 at *
      go_upto_region 19 with fail
      clear fg zg
      replace O := O.store 11 0
      replace G := grownSet' G (p := ⟨g, 11, none⟩) (by simp; omega) (.int .u8 0)
      replace HB := Hid.mk (HB.out.set 11 (u := 0) (by decide))
      replace HL := Hid.mk (show (Y2.set 11 0).length = N by rw [List.length_set]; exact HL.out)
      generalize Y2.set 11 0 = Y3 at *
      generalize w10.setCell ⟨g, 11, none⟩ (.int .u8 0) = w11 at *
      have hl20 : (Y3.take 20).length = 20 := by rw [List.length_take, HL.out]; omega
      have hss := sumWords_bound (Y3.take 20)
      go_wp2_with fail
      refine (specSumWords_ok (some ⟨g, 0, none⟩) 20 d (Y3.take 20) _ (Rd.take O.rd 20) (bytes_take HB.out 20) hl20 (by omega)).mono ?_
      rintro e w12 ⟨rfl, b12⟩
      replace O := O.kept b12
      replace G := grownBelow G (b12.mono (by have := G.size; omega))
      clear b12 hl20
      generalize sumWords (Y3.take 20) = s at *
      have hq8 : IntKind.u8.wrap (s / 256) = s / 256 := by rw [IntKind.wrap_u8]; omega
      have hr8 : IntKind.u8.wrap (s % 256) = s % 256 := by rw [IntKind.wrap_u8]; omega
      have hs1 := hss.1
      have hs2 := hss.2
      have fg := O.cellAt 10 (by rw [HL.out]; omega)
      have zg := O.frozenAt 10
      generalize Y3.getD 10 0 = u3 at *
      go_upto_region 21 with fail
      clear fg zg
      replace O := O.store 10 (s / 256)
      replace G := grownSet' G (p := ⟨g, 10, none⟩) (by simp; omega) (.int .u8 (s / 256))
      replace HB := Hid.mk (HB.out.set 10 (u := (s / 256)) (by omega))
      replace HL := Hid.mk (show (Y3.set 10 (s / 256)).length = N by rw [List.length_set]; exact HL.out)
      generalize Y3.set 10 (s / 256) = Y4 at *
      generalize w12.setCell ⟨g, 10, none⟩ (.int .u8 (s / 256)) = w13 at *
      have fg := O.cellAt 11 (by rw [HL.out]; omega)
      have zg := O.frozenAt 11
      generalize Y4.getD 11 0 = u4 at *
      go_wp2
      go_ret
      exact ⟨g, d, N, Y4.set 11 (s % 256), rfl, by rw [List.length_set]; exact HL.out, by omega, by omega, HB.out.set 11 (by omega), (O.store 11 (s % 256)).rd, grownSet' G (by simp; omega) _⟩
    · obtain ⟨c9, d9, w9, hrun, O9, g9⟩ := run_append_zeros (P := Try.prog) w6 wc.heap.size 22 3 22 5 i0 .i64 .i64 Try.underlying22 Try.underlying3 hi j0 j1 j2 (some ⟨g, 0, none⟩) d N 200 Y O HY.out (by omega) (by omega) (by omega) (by omega) (by omega)
      obtain ⟨g8, rfl, hg8⟩ := O9.some_of (by simp)
      have h8 := O9.cap
      rw [List.length_append, HY.out, List.length_replicate] at h8
      have G9 := grownBelow G (((Below.refl wc.heap.size w6).grown g9 (by omega) (by intro k hk; simp at hk; omega)).mono (by omega))
      have hb0 : Bytes (List.replicate 200 (0 : Int)) := fun z hz => by rw [List.eq_of_mem_replicate hz]; decide
      have hl0 : (List.replicate 200 (0 : Int)).length = 200 := List.length_replicate
      have O9 := Hid.mk O9
      generalize List.replicate 200 (0 : Int) = zs0 at *
      go_wp2_with (at_builtin; go_loud (refine Lib.wpList_append_run _ rfl _ _ 22 3 rfl _ _ rfl rfl _ _ hrun ?_))
      go_wp2
      go_ret
      exact ⟨g8, d9, N + 200, Y ++ zs0, rfl, by rw [List.length_append, HY.out, hl0], by omega, by omega, hYb.append hb0, O9.out.rd, G9⟩
    · go_wp2
      go_ret
      exact ⟨g, d, N, Y, rfl, HY.out, by omega, by omega, hYb, O.rd, G⟩

set_option maxHeartbeats 1000000 in
theorem drawTtlDown_ok (a : Option Addr) (n ca : Nat) (zs : List Int) (w : World) (ha : Rd .u8 w a zs) (hb : Bytes zs) (hn : zs.length = n) (hx : n ≤ 1048577) :
    Calls Try.prog 16 #[.slice a n ca] w fun e w' => ∃ (g d m : Nat) (ys : List Int), e = .returned (.slice (some ⟨g, 0, none⟩) m d) ∧ ys.length = m ∧ m ≤ 1000 ∧ m ≤ d ∧ Bytes ys ∧ Rd .u8 w' (some ⟨g, 0, none⟩) ys ∧ Below w.heap.size w w' := by
  go_enter Try.func16, Try.ntmps16
  go_wp2_with (first | (go_at_call 20; go_in))
  refine (l2Wire_ok w.heap.size a n ca zs 0 _ (Src.new w a n ca zs 57 ha) hb hn hx (by omega)).mono ?_
  rintro e w1 ⟨g, d, m, ys, rfl, h1, h2, h3, h4, h5, G⟩
  have B := (belowA w (.cells #[.slice a n ca, .int .i64 0] 57)).grown G (by simp) (by intro k hk; simp at hk; omega)
  go_wp2
  go_ret
  exact ⟨g, d, m, ys, rfl, h1, h2, h3, h4, h5, B⟩

set_option maxHeartbeats 1000000 in
theorem drawParsePacket_ok (a : Option Addr) (n ca : Nat) (zs : List Int) (w : World) (ha : Rd .u8 w a zs) (hb : Bytes zs) (hn : zs.length = n) (hx : n ≤ 1048577) :
    Calls Try.prog 6 #[.slice a n ca] w fun e w' => ∃ (g d m : Nat) (ys : List Int), e = .returned (.slice (some ⟨g, 0, none⟩) m d) ∧ ys.length = m ∧ m ≤ 1000 ∧ m ≤ d ∧ Bytes ys ∧ Rd .u8 w' (some ⟨g, 0, none⟩) ys ∧ Below w.heap.size w w' := by
  go_enter Try.func6, Try.ntmps6
  go_wp2_with (first | (go_at_call 20; go_in))
  refine (l2Wire_ok w.heap.size a n ca zs 0 _ (Src.new w a n ca zs 57 ha) hb hn hx (by omega)).mono ?_
  rintro e w1 ⟨g, d, m, ys, rfl, h1, h2, h3, h4, h5, G⟩
  have B := (belowA w (.cells #[.slice a n ca, .int .i64 0] 57)).grown G (by simp) (by intro k hk; simp at hk; omega)
  go_wp2
  go_ret
  exact ⟨g, d, m, ys, rfl, h1, h2, h3, h4, h5, B⟩

end Go.Proofs.Ythjaehcfakjemaa
