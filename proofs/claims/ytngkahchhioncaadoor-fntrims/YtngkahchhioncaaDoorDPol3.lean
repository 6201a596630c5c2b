/- The draws of a policy and a packet; of a policy and a place. -/
import Derived.Test.YtngkahchhioncaaDoorDPol2
import Derived.Test.YtngkahchhioncaaDoorXSmp
namespace Go.Proofs.YtngkahchhioncaaDoor
open Go.RowKit

set_option maxRecDepth 20000 in
set_option maxHeartbeats 8000000 in
theorem l4With_ok (a : Option Addr) (n ca : Nat) (zs : List Int) (w : World) (ha : Rd .u8 w a zs) (hb : Bytes zs) (hn : zs.length = n) (hx : n ≤ 1048577) :
    Calls Tryd.prog 53 #[.slice a n ca] w fun e w' => ∃ (c d m : Nat) (xs : List R11) (f t r l u v : Int) (s : Option Addr) (k g : Nat), e = .returned (.tuple #[.slice (some ⟨c, 0, none⟩) m d, .agg #[.int .i64 f, .int .i64 t, .int .i64 r, .int .i64 l, .int .i64 u, .int .i64 v, .slice s k g]]) ∧ m ≤ 21 ∧ xs.length = m ∧ w.heap.size ≤ c ∧ RdRule w' (some ⟨c, 0, none⟩) xs ∧ Below w.heap.size w w' := by
  go_enter Tryd.func53, Tryd.ntmps53
  have S : Src ((w.alloc (.cells #[.int .i64 0, .int .i64 0, .int .i64 0, .int .i64 0, .int .i64 0, .int .i64 0, .slice none 0 0] 26)).alloc (.cells #[.slice a n ca, .int .i64 0] 147)) (w.heap.size + 1) a n ca zs 0 := by have h := Src.new (w.alloc (.cells #[.int .i64 0, .int .i64 0, .int .i64 0, .int .i64 0, .int .i64 0, .int .i64 0, .slice none 0 0] 26)) a n ca zs 147 (ha.kept (belowA _ _)); simpa only [World.size_alloc] using h
  have V1 : V ((w.alloc (.cells #[.int .i64 0, .int .i64 0, .int .i64 0, .int .i64 0, .int .i64 0, .int .i64 0, .slice none 0 0] 26)).alloc (.cells #[.slice a n ca, .int .i64 0] 147)) w.heap.size [.int .i64 0, .int .i64 0, .int .i64 0, .int .i64 0, .int .i64 0, .int .i64 0, .slice none 0 0] := (V.newAt _ _ _ _ rfl).kept (belowA _ _)
  have G := belowA2 w (.cells #[.int .i64 0, .int .i64 0, .int .i64 0, .int .i64 0, .int .i64 0, .int .i64 0, .slice none 0 0] 26) (.cells #[.slice a n ca, .int .i64 0] 147)
  obtain ⟨s_V1, f_V1, z_V1⟩ := V1.open
  go_wp2_with (first | (go_at_call 62; go_in) | fail)
  refine (l4Bent_ok (w.heap.size + 1) a n ca zs 0 _ S hb hn hx (by omega)).mono ?_
  rintro e w1 ⟨c, d, m, xs, q, rfl, hm, hl, O, hq, S1, g1⟩
  clear s_V1 f_V1 z_V1 S
  have hcw := O.lt _ rfl
  simp only [World.size_alloc] at hcw
  have R := O.rd
  replace V1 := V1.grownB g1 (by omega)
  replace G := G.grown g1 (by have := G.size; (try simp at this); (try simp); omega) (by intro k hk; simp at hk; omega)
  clear g1 O
  obtain ⟨s_V1, f_V1, z_V1⟩ := V1.open
  have R' := Hid.mk R
  have hl' := Hid.mk hl
  clear R hl
  go_wp2_with fail
  refine (l2Bent_ok (w.heap.size + 1) a n ca zs q _ S1 hb hn hx (by omega)).mono ?_
  rintro e w2 ⟨f, t', r, l, u, v, c', d', k, ys, rfl, _, _, _, hc, _, g2, q2, hq2, S2⟩
  clear s_V1 f_V1 z_V1
  have hz2 := g2.size
  have R := R'.out.grown g2 (fun b hb => by simp at hb; subst hb; simp; omega)
  replace V1 := V1.grownB g2 (by omega)
  replace G := G.grown g2 (by have := G.size; (try simp at this); (try simp); omega) (by intro k hk; simp at hk; omega)
  clear g2 S1 R'
  replace R := R.kept (belowA w2 (.cells #[.int .i64 f, .int .i64 t', .int .i64 r, .int .i64 l, .int .i64 u, .int .i64 v, .slice (some ⟨c', 0, none⟩) k d'] 26))
  replace V1 := V1.kept (belowA w2 (.cells #[.int .i64 f, .int .i64 t', .int .i64 r, .int .i64 l, .int .i64 u, .int .i64 v, .slice (some ⟨c', 0, none⟩) k d'] 26))
  replace S2 := S2.kept (belowA w2 (.cells #[.int .i64 f, .int .i64 t', .int .i64 r, .int .i64 l, .int .i64 u, .int .i64 v, .slice (some ⟨c', 0, none⟩) k d'] 26))
  replace G := thenB G (belowA w2 (.cells #[.int .i64 f, .int .i64 t', .int .i64 r, .int .i64 l, .int .i64 u, .int .i64 v, .slice (some ⟨c', 0, none⟩) k d'] 26))
  have VP := V.new w2 [.int .i64 f, .int .i64 t', .int .i64 r, .int .i64 l, .int .i64 u, .int .i64 v, .slice (some ⟨c', 0, none⟩) k d'] 26
  have hz3 : w.heap.size + 1 + 1 ≤ w2.heap.size := by omega
  by_cases h0 : m = 0
  · subst h0
    obtain ⟨s_V1, f_V1, z_V1⟩ := V1.open
    obtain ⟨s_VP, f_VP, z_VP⟩ := VP.open
    have g_VP0 := f_VP 0 (by simp)
    have g_VP1 := f_VP 1 (by simp)
    have g_VP2 := f_VP 2 (by simp)
    have g_VP3 := f_VP 3 (by simp)
    have g_VP4 := f_VP 4 (by simp)
    have g_VP5 := f_VP 5 (by simp)
    have g_VP6 := f_VP 6 (by simp)
    have g_V10 := f_V1 0 (by simp)
    have g_V11 := f_V1 1 (by simp)
    have g_V12 := f_V1 2 (by simp)
    have g_V13 := f_V1 3 (by simp)
    have g_V14 := f_V1 4 (by simp)
    have g_V15 := f_V1 5 (by simp)
    have g_V16 := f_V1 6 (by simp)
    simp at g_VP0 g_VP1 g_VP2 g_VP3 g_VP4 g_VP5 g_VP6 g_V10 g_V11 g_V12 g_V13 g_V14 g_V15 g_V16
    clear f_VP f_V1
    have hGz := G.size
    replace G := Hid.mk G
    replace R := Hid.mk R
    go_wp2
    go_region
    all_goals
      go_wp2
      refine bodyPost_ret (v := .tuple #[.slice (some ⟨c, 0, none⟩) _ d, .agg #[.int .i64 f, .int .i64 t', .int .i64 r, .int .i64 l, .int .i64 u, .int .i64 v, .slice (some ⟨c', 0, none⟩) k d']]) (by simp [results, Tryd.results53, go_sem, g_V10, g_V11, g_V12, g_V13, g_V14, g_V15, g_V16]) rfl ⟨c, d, _, xs, f, t', r, l, u, v, some ⟨c', 0, none⟩, k, d', rfl, by omega, hl'.out, by omega, ?_, ?_⟩
      · replace R := R.out
        repeat' first | with_reducible exact R | with_reducible refine RdRule.past ?_ ?_ _ | with_reducible refine RdRule.kept ?_ (Below.refl _ _).drew | (intro b hb; simp at hb; subst hb; simp; omega)
      · replace G := G.out
        repeat' first | with_reducible exact G | with_reducible refine Below.setCell ?_ ?_ _ | with_reducible refine Below.drew ?_ | (simp; done) | (simp; omega) | omega
  have hmp : 0 < (m : Int) := by omega
  obtain ⟨s_V1, f_V1, z_V1⟩ := V1.open
  obtain ⟨s_VP, f_VP, z_VP⟩ := VP.open
  have R' := Hid.mk R
  clear R
  go_wp2_with fail
  refine (l1Chance_ok (w.heap.size + 1) a n ca zs q2 2 _ S2 hb hn hx (by omega) (by omega)).mono ?_
  rintro e w3 ⟨vv, rfl, S3, g3⟩
  clear s_V1 f_V1 z_V1 s_VP f_VP z_VP
  have hz4 := g3.size
  simp only [World.size_alloc] at hz4
  have R := R'.out.grown g3 (fun b hb => by simp at hb; subst hb; simp; omega)
  replace V1 := V1.grownB g3 (by omega)
  replace VP := VP.grownB g3 (by omega)
  replace G := G.grown g3 (by have := G.size; (try simp at this); (try simp); omega) (by intro k hk; simp at hk; omega)
  clear g3 S2 R'
  cases vv
  · obtain ⟨s_V1, f_V1, z_V1⟩ := V1.open
    obtain ⟨s_VP, f_VP, z_VP⟩ := VP.open
    have g_VP0 := f_VP 0 (by simp)
    have g_VP1 := f_VP 1 (by simp)
    have g_VP2 := f_VP 2 (by simp)
    have g_VP3 := f_VP 3 (by simp)
    have g_VP4 := f_VP 4 (by simp)
    have g_VP5 := f_VP 5 (by simp)
    have g_VP6 := f_VP 6 (by simp)
    have g_V10 := f_V1 0 (by simp)
    have g_V11 := f_V1 1 (by simp)
    have g_V12 := f_V1 2 (by simp)
    have g_V13 := f_V1 3 (by simp)
    have g_V14 := f_V1 4 (by simp)
    have g_V15 := f_V1 5 (by simp)
    have g_V16 := f_V1 6 (by simp)
    simp at g_VP0 g_VP1 g_VP2 g_VP3 g_VP4 g_VP5 g_VP6 g_V10 g_V11 g_V12 g_V13 g_V14 g_V15 g_V16
    clear f_VP f_V1
    have hGz := G.size
    replace G := Hid.mk G
    replace R := Hid.mk R
    go_wp2
    go_region
    all_goals
      go_wp2
      refine bodyPost_ret (v := .tuple #[.slice (some ⟨c, 0, none⟩) _ d, .agg #[.int .i64 f, .int .i64 t', .int .i64 r, .int .i64 l, .int .i64 u, .int .i64 v, .slice (some ⟨c', 0, none⟩) k d']]) (by simp [results, Tryd.results53, go_sem, g_V10, g_V11, g_V12, g_V13, g_V14, g_V15, g_V16]) rfl ⟨c, d, _, xs, f, t', r, l, u, v, some ⟨c', 0, none⟩, k, d', rfl, by omega, hl'.out, by omega, ?_, ?_⟩
      · replace R := R.out
        repeat' first | with_reducible exact R | with_reducible refine RdRule.past ?_ ?_ _ | with_reducible refine RdRule.kept ?_ (Below.refl _ _).drew | (intro b hb; simp at hb; subst hb; simp; omega)
      · replace G := G.out
        repeat' first | with_reducible exact G | with_reducible refine Below.setCell ?_ ?_ _ | with_reducible refine Below.drew ?_ | (simp; done) | (simp; omega) | omega
  · have hmp1 : 1 ≤ m := by omega
    obtain ⟨s_V1, f_V1, z_V1⟩ := V1.open
    obtain ⟨s_VP, f_VP, z_VP⟩ := VP.open
    have R' := Hid.mk R
    clear R
    go_wp2_with fail
    refine (l1Next_ok (w.heap.size + 1) a n ca zs (q2 + 1) (m : Int) _ S3 hb hn hx (by omega) (by omega)).mono ?_
    rintro e w4 ⟨vi, rfl, hv, _, S4, g4⟩
    obtain ⟨hv1, hv2⟩ := hv (by omega)
    obtain ⟨i, rfl⟩ := Int.eq_ofNat_of_zero_le hv1
    have him : i < m := by omega
    clear s_V1 f_V1 z_V1 s_VP f_VP z_VP hv hv1
    have hz5 := g4.size
    have R := R'.out.grown g4 (fun b hb => by simp at hb; subst hb; simp; omega)
    replace V1 := V1.grownB g4 (by omega)
    replace VP := VP.grownB g4 (by omega)
    replace G := G.grown g4 (by have := G.size; (try simp at this); (try simp); omega) (by intro k hk; simp at hk; omega)
    clear g4 S3 S4 R'
    obtain ⟨y, hy⟩ : ∃ y, xs.getD i zRule = y := ⟨_, rfl⟩
    obtain ⟨p0, p1, p2, p3, p4, p5, p6, p7, p8, p9, p10⟩ := RdRule.at R i (by rw [hl'.out]; exact him) y hy
    simp only [Nat.zero_add] at p0 p1 p2 p3 p4 p5 p6 p7 p8
    obtain ⟨k0, f0, t0, r0, l0, u0, v0, CS, _⟩ := smp_both y.s
    replace CS := Hid.mk CS
    clear p9 p10 hy
    obtain ⟨s_V1, f_V1, z_V1⟩ := V1.open
    obtain ⟨s_VP, f_VP, z_VP⟩ := VP.open
    replace R := Hid.mk R
    go_wp2_with fail
    refine (CS.out _).mono ?_
    rintro e w5 ⟨rfl, b5⟩
    clear s_V1 f_V1 z_V1 s_VP f_VP z_VP p0 p1 p2 p3 p4 p5 p6 p7 p8 CS
    have hz6 := b5.size
    have hG6 := G.size
    replace R := R.out.kept b5
    replace V1 := V1.kept b5
    replace VP := VP.kept b5
    replace G := thenB G b5
    clear b5
    replace R := R.kept (belowA w5 (.cells #[.int .i64 k0, .int .i64 f0, .int .i64 t0, .int .i64 r0, .int .i64 l0, .int .i64 u0, .int .i64 v0, .slice none 0 0] 54))
    replace V1 := V1.kept (belowA w5 (.cells #[.int .i64 k0, .int .i64 f0, .int .i64 t0, .int .i64 r0, .int .i64 l0, .int .i64 u0, .int .i64 v0, .slice none 0 0] 54))
    replace VP := VP.kept (belowA w5 (.cells #[.int .i64 k0, .int .i64 f0, .int .i64 t0, .int .i64 r0, .int .i64 l0, .int .i64 u0, .int .i64 v0, .slice none 0 0] 54))
    replace G := thenB G (belowA w5 (.cells #[.int .i64 k0, .int .i64 f0, .int .i64 t0, .int .i64 r0, .int .i64 l0, .int .i64 u0, .int .i64 v0, .slice none 0 0] 54))
    have VS := V.new w5 [.int .i64 k0, .int .i64 f0, .int .i64 t0, .int .i64 r0, .int .i64 l0, .int .i64 u0, .int .i64 v0, .slice none 0 0] 54
    obtain ⟨s_VS, f_VS, z_VS⟩ := VS.open
    by_cases hk0 : k0 = 0
    · subst hk0
      obtain ⟨s_V1, f_V1, z_V1⟩ := V1.open
      obtain ⟨s_VP, f_VP, z_VP⟩ := VP.open
      have g_VP0 := f_VP 0 (by simp)
      have g_VP1 := f_VP 1 (by simp)
      have g_VP2 := f_VP 2 (by simp)
      have g_VP3 := f_VP 3 (by simp)
      have g_VP4 := f_VP 4 (by simp)
      have g_VP5 := f_VP 5 (by simp)
      have g_VP6 := f_VP 6 (by simp)
      have g_V10 := f_V1 0 (by simp)
      have g_V11 := f_V1 1 (by simp)
      have g_V12 := f_V1 2 (by simp)
      have g_V13 := f_V1 3 (by simp)
      have g_V14 := f_V1 4 (by simp)
      have g_V15 := f_V1 5 (by simp)
      have g_V16 := f_V1 6 (by simp)
      have g_VS0 := f_VS 0 (by simp)
      have g_VS1 := f_VS 1 (by simp)
      have g_VS2 := f_VS 2 (by simp)
      have g_VS3 := f_VS 3 (by simp)
      have g_VS4 := f_VS 4 (by simp)
      have g_VS5 := f_VS 5 (by simp)
      have g_VS6 := f_VS 6 (by simp)
      have g_VS7 := f_VS 7 (by simp)
      simp at g_VS0 g_VS1 g_VS2 g_VS3 g_VS4 g_VS5 g_VS6 g_VS7
      clear f_VS
      simp at g_VP0 g_VP1 g_VP2 g_VP3 g_VP4 g_VP5 g_VP6 g_V10 g_V11 g_V12 g_V13 g_V14 g_V15 g_V16
      clear f_VP f_V1
      have hGz := G.size
      replace G := Hid.mk G
      replace R := Hid.mk R
      go_wp2
      go_region
      all_goals
        go_wp2
        refine bodyPost_ret (v := .tuple #[.slice (some ⟨c, 0, none⟩) _ d, .agg #[.int .i64 f0, .int .i64 t0, .int .i64 r0, .int .i64 l0, .int .i64 u0, .int .i64 v0, .slice none 0 0]]) (by simp [results, Tryd.results53, go_sem, g_V10, g_V11, g_V12, g_V13, g_V14, g_V15, g_V16]) rfl ⟨c, d, _, xs, f0, t0, r0, l0, u0, v0, none, 0, 0, rfl, by omega, hl'.out, by omega, ?_, ?_⟩
        · replace R := R.out
          repeat' first | with_reducible exact R | with_reducible refine RdRule.past ?_ ?_ _ | with_reducible refine RdRule.kept ?_ (Below.refl _ _).drew | (intro b hb; simp at hb; subst hb; simp; omega)
        · replace G := G.out
          repeat' first | with_reducible exact G | with_reducible refine Below.setCell ?_ ?_ _ | with_reducible refine Below.drew ?_ | (simp; done) | (simp; omega) | omega
    · have hk1 : (k0 == 0) = false := by simp [hk0]
      obtain ⟨s_V1, f_V1, z_V1⟩ := V1.open
      obtain ⟨s_VP, f_VP, z_VP⟩ := VP.open
      have g_VP0 := f_VP 0 (by simp)
      have g_VP1 := f_VP 1 (by simp)
      have g_VP2 := f_VP 2 (by simp)
      have g_VP3 := f_VP 3 (by simp)
      have g_VP4 := f_VP 4 (by simp)
      have g_VP5 := f_VP 5 (by simp)
      have g_VP6 := f_VP 6 (by simp)
      have g_V10 := f_V1 0 (by simp)
      have g_V11 := f_V1 1 (by simp)
      have g_V12 := f_V1 2 (by simp)
      have g_V13 := f_V1 3 (by simp)
      have g_V14 := f_V1 4 (by simp)
      have g_V15 := f_V1 5 (by simp)
      have g_V16 := f_V1 6 (by simp)
      have g_VS0 := f_VS 0 (by simp)
      have g_VS1 := f_VS 1 (by simp)
      have g_VS2 := f_VS 2 (by simp)
      have g_VS3 := f_VS 3 (by simp)
      have g_VS4 := f_VS 4 (by simp)
      have g_VS5 := f_VS 5 (by simp)
      have g_VS6 := f_VS 6 (by simp)
      have g_VS7 := f_VS 7 (by simp)
      simp at g_VS0 g_VS1 g_VS2 g_VS3 g_VS4 g_VS5 g_VS6 g_VS7
      clear f_VS
      simp at g_VP0 g_VP1 g_VP2 g_VP3 g_VP4 g_VP5 g_VP6 g_V10 g_V11 g_V12 g_V13 g_V14 g_V15 g_V16
      clear f_VP f_V1
      have hGz := G.size
      replace G := Hid.mk G
      replace R := Hid.mk R
      go_wp2
      go_region
      all_goals
        go_wp2
        refine bodyPost_ret (v := .tuple #[.slice (some ⟨c, 0, none⟩) _ d, .agg #[.int .i64 f, .int .i64 t', .int .i64 r, .int .i64 l, .int .i64 u, .int .i64 v, .slice (some ⟨c', 0, none⟩) k d']]) (by simp [results, Tryd.results53, go_sem, g_V10, g_V11, g_V12, g_V13, g_V14, g_V15, g_V16]) rfl ⟨c, d, _, xs, f, t', r, l, u, v, some ⟨c', 0, none⟩, k, d', rfl, by omega, hl'.out, by omega, ?_, ?_⟩
        · replace R := R.out
          repeat' first | with_reducible exact R | with_reducible refine RdRule.past ?_ ?_ _ | with_reducible refine RdRule.kept ?_ (Below.refl _ _).drew | (intro b hb; simp at hb; subst hb; simp; omega)
        · replace G := G.out
          repeat' first | with_reducible exact G | with_reducible refine Below.setCell ?_ ?_ _ | with_reducible refine Below.drew ?_ | (simp; done) | (simp; omega) | omega

set_option maxHeartbeats 2000000 in
theorem drawFirstRule_ok (a : Option Addr) (n ca : Nat) (zs : List Int) (w : World) (ha : Rd .u8 w a zs) (hb : Bytes zs) (hn : zs.length = n) (hx : n ≤ 1048577) :
    Calls Tryd.prog 14 #[.slice a n ca] w fun e w' => ∃ (c d m : Nat) (xs : List R11) (f t r l u v : Int) (s : Option Addr) (k g : Nat), e = .returned (.tuple #[.slice (some ⟨c, 0, none⟩) m d, .agg #[.int .i64 f, .int .i64 t, .int .i64 r, .int .i64 l, .int .i64 u, .int .i64 v, .slice s k g]]) ∧ m ≤ 21 ∧ xs.length = m ∧ w.heap.size ≤ c ∧ RdRule w' (some ⟨c, 0, none⟩) xs ∧ Below w.heap.size w w' := by
  have V1 := V.new w [.int .i64 0, .int .i64 0, .int .i64 0, .int .i64 0, .int .i64 0, .int .i64 0, .slice none 0 0] 26
  have B := belowA w (.cells #[.int .i64 0, .int .i64 0, .int .i64 0, .int .i64 0, .int .i64 0, .int .i64 0, .slice none 0 0] 26)
  have e0 := extractP0
  have e1 := extractP1
  obtain ⟨s_V1, f_V1, z_V1⟩ := V1.open
  go_enter Tryd.func14, Tryd.ntmps14
  go_wp2_with fail
  refine (l4With_ok a n ca zs _ (ha.kept B) hb hn hx).mono ?_
  rintro e w1 ⟨c, d, m, xs, f, t', r, l, u, v, s, k, g, rfl, hm, hl, hc, R, b1⟩
  simp only [World.size_alloc] at hc
  clear s_V1 f_V1 z_V1
  have hz1 := b1.size
  simp only [World.size_alloc] at hz1
  replace V1 := V1.kept b1
  replace B := thenB B b1
  clear b1
  have VF := V1.fill7 (.int .i64 f) (.int .i64 t') (.int .i64 r) (.int .i64 l) (.int .i64 u) (.int .i64 v) (.slice s k g)
  obtain ⟨s_V1, f_V1, z_V1⟩ := V1.open
  have g0 := VF.2.1 0 (by simp)
  have g1 := VF.2.1 1 (by simp)
  have g2 := VF.2.1 2 (by simp)
  have g3 := VF.2.1 3 (by simp)
  have g4 := VF.2.1 4 (by simp)
  have g5 := VF.2.1 5 (by simp)
  have g6 := VF.2.1 6 (by simp)
  simp only [List.getElem?_cons_zero, List.getElem?_cons_succ] at g0 g1 g2 g3 g4 g5 g6
  have R' := Hid.mk R
  have hl' := Hid.mk hl
  have B' := Hid.mk B
  clear R hl B VF
  go_wp2
  refine bodyPost_ret (v := .tuple #[.slice (some ⟨c, 0, none⟩) m d, .agg #[.int .i64 f, .int .i64 t', .int .i64 r, .int .i64 l, .int .i64 u, .int .i64 v, .slice s k g]]) (by simp [results, Tryd.results14, go_sem, g0, g1, g2, g3, g4, g5, g6]) rfl ⟨c, d, m, xs, f, t', r, l, u, v, s, k, g, rfl, hm, hl'.out, by omega, ?_, ?_⟩
  · have R := R'.out
    repeat' first | with_reducible exact R | with_reducible refine RdRule.past ?_ ?_ _ | (intro b hb; simp at hb; subst hb; simp; omega)
  · have B := B'.out
    repeat' first | with_reducible exact B | with_reducible refine Below.setCell ?_ ?_ _ | (simp; done) | (simp; omega)

set_option maxHeartbeats 2000000 in
theorem drawSwapRules_ok (a : Option Addr) (n ca : Nat) (zs : List Int) (w : World) (ha : Rd .u8 w a zs) (hb : Bytes zs) (hn : zs.length = n) (hx : n ≤ 1048577) :
    Calls Tryd.prog 19 #[.slice a n ca] w fun e w' => ∃ (c d m : Nat) (xs : List R11) (v : Int), e = .returned (.tuple #[.slice (some ⟨c, 0, none⟩) m d, .int .i64 v]) ∧ m ≤ 21 ∧ xs.length = m ∧ RdRule w' (some ⟨c, 0, none⟩) xs ∧ (-1 ≤ v ∧ v ≤ 21) ∧ Below w.heap.size w w' := by
  go_enter Tryd.func19, Tryd.ntmps19
  have S := Src.new w a n ca zs 147 ha
  have G := belowA w (.cells #[.slice a n ca, .int .i64 0] 147)
  go_wp2_with (first | (go_at_call 62; go_in) | fail)
  refine (l4Bent_ok w.heap.size a n ca zs 0 _ S hb hn hx (by omega)).mono ?_
  rintro e w1 ⟨c, d, m, xs, q, rfl, hm, hl, O, hq, S1, g1⟩
  have hcw := O.lt _ rfl
  simp only [World.size_alloc] at hcw
  have R := O.rd
  replace G := G.grown g1 (by simp) (by simp)
  clear S g1 O
  have R' := Hid.mk R
  have hl' := Hid.mk hl
  clear R hl
  obtain ⟨M, hM⟩ : ∃ M : Int, max 1 (m : Int) = M := ⟨_, rfl⟩
  have hM1 : 1 ≤ M ∧ M ≤ 21 := by omega
  obtain ⟨hM1, hM2⟩ := hM1
  go_wp2_with fail
  refine (l1Max_ok 1 (m : Int) _).mono ?_
  rintro e w9 ⟨rfl, rfl⟩
  rw [hM]
  clear hM
  go_wp2_with fail
  refine (l1Next_ok w.heap.size a n ca zs q M _ S1 hb hn hx (by omega) (by omega)).mono ?_
  rintro e w2 ⟨v, rfl, hv, _, S2, g2⟩
  obtain ⟨hv1, hv2⟩ := hv (by omega)
  have hz2 := g2.size
  have hG2 := G.size
  have R := R'.out.grown g2 (fun b hb => by simp at hb; subst hb; simp; omega)
  replace G := G.grown g2 G.size (by simp)
  clear S1 g2 R' hv
  replace R := R.kept (belowA w2 (.cells #[.int .i64 v, .int .i64 0, .int .i64 1, .int .i64 (-1)] 2))
  replace S2 := S2.kept (belowA w2 (.cells #[.int .i64 v, .int .i64 0, .int .i64 1, .int .i64 (-1)] 2))
  replace G := thenB G (belowA w2 (.cells #[.int .i64 v, .int .i64 0, .int .i64 1, .int .i64 (-1)] 2))
  have R' := Hid.mk R
  clear R
  go_wp2_with fail
  refine (l1Pick_ok w.heap.size a n ca zs (q + 1) w2.heap.size 4 4 [v, 0, 1, -1] _ S2 hb hn hx (by omega) rfl (by omega) (by omega) (fun i hi => ?_) (by omega)).mono ?_
  · exact lit_cells w2 [v, 0, 1, -1] _ _ (by simp) i hi
  rintro e w3 ⟨z, rfl, hmem, S3, g3⟩
  have hz1 : -1 ≤ z ∧ z ≤ 21 := by
    simp at hmem
    rcases hmem with rfl | rfl | rfl | rfl <;> omega
  have R := R'.out.grown g3 (fun b hb => by simp at hb; subst hb; simp; omega)
  replace G := G.grown g3 G.size (by simp)
  clear S2 S3 g3 R' hmem
  replace R := Hid.mk R
  go_wp2
  go_ret2
  exact ⟨c, d, m, xs, z, rfl, hm, hl'.out, R.out, hz1, G⟩

end Go.Proofs.YtngkahchhioncaaDoor
