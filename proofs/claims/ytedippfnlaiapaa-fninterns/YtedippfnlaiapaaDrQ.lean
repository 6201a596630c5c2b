/- The draw of a table and a term. -/
import Derived.Test.YtedippfnlaiapaaDrB
import Derived.Test.YtedippfnlaiapaaDrG
import Derived.Test.YtedippfnlaiapaaFill
import Derived.Deep.CutBlock
import Derived.Deep.DeepCutAuto
namespace Go.Proofs.Ytedippfnlaiapaa
open Go.RowKit

theorem RdTerm.apart {w : World} {a : Option Addr} {xs : List T4} {B : Nat} (h : RdTerm w a xs) (hB : ∀ b : Addr, a = some b → b.block ≠ B) (o : Nat) (vs : List Value) : RdTerm (w.setCells B o vs) a xs := by
  induction vs generalizing w o with
  | nil => exact h
  | cons v vs ih => exact ih (h.past (p := ⟨B, o, .none⟩) hB v) (o + 1)

/-- The state of a draw of a term behind a drawn table: the result's cells, the term's, the table, the source. -/
structure Dp (w : World) (a : Option Addr) (n ca : Nat) (zs : List Int) (c : Option Addr) (xs : List T4) (P : Nat) (t : T4) (q : Nat) (wx : World) : Prop where
  res : V wx w.heap.size [.int .i64 0, .int .i64 0, .int .i64 0, .int .i64 0]
  var : V wx P [.int .i64 t.o, .int .i64 t.a, .int .i64 t.b, .int .i64 t.n]
  tab : RdTerm wx c xs
  src : Src wx (w.heap.size + 1) a n ca zs q
  bel : Below w.heap.size w wx
  far : w.heap.size + 2 ≤ P
  off : ∀ b : Addr, c = some b → w.heap.size + 2 ≤ b.block ∧ b.block < P

theorem Dp.kept {w : World} {a : Option Addr} {n ca : Nat} {zs : List Int} {c : Option Addr} {xs : List T4} {P : Nat} {t : T4} {q : Nat} {wx w' : World} (h : Dp w a n ca zs c xs P t q wx) (b : Below wx.heap.size wx w') : Dp w a n ca zs c xs P t q w' :=
  ⟨h.res.kept b, h.var.kept b, h.tab.kept b, h.src.kept b, thenB h.bel b, h.far, h.off⟩

theorem Dp.drawn {w : World} {a : Option Addr} {n ca : Nat} {zs : List Int} {c : Option Addr} {xs : List T4} {P : Nat} {t : T4} {q q' : Nat} {wx w' : World} (h : Dp w a n ca zs c xs P t q wx) (g : wx.grownBy w' (some (w.heap.size + 1))) (s : Src w' (w.heap.size + 1) a n ca zs q') : Dp w a n ca zs c xs P t q' w' :=
  ⟨h.res.grownB g (by omega), h.var.grownB g (by have := h.far; omega), h.tab.grown g (fun b hb e => by have := (h.off b hb).1; simp at e; omega), s, h.bel.grown g h.bel.size (fun k hk => by simp at hk; omega), h.far, h.off⟩

theorem Dp.stroke {w : World} {a : Option Addr} {n ca : Nat} {zs : List Int} {c : Option Addr} {xs : List T4} {P : Nat} {t : T4} {q : Nat} {wx : World} (h : Dp w a n ca zs c xs P t q wx) (u : T4) : Dp w a n ca zs c xs P u q (wx.setCells P 0 [.int .i64 u.o, .int .i64 u.a, .int .i64 u.b, .int .i64 u.n]) :=
  ⟨h.res.apart (by have := h.far; omega) 0 _, h.var.filled _ rfl, h.tab.apart (fun b hb => by have := (h.off b hb).2; omega) 0 _, srcCells h.src (by have := h.far; omega) 0 _, belowCells h.bel (by have := h.far; omega) 0 _, h.far, h.off⟩

theorem Dp.cell {w : World} {a : Option Addr} {n ca : Nat} {zs : List Int} {c : Option Addr} {xs : List T4} {P : Nat} {t : T4} {q : Nat} {wx : World} (h : Dp w a n ca zs c xs P t q wx) (j : Nat) (hj : j < 4) (v : Int) : Dp w a n ca zs c xs P (updTerm t j v) q (wx.setCell ⟨P, j, none⟩ (.int .i64 v)) := by
  refine ⟨h.res.other (by have := h.far; simp only; omega) _, ?_, h.tab.past (fun b hb => by have := (h.off b hb).2; simp only; omega) _, h.src.other (by have := h.far; simp only; omega) _, h.bel.setCell (by have := h.far; simp only; omega) _, h.far, h.off⟩
  have h1 := h.var.set (i := j) (by simpa using hj) (.int .i64 v)
  have e : [.int .i64 t.o, .int .i64 t.a, .int .i64 t.b, .int .i64 t.n].set j (Value.int .i64 v) = rowTerm (updTerm t j v) := (updTerm_row t j v hj).symm
  rw [e] at h1
  exact h1


theorem updTerm0 (o a b n v : Int) : updTerm ⟨o, a, b, n⟩ 0 v = ⟨v, a, b, n⟩ := rfl
theorem updTerm1 (o a b n v : Int) : updTerm ⟨o, a, b, n⟩ 1 v = ⟨o, v, b, n⟩ := rfl
theorem updTerm2 (o a b n v : Int) : updTerm ⟨o, a, b, n⟩ 2 v = ⟨o, a, v, n⟩ := rfl
theorem updTerm3 (o a b n v : Int) : updTerm ⟨o, a, b, n⟩ 3 v = ⟨o, a, b, v⟩ := rfl

theorem OwnTerm.cap {w : World} {base : Nat} {a : Option Addr} {cap : Nat} {xs : List T4} (h : OwnTerm w base a cap xs) : xs.length ≤ cap := by
  rcases h.2 with ⟨_, h0⟩ | ⟨g, cap', cur, hv, _, _, hc, _⟩
  · omega
  · simp only [Value.slice.injEq] at hv
    obtain ⟨_, _, rfl⟩ := hv
    exact hc

set_option maxRecDepth 20000 in
set_option maxHeartbeats 4000000 in
theorem drawPutTerm_ok (a : Option Addr) (n ca : Nat) (zs : List Int) (w : World) (ha : Rd .u8 w a zs) (hb : Bytes zs) (hn : zs.length = n) (hx : n ≤ 1048577) :
    Calls Try.prog 14 #[.slice a n ca] w fun e w' => ∃ (c : Option Addr) (d k : Nat) (xs : List T4) (t : T4), e = .returned (.tuple #[.slice c k d, .agg #[.int .i64 t.o, .int .i64 t.a, .int .i64 t.b, .int .i64 t.n]]) ∧ xs.length = k ∧ k ≤ 401 ∧ k ≤ d ∧ (c = none → d = 0) ∧ (∀ x ∈ xs, okT x) ∧ okT t ∧ RdTerm w' c xs ∧ Below w.heap.size w w' := by
  have q1 := build_t123
  have q2 := build_t1
  have S : Src ((w.alloc (.cells #[.int .i64 0, .int .i64 0, .int .i64 0, .int .i64 0] 26)).alloc (.cells #[.slice a n ca, .int .i64 0] 98)) (w.heap.size + 1) a n ca zs 0 := by have h := Src.new (w.alloc (.cells #[.int .i64 0, .int .i64 0, .int .i64 0, .int .i64 0] 26)) a n ca zs 98 (ha.kept (belowA _ _)); simpa only [World.size_alloc] using h
  have V1 : V ((w.alloc (.cells #[.int .i64 0, .int .i64 0, .int .i64 0, .int .i64 0] 26)).alloc (.cells #[.slice a n ca, .int .i64 0] 98)) w.heap.size [.int .i64 0, .int .i64 0, .int .i64 0, .int .i64 0] := (V.newAt _ _ _ _ rfl).kept (belowA _ _)
  have G := belowA2 w (.cells #[.int .i64 0, .int .i64 0, .int .i64 0, .int .i64 0] 26) (.cells #[.slice a n ca, .int .i64 0] 98)
  go_enter Try.func14, Try.ntmps14
  go_wp2_with (first | (go_at_call 48; go_in) | fail)
  refine (l5Bent_ok (w.heap.size + 1) a n ca zs 0 _ S hb hn hx (by omega)).mono ?_
  rintro e w1 ⟨c, d, k, xs, q, rfl, hl, hk, hok, O, hq, S1, g1⟩
  clear S
  have hcap := O.cap
  have hnc := ownTerm_nocap O
  rw [hl] at hcap
  have hOl : ∀ b : Addr, c = some b → w.heap.size + 2 ≤ b.block ∧ b.block < w1.heap.size := fun b hb => by have := O.lt b hb; simp only [World.size_alloc] at this; omega
  have R := O.rd
  replace V1 := V1.grownB g1 (by omega)
  replace G := G.grown g1 (by have := G.size; (try simp at this); (try simp); omega) (by intro k hk; simp at hk; omega)
  have hz2 := g1.size
  simp only [World.size_alloc] at hz2
  clear g1 O
  have hl' := Hid.mk hl
  have hok' := Hid.mk hok
  have hOl' := Hid.mk hOl
  have hnc' := Hid.mk hnc
  have hcap' := Hid.mk hcap
  have hq' := Hid.mk hq
  clear hl hok hOl hnc hcap
  obtain ⟨K, hK⟩ : ∃ K, max (1 : Int) (k : Int) = K := ⟨_, rfl⟩
  have hK1 : 1 ≤ K ∧ K ≤ 401 := by omega
  obtain ⟨hK1, hK2⟩ := hK1
  have hKk : 0 < k → K = (k : Int) := fun h => by omega
  replace hKk := Hid.mk hKk
  have CM := Hid.mk (fun w => l1Max_ok 1 (k : Int) w)
  rw [hK] at CM
  clear hK
  have hR' := Hid.mk R
  clear R
  go_wp2_with fail
  refine (CM.out _).mono ?_
  rintro e wq ⟨rfl, hwq⟩
  rw [hwq]
  clear hwq wq CM
  go_wp2_with fail
  refine (l1Next_ok (w.heap.size + 1) a n ca zs (q) 7 _ S1 hb hn hx (by omega) (by omega)).mono ?_
  rintro e w2 ⟨v0, rfl, hv, _, S2, g⟩
  obtain ⟨hv01, hv02⟩ := hv (by omega)
  have Z2 := g.size
  replace V1 := V1.grownB g (by omega)
  have R := hR'.out.grown g (fun b hb e => by have := (hOl'.out b hb).1; simp at e; omega)
  replace G := G.grown g (by have := G.size; (try simp at this); omega) (by intro k hk; simp at hk; omega)
  clear g hv S1
  replace hR' := Hid.mk R
  clear R
  go_wp2_with fail
  refine (l1Next_ok (w.heap.size + 1) a n ca zs (q + 1) K _ S2 hb hn hx (by omega) (by omega)).mono ?_
  rintro e w3 ⟨v1, rfl, hv, _, S3, g⟩
  obtain ⟨hv11, hv12⟩ := hv (by omega)
  have Z3 := g.size
  replace V1 := V1.grownB g (by omega)
  have R := hR'.out.grown g (fun b hb e => by have := (hOl'.out b hb).1; simp at e; omega)
  replace G := G.grown g (by have := G.size; (try simp at this); omega) (by intro k hk; simp at hk; omega)
  clear g hv S2
  replace hR' := Hid.mk R
  clear R
  go_wp2_with fail
  refine (l1Next_ok (w.heap.size + 1) a n ca zs (q + 1 + 1) K _ S3 hb hn hx (by omega) (by omega)).mono ?_
  rintro e w4 ⟨v2, rfl, hv, _, S4, g⟩
  obtain ⟨hv21, hv22⟩ := hv (by omega)
  have Z4 := g.size
  replace V1 := V1.grownB g (by omega)
  have R := hR'.out.grown g (fun b hb e => by have := (hOl'.out b hb).1; simp at e; omega)
  replace G := G.grown g (by have := G.size; (try simp at this); omega) (by intro k hk; simp at hk; omega)
  clear g hv S3
  replace hR' := Hid.mk R
  clear R
  have hzi : okI 0 := okI_of (by decide) (by decide)
  have hk1 : okI (1 + v0) := okI_of (by omega) (by omega)
  have hk2 : okI v1 := okI_of (by omega) (by omega)
  have hk3 : okI v2 := okI_of (by omega) (by omega)
  have hok0 : okT ⟨1 + v0, v1, v2, 0⟩ := ⟨hk1, hk2, hk3, hzi⟩
  have hGs := G.size
  have DP : Dp w a n ca zs c xs w4.heap.size ⟨1 + v0, v1, v2, 0⟩ (q + 1 + 1 + 1) (w4.alloc (.cells #[.int .i64 (1 + v0), .int .i64 v1, .int .i64 v2, .int .i64 0] 26)) := ⟨V1.kept (belowA _ _), V.new _ _ _, hR'.out.kept (belowA _ _), S4.kept (belowA _ _), thenB G (belowA _ _), by omega, fun b hb => by have := hOl'.out b hb; omega⟩
  have CK := Hid.mk (fun w => l5Kids_ok (1 + v0) w)
  clear S4 V1 G hR'
  have oV := DP.var.open
  obtain ⟨s_V, f_V, z_V⟩ := oV
  go_upto_if 28 with (first | (go_at_call 52; refine (CK.out _).mono ?_; rintro e wq ⟨rfl, rfl⟩) | fail)
  clear s_V f_V z_V
  generalize hW : w4.alloc (.cells #[.int .i64 (1 + v0), .int .i64 v1, .int .i64 v2, .int .i64 0] 26) = W at *
  generalize hP : w4.heap.size = P at *
  clear hW hP
  go_cut [] (fun wx => ∃ (t : T4) (q' : Nat), okT t ∧ q' ≤ q + 4 ∧ Dp w a n ca zs c xs P t q' wx)
  case first =>
    rcases kids_cases (1 + v0) with hk0 | hk0 | hk0
    · rw [hk0]
      go_upto_region 6 with fail
      have DD := DP.kept (Below.refl _ _).drew
      clear DP
      refine wp_region_held_drew (S := (fun w' => w'.cell? ⟨P, 0, none⟩ = some (.int .i64 (1 + v0)))) (by kernel_rfl) (DD.var.2.1 0 (by simp)) (fun hHeld => ?_)
      generalize hwd : World.drew _ = wd at *
      clear hwd
      refine wpAnyH_take (i := 0) (oi := _) (v := ?vdq0) rfl (by kernel_rfl) (by kernel_rfl) (by kernel_rfl) (fun _ _ _ h => h) (Or.inl ⟨by rfl, ?hydq0⟩) hHeld ?restdq0
      case hydq0 => (intro w hSw; (try dsimp only at hSw); go_simp; first | done | with_reducible rfl)
      try simp only [Act.put, List.getElem_toArray, List.getElem_cons_zero, List.setIfInBounds_toArray, List.set_cons_zero, List.set_cons_succ]
      refine wpAnyH_take (i := 1) (oi := _) (v := ?vdq1) rfl (by kernel_rfl) (by kernel_rfl) (by kernel_rfl) (fun _ _ _ h => h) (Or.inl ⟨by rfl, ?hydq1⟩) hHeld ?restdq1
      case hydq1 => (intro w hSw; (try dsimp only at hSw); go_simp; first | done | with_reducible rfl)
      try simp only [Act.put, List.getElem_toArray, List.getElem_cons_zero, List.getElem_cons_succ, List.setIfInBounds_toArray, List.set_cons_zero, List.set_cons_succ]
      refine wpAnyH_take (i := 2) (oi := _) (v := ?vdq2) rfl (by kernel_rfl) (by kernel_rfl) (by kernel_rfl) (fun _ _ _ h => h) (Or.inl ⟨by rfl, ?hydq2⟩) hHeld ?restdq2
      case hydq2 => (intro w hSw; (try dsimp only at hSw); go_simp; first | done | with_reducible rfl)
      try simp only [Act.put, List.getElem_toArray, List.getElem_cons_zero, List.getElem_cons_succ, List.setIfInBounds_toArray, List.set_cons_zero, List.set_cons_succ]
      refine wpAnyH_ready (rs := [3]) (by kernel_rfl) (by simp) ?_
      refine AllReadyH.cons (o := _) rfl (fun K0 hK0 => ?_) AllReadyH.nil
      go_simp
      go_at_call 51
      refine (l1Next_ok (w.heap.size + 1) a n ca zs (q + 1 + 1 + 1) 9 _ DD.src hb hn hx (by omega) (by omega)).mono ?_
      rintro e w9 ⟨z, rfl, hv, _, S9, g⟩
      obtain ⟨hz1, hz2⟩ := hv (by omega)
      have D9 := DD.drawn g S9
      clear g hv S9
      refine hK0.out _ _ (D9.var.2.1 0 (by simp)) (fun hHeld => ?_)
      clear hK0 K0
      try simp only [Act.put, List.getElem_toArray, List.getElem_cons_zero, List.getElem_cons_succ, List.setIfInBounds_toArray, List.set_cons_zero, List.set_cons_succ]
      refine wpAnyH_take (i := 4) (oi := _) (v := ?vdq4) rfl (by kernel_rfl) (by kernel_rfl) (by kernel_rfl) (fun _ _ _ h => h) (Or.inl ⟨by rfl, ?hydq4⟩) hHeld ?restdq4
      case hydq4 => (intro w hSw; (try dsimp only at hSw); go_simp; first | done | with_reducible rfl)
      try simp only [Act.put, List.getElem_toArray, List.getElem_cons_zero, List.getElem_cons_succ, List.setIfInBounds_toArray, List.set_cons_zero, List.set_cons_succ]
      have HT := Hid.mk D9.var.there
      have D6 := D9.stroke ⟨1 + v0, 0, 0, z⟩
      simp only at D6
      obtain ⟨w6, hw6⟩ : ∃ w6, w9.setCells P 0 [.int .i64 (1 + v0), .int .i64 0, .int .i64 0, .int .i64 z] = w6 := ⟨_, rfl⟩
      rw [hw6] at D6
      replace hw6 := Hid.mk hw6
      clear DD D9
      refine wpAnyH_ready (rs := [5]) (by kernel_rfl) (by simp) ?_
      refine AllReadyH.cons (o := _) rfl (fun K0 hK0 => ?_) AllReadyH.nil
      rw [if_pos (by rfl)]
      refine wp_stroke w6 26 _ _ rfl P 0 #[.int .i64 (1 + v0), .int .i64 0, .int .i64 0, .int .i64 z] rfl rfl HT.out (by kernel_rfl) (by kernel_rfl) hw6.out ?_
      refine hK0.out _ _ (D6.var.2.1 0 (by simp)) (fun hHeld => ?_)
      clear hK0 K0 hHeld HT
      refine wpAnyH_done (by kernel_rfl) ?_ _
      have hz9 : okI z := okI_of (by omega) (by omega)
      go_wp2_with fail
      go_meet
      exact ⟨⟨1 + v0, 0, 0, z⟩, q + 1 + 1 + 1 + 1, ⟨hok0.1, hzi, hzi, hz9⟩, by omega, D6⟩
    · rw [hk0]
      have DP' := Hid.mk DP
      clear DP
      go_wp2_with fail
      go_meet
      exact ⟨⟨1 + v0, v1, v2, 0⟩, q + 1 + 1 + 1, hok0, by omega, DP'.out⟩
    · rw [hk0]
      have DP' := Hid.mk DP
      clear DP
      go_wp2_with fail
      go_meet
      exact ⟨⟨1 + v0, v1, v2, 0⟩, q + 1 + 1 + 1, hok0, by omega, DP'.out⟩
  case rest =>
    clear DP hok0 CK
    obtain ⟨t, r, ht, hr, DP⟩ := hcut
    have CK := Hid.mk (fun w => l5Kids_ok t.o w)
    have oV := DP.var.open
    obtain ⟨s_V, f_V, z_V⟩ := oV
    go_upto_if 37 with (first | (go_at_call 52; refine (CK.out _).mono ?_; rintro e wq ⟨rfl, rfl⟩) | fail)
    clear s_V f_V z_V
    go_cut [] (fun wx => ∃ (t : T4), okT t ∧ Dp w a n ca zs c xs P t r wx)
    case first =>
      by_cases hk1 : kids t.o = 1
      · rw [hk1]
        have oV := DP.var.open
        obtain ⟨s_V, f_V, z_V⟩ := oV
        have D8 := Hid.mk (DP.cell 2 (by decide) 0)
        clear DP
        go_wp2_with fail
        go_meet
        exact ⟨updTerm t 2 0, okT_upd ht 2 hzi, D8.out⟩
      · have hk2 : (kids t.o == 1) = false := by simp [hk1]
        clear hk1
        have DP' := Hid.mk DP
        clear DP
        go_wp2_with fail
        go_meet
        exact ⟨t, ht, DP'.out⟩
    case rest =>
      clear DP ht CK
      obtain ⟨t, ht, DP⟩ := hcut
      go_upto_region 9 with fail
      go_cut [45] (fun v wx => ∃ (b : Bool) (q' : Nat), v = .bool b ∧ (b = true → 0 < k) ∧ q' ≤ q + 5 ∧ Dp w a n ca zs c xs P t q' wx)
      case first =>
        by_cases h0 : k = 0
        · have h9 : ¬ ((0 : Int) < (k : Int)) := by omega
          clear h0
          replace DP := Hid.mk DP
          go_wp2_with fail
          go_meet
          exact ⟨false, _, rfl, (fun h => by cases h), by omega, DP.out⟩
        · have h9 : (0 : Int) < (k : Int) := by omega
          clear h0
          go_wp2_with fail
          refine (l1Chance_ok (w.heap.size + 1) a n ca zs r 5 _ DP.src hb hn hx (by omega) (by omega)).mono ?_
          rintro e w5 ⟨vv, rfl, S5, g5⟩
          have D5 := Hid.mk (DP.drawn g5 S5)
          clear DP g5 S5
          go_wp2_with fail
          go_meet
          exact ⟨vv, r + 1, rfl, (fun _ => by omega), by omega, D5.out⟩
      case rest =>
        clear DP
        obtain ⟨bb, r1, rfl, hbk, hr1, DP⟩ := hcut
        replace hbk := Hid.mk hbk
        go_upto_if 45 with fail
        go_cut [] (fun wx => ∃ (t : T4) (q' : Nat), okT t ∧ q' ≤ q + 6 ∧ Dp w a n ca zs c xs P t q' wx)
        case first =>
          cases bb
          · replace DP := Hid.mk DP
            go_wp2_with fail
            go_meet
            exact ⟨t, _, ht, by omega, DP.out⟩
          · have hk9 := hbk.out rfl
            have hKe := hKk.out hk9
            subst hKe
            go_wp2_with fail
            refine (l1Next_ok (w.heap.size + 1) a n ca zs (r1) (k : Int) _ DP.src hb hn hx (by omega) (by omega)).mono ?_
            rintro e w6 ⟨vi, rfl, hv, _, S6, g⟩
            obtain ⟨hvi1, hvi2⟩ := hv (by omega)
            have D6 := DP.drawn g S6
            clear g hv S6
            obtain ⟨i, rfl⟩ := Int.eq_ofNat_of_zero_le hvi1
            have him : i < k := by omega
            obtain ⟨y, hy⟩ : ∃ y, xs.getD i zTerm = y := ⟨_, rfl⟩
            have hyo : okT y := by rw [← hy]; exact hok'.out _ (getDTerm_mem (by rw [hl'.out]; exact him))
            rcases D6.tab with h9 | ⟨b1, o1, rfl, hca⟩
            · have := hl'.out; rw [h9] at this; simp at this; omega
            obtain ⟨p0, p1, p2, p3⟩ := RdTerm.cells hca i (by rw [hl'.out]; exact him) y hy
            clear hca hy
            have HT := Hid.mk D6.var.there
            have D7 := D6.stroke y
            obtain ⟨w8, hw8⟩ : ∃ w8, w6.setCells P 0 [.int .i64 y.o, .int .i64 y.a, .int .i64 y.b, .int .i64 y.n] = w8 := ⟨_, rfl⟩
            rw [hw8] at D7
            replace hw8 := Hid.mk hw8
            replace D7 := Hid.mk D7
            have oV := D6.var.open
            obtain ⟨s_V, f_V, z_V⟩ := oV
            clear DP D6
            go_wp2_with (refine wpList_stroke w8 rfl 26 _ _ rfl P 0 #[.int .i64 y.o, .int .i64 y.a, .int .i64 y.b, .int .i64 y.n] rfl rfl HT.out (by kernel_rfl) (by kernel_rfl) hw8.out ?_)
            go_meet
            exact ⟨y, _, hyo, by omega, D7.out⟩
        case rest =>
          clear DP hbk ht
          obtain ⟨t1, r2, ht, hr2, DP⟩ := hcut
          go_wp2_with fail
          refine (l1Next_ok (w.heap.size + 1) a n ca zs (r2) 14 _ DP.src hb hn hx (by omega) (by omega)).mono ?_
          rintro e w7 ⟨u, rfl, hv, _, S7, g⟩
          obtain ⟨hu1, hu2⟩ := hv (by omega)
          have D7 := DP.drawn g S7
          clear g hv S7
          clear DP
          go_upto_block 0 with fail
          go_cut [] (fun wx => ∃ (t : T4) (q' : Nat), okT t ∧ Dp w a n ca zs c xs P t q' wx)
          case first =>
            rcases (by omega : u = 0 ∨ u = 1 ∨ u = 2 ∨ 3 ≤ u) with rfl | rfl | rfl | hu3
            · skip
              go_wp2_with fail
              refine (l1Pick_ok (w.heap.size + 1) a n ca zs (r2 + 1) w7.heap.size 3 3 [1, 10000, -1] _ (D7.src.kept (belowA _ _)) hb hn hx (by omega) rfl (by omega) (by omega) (fun i hi => ?_) (by have := D7.src.1.1; omega)).mono ?_
              · exact lit_cells w7 [1, 10000, -1] _ _ (by simp) _ hi
              rintro e w8 ⟨z, rfl, hz, S8, g8⟩
              have hzi2 : okI z := by simp only [List.mem_cons, List.not_mem_nil, or_false] at hz; exact okI_of (by omega) (by omega)
              have D8 := (D7.kept (belowA w7 (.cells #[.int .i64 1, .int .i64 10000, .int .i64 (-1)] 2))).drawn g8 S8
              have oV := D8.var.open
              obtain ⟨s_V, f_V, z_V⟩ := oV
              have D9 := Hid.mk (D8.cell 3 (by decide) z)
              clear D7 D8 hz S8 g8
              go_wp2_with fail
              go_meet
              exact ⟨updTerm t1 3 z, _, okT_upd ht 3 hzi2, D9.out⟩
            · skip
              go_wp2_with fail
              refine (l1Pick_ok (w.heap.size + 1) a n ca zs (r2 + 1) w7.heap.size 3 3 [-1, K, 0] _ (D7.src.kept (belowA _ _)) hb hn hx (by omega) rfl (by omega) (by omega) (fun i hi => ?_) (by have := D7.src.1.1; omega)).mono ?_
              · exact lit_cells w7 [-1, K, 0] _ _ (by simp) _ hi
              rintro e w8 ⟨z, rfl, hz, S8, g8⟩
              have hzi2 : okI z := by simp only [List.mem_cons, List.not_mem_nil, or_false] at hz; exact okI_of (by omega) (by omega)
              have D8 := (D7.kept (belowA w7 (.cells #[.int .i64 (-1), .int .i64 (K), .int .i64 0] 2))).drawn g8 S8
              have oV := D8.var.open
              obtain ⟨s_V, f_V, z_V⟩ := oV
              have D9 := Hid.mk (D8.cell 1 (by decide) z)
              clear D7 D8 hz S8 g8
              go_wp2_with fail
              go_meet
              exact ⟨updTerm t1 1 z, _, okT_upd ht 1 hzi2, D9.out⟩
            · skip
              go_wp2_with fail
              refine (l1Pick_ok (w.heap.size + 1) a n ca zs (r2 + 1) w7.heap.size 2 2 [0, 8] _ (D7.src.kept (belowA _ _)) hb hn hx (by omega) rfl (by omega) (by omega) (fun i hi => ?_) (by have := D7.src.1.1; omega)).mono ?_
              · exact lit_cells w7 [0, 8] _ _ (by simp) _ hi
              rintro e w8 ⟨z, rfl, hz, S8, g8⟩
              have hzi2 : okI z := by simp only [List.mem_cons, List.not_mem_nil, or_false] at hz; exact okI_of (by omega) (by omega)
              have D8 := (D7.kept (belowA w7 (.cells #[.int .i64 0, .int .i64 8] 2))).drawn g8 S8
              have oV := D8.var.open
              obtain ⟨s_V, f_V, z_V⟩ := oV
              have D9 := Hid.mk (D8.cell 0 (by decide) z)
              clear D7 D8 hz S8 g8
              go_wp2_with fail
              go_meet
              exact ⟨updTerm t1 0 z, _, okT_upd ht 0 hzi2, D9.out⟩
            · have hu4 : (u == 0) = false := by simp; omega
              have hu5 : (u == 1) = false := by simp; omega
              have hu6 : (u == 2) = false := by simp; omega
              replace D7 := Hid.mk D7
              go_wp2_with fail
              go_meet
              exact ⟨t1, _, ht, D7.out⟩
          case rest =>
            clear D7 ht
            obtain ⟨t5, r5, ht, DP⟩ := hcut
            go_upto_region 18 with fail
            have DD := DP.kept (Below.refl _ _).drew
            clear DP
            refine wp_region_held_drew (S := (fun w' => w'.cell? ⟨P, 0, none⟩ = some (.int .i64 t5.o) ∧ w'.cell? ⟨P, 1, none⟩ = some (.int .i64 t5.a) ∧ w'.cell? ⟨P, 2, none⟩ = some (.int .i64 t5.b) ∧ w'.cell? ⟨P, 3, none⟩ = some (.int .i64 t5.n))) (by kernel_rfl) ⟨DD.var.2.1 0 (by simp), DD.var.2.1 1 (by simp), DD.var.2.1 2 (by simp), DD.var.2.1 3 (by simp)⟩ (fun hHeld => ?_)
            generalize hwd : World.drew _ = wd at *
            clear hwd
            refine wpAnyH_take (i := 0) (oi := _) (v := ?vdz0) rfl (by kernel_rfl) (by kernel_rfl) (by kernel_rfl) (fun _ _ _ h => h) (Or.inl ⟨by rfl, ?hydz0⟩) hHeld ?restdz0
            case hydz0 => (intro w hSw; (try dsimp only at hSw); go_simp; first | done | with_reducible rfl)
            try simp only [Act.put, List.getElem_toArray, List.getElem_cons_zero, List.setIfInBounds_toArray, List.set_cons_zero, List.set_cons_succ]
            refine wpAnyH_take (i := 1) (oi := _) (v := ?vdz1) rfl (by kernel_rfl) (by kernel_rfl) (by kernel_rfl) (fun _ _ _ h => h) (Or.inl ⟨by rfl, ?hydz1⟩) hHeld ?restdz1
            case hydz1 => (intro w hSw; (try dsimp only at hSw); go_simp; first | done | with_reducible rfl)
            try simp only [Act.put, List.getElem_toArray, List.getElem_cons_zero, List.getElem_cons_succ, List.setIfInBounds_toArray, List.set_cons_zero, List.set_cons_succ]
            refine wpAnyH_take (i := 2) (oi := _) (v := ?vdz2) rfl (by kernel_rfl) (by kernel_rfl) (by kernel_rfl) (fun _ _ _ h => h) (Or.inl ⟨by rfl, ?hydz2⟩) hHeld ?restdz2
            case hydz2 => (intro w hSw; (try dsimp only at hSw); go_simp; first | done | with_reducible rfl)
            try simp only [Act.put, List.getElem_toArray, List.getElem_cons_zero, List.getElem_cons_succ, List.setIfInBounds_toArray, List.set_cons_zero, List.set_cons_succ]
            have HT := Hid.mk DD.res.there
            have VF := DD.res.filled [.int .i64 t5.o, .int .i64 t5.a, .int .i64 t5.b, .int .i64 t5.n] rfl
            have AV := DD.var.apart (B := w.heap.size) (by have := DD.far; omega) 0 [.int .i64 t5.o, .int .i64 t5.a, .int .i64 t5.b, .int .i64 t5.n]
            have RT := DD.tab.apart (B := w.heap.size) (fun b hb => by have := (DD.off b hb).1; omega) 0 [.int .i64 t5.o, .int .i64 t5.a, .int .i64 t5.b, .int .i64 t5.n]
            have BT := belowCells DD.bel (Nat.le_refl _) 0 [.int .i64 t5.o, .int .i64 t5.a, .int .i64 t5.b, .int .i64 t5.n]
            obtain ⟨w6, hw6⟩ : ∃ w6, wd.setCells w.heap.size 0 [.int .i64 t5.o, .int .i64 t5.a, .int .i64 t5.b, .int .i64 t5.n] = w6 := ⟨_, rfl⟩
            rw [hw6] at VF AV RT BT
            replace hw6 := Hid.mk hw6
            replace RT := Hid.mk RT
            replace BT := Hid.mk BT
            clear DD
            refine wpAnyH_ready (rs := [3]) (by kernel_rfl) (by simp) ?_
            refine AllReadyH.cons (o := _) rfl (fun K0 hK0 => ?_) AllReadyH.nil
            rw [if_pos (by rfl)]
            refine wp_stroke w6 26 _ _ rfl w.heap.size 0 #[.int .i64 t5.o, .int .i64 t5.a, .int .i64 t5.b, .int .i64 t5.n] rfl rfl HT.out (by kernel_rfl) (by kernel_rfl) hw6.out ?_
            refine hK0.out _ _ ⟨AV.2.1 0 (by simp), AV.2.1 1 (by simp), AV.2.1 2 (by simp), AV.2.1 3 (by simp)⟩ (fun hHeld => ?_)
            clear hK0 K0 hHeld HT AV
            refine wpAnyH_done (by kernel_rfl) ?_ _
            have g0 := VF.2.1 0 (by simp)
            have g1 := VF.2.1 1 (by simp)
            have g2 := VF.2.1 2 (by simp)
            have g3 := VF.2.1 3 (by simp)
            simp only [List.getElem?_cons_zero, List.getElem?_cons_succ] at g0 g1 g2 g3
            clear VF
            go_wp2
            refine bodyPost_ret (v := .tuple #[.slice c k d, .agg #[.int .i64 t5.o, .int .i64 t5.a, .int .i64 t5.b, .int .i64 t5.n]]) (by simp [results, Try.results14, go_sem, g0, g1, g2, g3]) rfl ⟨c, d, k, xs, t5, rfl, hl'.out, hk, hcap'.out, hnc'.out, hok'.out, ht, RT.out, BT.out⟩

end Go.Proofs.Ytedippfnlaiapaa
