/- the draws of FnWire. -/
import Derived.Test.YtfldgeokigcokaaGreatFWp
import Derived.Test.YtfldgeokigcokaaGreatDrawC
import Derived.Test.YtfldgeokigcokaaGreatFWs
import Derived.Test.YtfldgeokigcokaaGreatRdrG
namespace Go.Proofs.YtfldgeokigcokaaGreat
open Go.RowKit

theorem field_b1W (k v : Value) (w : World) : (Instr.field 31 (.agg #[k, v]) 1).run Tryz.prog w = .ok v w := by kernel_rfl

theorem en_len7 (xs : List T4) (q : Int) : (enB xs q).length ≤ 400 := by
  rcases en_ways xs q with ⟨_, _, h⟩ | ⟨_, _, _, h⟩ | ⟨_, _, _, _, _, h⟩ | ⟨_, _, _, h1, _, h⟩ <;> rw [h]
  · exact Nat.zero_le _
  · exact Nat.zero_le _
  · exact Nat.zero_le _
  · exact h1

theorem Own.cellAt7 {k : IntKind} {e : TypeId} {w : World} {base g cap : Nat} {zs : List Int} (h : Own k e w base (some ⟨g, 0, none⟩) cap zs) (j : Nat) (hj : j < zs.length) : w.cell? ⟨g, j, none⟩ = some (.int k (zs.getD j 0)) := by
  rw [World.ownsRow.cellAt h j (by simpa using hj)]
  simp [List.getD, hj]

theorem Own.frozenAt7 {k : IntKind} {e : TypeId} {w : World} {base g cap : Nat} {zs : List Int} (h : Own k e w base (some ⟨g, 0, none⟩) cap zs) (j : Nat) : w.frozen? ⟨g, j, none⟩ = false := World.ownsRow.frozenAt h j

theorem Own.store7 {k : IntKind} {e : TypeId} {w : World} {base g cap : Nat} {zs : List Int} (h : Own k e w base (some ⟨g, 0, none⟩) cap zs) (j : Nat) (u : Int) : Own k e (w.setCell ⟨g, j, none⟩ (.int k u)) base (some ⟨g, 0, none⟩) cap (zs.set j u) := by
  have h2 := (h.stored j (.int k u)).1
  rw [set_map] at h2
  exact Own.mk h2 (by simp)

theorem Bytes.set7 {zs : List Int} (h : Bytes zs) (j : Nat) {u : Int} (hu : 0 ≤ u ∧ u < 256) : Bytes (zs.set j u) := by
  intro z hz
  rcases List.mem_or_eq_of_mem_set hz with h1 | rfl
  · exact h z h1
  · exact hu

theorem Rd.take7 {k : IntKind} {w : World} {a : Option Addr} {zs : List Int} (h : Rd k w a zs) (m : Nat) : Rd k w a (zs.take m) := by
  rcases h with h | ⟨b, o, rfl, hc⟩
  · subst h; exact .inl (by simp)
  · refine .inr ⟨b, o, rfl, fun i hi => ?_⟩
    simp at hi
    rw [hc i (by omega)]
    simp [List.getD, show i < m by omega]

theorem Src.keptB7 {w w' : World} {base B : Nat} {a : Option Addr} {n ca : Nat} {zs : List Int} {t : Nat} (h : Src w B a n ca zs t) (hB : B < base) (b : Below base w w') : Src w' B a n ca zs t := by
  refine ⟨⟨Nat.lt_of_lt_of_le h.1.1 b.size, fun i v hi => (b.cell (p := ⟨B, i, none⟩) hB).trans (h.1.2 i v hi)⟩, (b.frozen (p := ⟨B, 1, none⟩) hB).trans h.2.1, ?_, h.2.2.2⟩
  have h3 := h.2.2.2
  rcases h.2.2.1 with e | ⟨b0, off, rfl, hc⟩
  · exact .inl e
  · refine .inr ⟨b0, off, rfl, fun i hi => ?_⟩
    rcases h3 with e | h3
    · subst e; simp at hi
    · exact (b.cell (p := ⟨b0, off + i, none⟩) (show b0 < base from Nat.lt_trans (h3 _ rfl) hB)).trans (hc i hi)

set_option maxRecDepth 20000 in
set_option maxHeartbeats 4000000 in
theorem l5With_ok (a : Option Addr) (n ca : Nat) (zs : List Int) (w : World) (ha : Rd .u8 w a zs) (hb : Bytes zs) (hn : zs.length = n) (hx : n ≤ 1048577) :
    Calls Tryz.prog 14 #[.slice a n ca] w fun e w' => ∃ (c : Option Addr) (d k : Nat) (xs : List T4) (q : Int), e = .returned (.tuple #[.slice c k d, .int .i64 q]) ∧
      (xs.length = k ∧ k ≤ 401 ∧ k ≤ d ∧ (c = none → d = 0) ∧ ∀ x ∈ xs, okT x) ∧ (-1 ≤ q ∧ q ≤ 401) ∧ RdTerm w' c xs ∧ Below w.heap.size w w' := by
  go_enter Tryz.func14, Tryz.ntmps14
  have S := Src.new w a n ca zs 65 ha
  have G := belowA w (.cells #[.slice a n ca, .int .i64 0] 65)
  go_wp2_with (first | (go_at_call 13; go_in) | fail)
  refine (l5Bent_ok w.heap.size a n ca zs 0 _ S hb hn hx (by omega)).mono ?_
  rintro e w1 ⟨c, d, k, xs, q1, rfl, hl, hk, hok, O, hq1, S1, g1⟩
  have hcap := O.cap
  have hnc := ownTerm_nocap O
  rw [hl] at hcap
  have hOl := O.lt
  simp only [World.size_alloc] at hOl
  replace hOl := Hid.mk hOl
  have R := O.rd
  replace G := G.grown g1 (by simp) (by simp)
  have H1 := Hid.mk (show xs.length = k ∧ k ≤ 401 ∧ k ≤ d ∧ (c = none → d = 0) ∧ ∀ x ∈ xs, okT x from ⟨hl, hk, hcap, hnc, hok⟩)
  clear g1 O S hl hok hcap hnc
  replace R := Hid.mk R
  go_wp2_with fail
  refine (l5Place_ok w.heap.size a n ca zs q1 _ S1 hb hn hx (by omega) c d k hk).mono ?_
  rintro e w2 ⟨v, rfl, hv, S2, g2⟩
  replace R := Hid.mk (R.out.grown g2 (fun b hb e => by have := (hOl.out b hb).1; simp at e; omega))
  have G4 := Hid.mk (G.grown g2 (by have := G.size; omega) (by simp))
  clear g2 S1 S2 G
  go_wp2
  go_ret2
  exact ⟨c, d, k, xs, v, rfl, H1.out, hv, R.out, G4.out⟩

theorem drawEncodeTerm_ok (a : Option Addr) (n ca : Nat) (zs : List Int) (w : World) (ha : Rd .u8 w a zs) (hb : Bytes zs) (hn : zs.length = n) (hx : n ≤ 1048577) :
    Calls Tryz.prog 9 #[.slice a n ca] w fun e w' => ∃ (c : Option Addr) (d k : Nat) (xs : List T4) (q : Int), e = .returned (.tuple #[.slice c k d, .int .i64 q]) ∧
      (xs.length = k ∧ k ≤ 401 ∧ k ≤ d ∧ (c = none → d = 0) ∧ ∀ x ∈ xs, okT x) ∧ (-1 ≤ q ∧ q ≤ 401) ∧ RdTerm w' c xs ∧ Below w.heap.size w w' := by
  go_enter Tryz.func9, Tryz.ntmps9
  go_wp2_with fail
  refine (l5With_ok a n ca zs _ ha hb hn hx).mono ?_
  rintro e w1 ⟨c, d, k, xs, q, rfl, H1, H2, R, B⟩
  have HH := Hid.mk (And.intro H1 (And.intro H2 (And.intro R B)))
  clear H1 H2 R B
  go_wp2
  go_ret2
  exact ⟨c, d, k, xs, q, rfl, HH.out.1, HH.out.2.1, HH.out.2.2.1, HH.out.2.2.2⟩

set_option maxRecDepth 20000 in
set_option maxHeartbeats 8000000 in
theorem drawDecodeTerm_ok (a : Option Addr) (n ca : Nat) (zs : List Int) (w : World) (ha : Rd .u8 w a zs) (hb : Bytes zs) (hn : zs.length = n) (hx : n ≤ 1048577) :
    Calls Tryz.prog 5 #[.slice a n ca] w fun e w' => ∃ (c : Option Addr) (d k : Nat) (xs : List T4) (c2 : Option Addr) (d2 m : Nat) (ys : List Int), e = .returned (.tuple #[.slice c k d, .slice c2 m d2]) ∧
      (xs.length = k ∧ k ≤ 401 ∧ k ≤ d ∧ (c = none → d = 0) ∧ ∀ x ∈ xs, okT x) ∧ ys.length = m ∧ m ≤ 402 ∧ m ≤ d2 ∧ Bytes ys ∧ NoSpot c2 ∧ RdTerm w' c xs ∧ Rd .u8 w' c2 ys ∧ Below w.heap.size w w' := by
  obtain ⟨i0, hi, j0, j1, j2⟩ := info_parts Tryz.info_u8
  have q1 := field_b1W
  go_enter Tryz.func5, Tryz.ntmps5
  have S := Src.new w a n ca zs 65 ha
  have G := belowA w (.cells #[.slice a n ca, .int .i64 0] 65)
  have ha1 := ha.kept (belowA w (.cells #[.slice a n ca, .int .i64 0] 65))
  go_wp2_with (first | (go_at_call 13; go_in) | fail)
  refine (l5With_ok a n ca zs _ ha1 hb hn hx).mono ?_
  rintro e w1 ⟨c0, d0, k0, xs0, q0, rfl, ⟨hl0, hk0, hkd0, hnc0, hok0⟩, hq0, R0, b1⟩
  have S1 := S.kept b1
  clear S
  have S := S1
  clear S1
  replace G := thenB G b1
  clear b1 ha1
  have CE := specEncodeTerm_ok c0 k0 d0 xs0 q0 w1 R0 hl0 (by unfold maxLen; omega) hkd0
  have hYb : Bytes (enB xs0 q0) := bytes_enB
  have hYl := en_len7 xs0 q0
  generalize enB xs0 q0 = Y at *
  generalize enC xs0 q0 = kc at *
  obtain ⟨N, hY⟩ : ∃ N, Y.length = N := ⟨_, rfl⟩
  rw [hY] at CE hYl
  have HY := Hid.mk hY
  replace CE := Hid.mk CE
  clear hY hok0 hnc0 hkd0 hq0 R0 hl0 hk0
  go_wp2_with fail
  refine CE.out.mono ?_
  rintro e w2 ⟨c2, d2, rfl, O, b2⟩
  have hw1 : w.heap.size < w1.heap.size := S.1.1
  replace S := S.kept b2
  replace G := thenB G b2
  have hcap := O.cap
  rw [HY.out] at hcap
  clear b2 CE
  have HRB : Hid (∀ b : Addr, c2 = some b → w.heap.size < b.block) := Hid.mk (fun b hb' => by have := (O.lt b hb').1; omega)
  have HNS := Hid.mk O.noSpot
  rcases Nat.eq_zero_or_pos N with h0 | h0
  · have RB := O.rd
    have HYS := Hid.mk (And.intro HY.out (And.intro (show N ≤ 402 by omega) (And.intro hcap hYb)))
    have hN0 : ¬ ((0 : Int) < (N : Int)) := by omega
    clear O h0 HY hYb
    go_wp2_with fail
    refine (l1Chance_ok w.heap.size a n ca zs 0 40 _ S hb hn hx (by omega) (by omega)).mono ?_
    rintro e wA0 ⟨vA, rfl, SA, kA⟩
    replace RB := RB.grown kA (.inr (fun b hb' e => by have := HRB.out b hb'; simp at e; omega))
    replace G := G.grown kA G.size (by intro k hk; simp at hk; omega)
    clear kA S
    have S := SA
    clear SA
    cases vA
    · skip
      go_wp2_with fail
      refine (l5Bent_ok w.heap.size a n ca zs (0 + 1) _ S hb hn hx (by omega)).mono ?_
      rintro e wB0 ⟨c5, d5, k5, xs5, q5, rfl, hl5, hk5, hok5, O5, hq5, S5, g5⟩
      have hcap5 := O5.cap
      have hnc5 := ownTerm_nocap O5
      rw [hl5] at hcap5
      replace RB := RB.grown g5 (.inr (fun b hb' e => by have := HRB.out b hb'; simp at e; omega))
      replace G := G.grown g5 G.size (by intro k hk; simp at hk; omega)
      have RT := Hid.mk O5.rd
      have RB9 := Hid.mk RB
      have G9 := Hid.mk G
      have H5 := Hid.mk (show xs5.length = k5 ∧ k5 ≤ 401 ∧ k5 ≤ d5 ∧ (c5 = none → d5 = 0) ∧ ∀ x ∈ xs5, okT x from ⟨hl5, hk5, hcap5, hnc5, hok5⟩)
      clear g5 O5 S5 S RB G hl5 hok5 hcap5 hnc5
      go_wp2
      go_ret2
      exact ⟨c5, d5, k5, xs5, c2, d2, N, _, rfl, H5.out, HYS.out.1, HYS.out.2.1, HYS.out.2.2.1, HYS.out.2.2.2, HNS.out, RT.out, RB9.out, G9.out⟩
    · have hSz := S.1.1
      clear RB HRB HNS HYS
      go_wp2_with (at_make; refine wpList_make_full _ rfl _ _ 22 rfl wA0.heap.size 5 i0 (.int .u8 0) 1 Tryz.underlying22 hi j0 j1 .i64 .i64 _ _ 401 rfl rfl rfl rfl (by rw [j2]; omega) (by unfold maxLen; omega) (Nat.le_refl _) ?_)
      intro w3 hown hgrow
      have O3 : Own .u8 5 w3 wA0.heap.size (some ⟨wA0.heap.size, 0, none⟩) 401 (List.replicate 401 0) := by
        refine Own.mk (n := 401) ?_ (by simp)
        simpa [toList_madeCells_one] using hown
      have bn : Below wA0.heap.size wA0 w3 := (Below.refl _ _).grown hgrow (Nat.le_refl _) (by intro k hk; cases hk)
      have hb0 : Bytes (List.replicate 401 (0 : Int)) := fun z hz => by rw [List.eq_of_mem_replicate hz]; decide
      have hl0 : (List.replicate 401 (0 : Int)).length = 401 := List.length_replicate
      generalize List.replicate 401 (0 : Int) = zs0 at *
      replace S := S.kept bn
      have hgs := G.size
      have hsA : w.heap.size < wA0.heap.size := by have := hSz; omega
      replace G := G.trans (bn.mono (by omega))
      have RB := O3.rd
      have HRB : Hid (∀ b : Addr, (some ⟨wA0.heap.size, 0, none⟩ : Option Addr) = some b → w.heap.size < b.block) := Hid.mk (fun b hb' => by simp only [Option.some.injEq] at hb'; subst hb'; exact hsA)
      have HNS := Hid.mk O3.noSpot
      have HYS := Hid.mk (And.intro hl0 (And.intro (show 401 ≤ 402 by omega) (And.intro (show 401 ≤ 401 by omega) hb0)))
      clear hown hgrow bn O3 hb0 hl0
      go_wp2_with fail
      refine (l5Bent_ok w.heap.size a n ca zs (0 + 1) _ S hb hn hx (by omega)).mono ?_
      rintro e wB0 ⟨c5, d5, k5, xs5, q5, rfl, hl5, hk5, hok5, O5, hq5, S5, g5⟩
      have hcap5 := O5.cap
      have hnc5 := ownTerm_nocap O5
      rw [hl5] at hcap5
      replace RB := RB.grown g5 (.inr (fun b hb' e => by have := HRB.out b hb'; simp at e; omega))
      replace G := G.grown g5 G.size (by intro k hk; simp at hk; omega)
      have RT := Hid.mk O5.rd
      have RB9 := Hid.mk RB
      have G9 := Hid.mk G
      have H5 := Hid.mk (show xs5.length = k5 ∧ k5 ≤ 401 ∧ k5 ≤ d5 ∧ (c5 = none → d5 = 0) ∧ ∀ x ∈ xs5, okT x from ⟨hl5, hk5, hcap5, hnc5, hok5⟩)
      clear g5 O5 S5 S RB G hl5 hok5 hcap5 hnc5
      go_wp2
      go_ret2
      exact ⟨c5, d5, k5, xs5, some ⟨wA0.heap.size, 0, none⟩, 401, 401, _, rfl, H5.out, HYS.out.1, HYS.out.2.1, HYS.out.2.2.1, HYS.out.2.2.2, HNS.out, RT.out, RB9.out, G9.out⟩
  · have hN0 : (0 : Int) < (N : Int) := by omega
    obtain ⟨g, rfl, hg⟩ := O.some_of (by rw [HY.out]; omega)
    go_wp2_with fail
    refine (l1Chance_ok w.heap.size a n ca zs 0 4 _ S hb hn hx (by omega) (by omega)).mono ?_
    rintro e w3 ⟨v3, rfl, S3, k3⟩
    replace O := O.past k3 hw1
    replace G := G.grown k3 G.size (by intro k hk; simp at hk; omega)
    clear k3 S
    have S := S3
    clear S3
    cases v3
    · have RB := O.rd
      have HYS := Hid.mk (And.intro HY.out (And.intro (show N ≤ 402 by omega) (And.intro hcap hYb)))
      clear O HY hYb
      go_wp2_with fail
      refine (l1Chance_ok w.heap.size a n ca zs (0 + 1) 40 _ S hb hn hx (by omega) (by omega)).mono ?_
      rintro e wA1 ⟨vA, rfl, SA, kA⟩
      replace RB := RB.grown kA (.inr (fun b hb' e => by have := HRB.out b hb'; simp at e; omega))
      replace G := G.grown kA G.size (by intro k hk; simp at hk; omega)
      clear kA S
      have S := SA
      clear SA
      cases vA
      · skip
        go_wp2_with fail
        refine (l5Bent_ok w.heap.size a n ca zs ((0 + 1) + 1) _ S hb hn hx (by omega)).mono ?_
        rintro e wB1 ⟨c5, d5, k5, xs5, q5, rfl, hl5, hk5, hok5, O5, hq5, S5, g5⟩
        have hcap5 := O5.cap
        have hnc5 := ownTerm_nocap O5
        rw [hl5] at hcap5
        replace RB := RB.grown g5 (.inr (fun b hb' e => by have := HRB.out b hb'; simp at e; omega))
        replace G := G.grown g5 G.size (by intro k hk; simp at hk; omega)
        have RT := Hid.mk O5.rd
        have RB9 := Hid.mk RB
        have G9 := Hid.mk G
        have H5 := Hid.mk (show xs5.length = k5 ∧ k5 ≤ 401 ∧ k5 ≤ d5 ∧ (c5 = none → d5 = 0) ∧ ∀ x ∈ xs5, okT x from ⟨hl5, hk5, hcap5, hnc5, hok5⟩)
        clear g5 O5 S5 S RB G hl5 hok5 hcap5 hnc5
        go_wp2
        go_ret2
        exact ⟨c5, d5, k5, xs5, some ⟨g, 0, none⟩, d2, N, _, rfl, H5.out, HYS.out.1, HYS.out.2.1, HYS.out.2.2.1, HYS.out.2.2.2, HNS.out, RT.out, RB9.out, G9.out⟩
      · have hSz := S.1.1
        clear RB HRB HNS HYS
        go_wp2_with (at_make; refine wpList_make_full _ rfl _ _ 22 rfl wA1.heap.size 5 i0 (.int .u8 0) 1 Tryz.underlying22 hi j0 j1 .i64 .i64 _ _ 401 rfl rfl rfl rfl (by rw [j2]; omega) (by unfold maxLen; omega) (Nat.le_refl _) ?_)
        intro w3 hown hgrow
        have O3 : Own .u8 5 w3 wA1.heap.size (some ⟨wA1.heap.size, 0, none⟩) 401 (List.replicate 401 0) := by
          refine Own.mk (n := 401) ?_ (by simp)
          simpa [toList_madeCells_one] using hown
        have bn : Below wA1.heap.size wA1 w3 := (Below.refl _ _).grown hgrow (Nat.le_refl _) (by intro k hk; cases hk)
        have hb0 : Bytes (List.replicate 401 (0 : Int)) := fun z hz => by rw [List.eq_of_mem_replicate hz]; decide
        have hl0 : (List.replicate 401 (0 : Int)).length = 401 := List.length_replicate
        generalize List.replicate 401 (0 : Int) = zs0 at *
        replace S := S.kept bn
        have hgs := G.size
        have hsA : w.heap.size < wA1.heap.size := by have := hSz; omega
        replace G := G.trans (bn.mono (by omega))
        have RB := O3.rd
        have HRB : Hid (∀ b : Addr, (some ⟨wA1.heap.size, 0, none⟩ : Option Addr) = some b → w.heap.size < b.block) := Hid.mk (fun b hb' => by simp only [Option.some.injEq] at hb'; subst hb'; exact hsA)
        have HNS := Hid.mk O3.noSpot
        have HYS := Hid.mk (And.intro hl0 (And.intro (show 401 ≤ 402 by omega) (And.intro (show 401 ≤ 401 by omega) hb0)))
        clear hown hgrow bn O3 hb0 hl0
        go_wp2_with fail
        refine (l5Bent_ok w.heap.size a n ca zs ((0 + 1) + 1) _ S hb hn hx (by omega)).mono ?_
        rintro e wB1 ⟨c5, d5, k5, xs5, q5, rfl, hl5, hk5, hok5, O5, hq5, S5, g5⟩
        have hcap5 := O5.cap
        have hnc5 := ownTerm_nocap O5
        rw [hl5] at hcap5
        replace RB := RB.grown g5 (.inr (fun b hb' e => by have := HRB.out b hb'; simp at e; omega))
        replace G := G.grown g5 G.size (by intro k hk; simp at hk; omega)
        have RT := Hid.mk O5.rd
        have RB9 := Hid.mk RB
        have G9 := Hid.mk G
        have H5 := Hid.mk (show xs5.length = k5 ∧ k5 ≤ 401 ∧ k5 ≤ d5 ∧ (c5 = none → d5 = 0) ∧ ∀ x ∈ xs5, okT x from ⟨hl5, hk5, hcap5, hnc5, hok5⟩)
        clear g5 O5 S5 S RB G hl5 hok5 hcap5 hnc5
        go_wp2
        go_ret2
        exact ⟨c5, d5, k5, xs5, some ⟨wA1.heap.size, 0, none⟩, 401, 401, _, rfl, H5.out, HYS.out.1, HYS.out.2.1, HYS.out.2.2.1, HYS.out.2.2.2, HNS.out, RT.out, RB9.out, G9.out⟩
    go_wp2_with fail
    refine (l1Next_ok w.heap.size a n ca zs (0 + 1) (N : Int) _ S hb hn hx (by omega) (by omega)).mono ?_
    rintro e w4 ⟨i, rfl, hi5, _, S4, k4⟩
    obtain ⟨hi1, hi2⟩ := hi5 (by omega)
    obtain ⟨i, rfl⟩ := Int.eq_ofNat_of_zero_le hi1
    have hi3 : i < N := by omega
    replace O := O.past k4 hw1
    replace G := G.grown k4 G.size (by intro k hk; simp at hk; omega)
    clear k4 S
    have S := S4
    clear S4
    go_wp2_with fail
    refine (l1Next_ok w.heap.size a n ca zs (0 + 1 + 1) 3 _ S hb hn hx (by omega) (by omega)).mono ?_
    rintro e w5 ⟨k, rfl, hk6, _, S5, k5⟩
    obtain ⟨hk1, hk2⟩ := hk6 (by omega)
    replace O := O.past k5 hw1
    replace G := G.grown k5 G.size (by intro k hk; simp at hk; omega)
    clear k5 S
    have S := S5
    clear S5
    rcases (by omega : k = 0 ∨ k = 1 ∨ k = 2) with rfl | rfl | rfl
    · go_wp2_with fail
      refine (l1Next_ok w.heap.size a n ca zs (0 + 1 + 1 + 1) 9 _ S hb hn hx (by omega) (by omega)).mono ?_
      rintro e w6 ⟨v6, rfl, h7, _, S6, k6⟩
      have h7 := h7 (by omega)
      replace O := O.past k6 hw1
      replace G := G.grown k6 G.size (by intro k hk; simp at hk; omega)
      clear k6 S
      have S := S6
      clear S6
      have hw7 : IntKind.u8.wrap v6 = v6 := by rw [IntKind.wrap_u8]; omega
      have hil : (i : Int) < (N : Int) := by omega
      have fg := O.cellAt7 i (by rw [HY.out]; exact hi3)
      have zg := O.frozenAt7 i
      have hgw : w1.heap.size ≤ g := hg
      have RB := Hid.mk (O.store7 i v6).rd
      have S7 := Hid.mk (S.other (p := ⟨g, i, none⟩) (by simp; omega) (.int .u8 v6))
      have G7 := Hid.mk (G.setCell (p := ⟨g, i, none⟩) (by simp; omega) (.int .u8 v6))
      have HYS := Hid.mk (And.intro (show (Y.set i v6).length = N by rw [List.length_set]; exact HY.out) (And.intro (show N ≤ 402 by omega) (And.intro hcap (hYb.set7 i (u := v6) (by omega)))))
      generalize Y.getD i 0 = u at *
      generalize Y.set i v6 = ys at *
      clear O G S HY hYb
      go_upto_region 13 with fail
      clear fg zg
      generalize w6.setCell ⟨g, i, none⟩ (.int .u8 v6) = w7 at *
      have S := S7.out
      have G := G7.out
      replace RB := RB.out
      clear S7 G7
      go_wp2_with fail
      refine (l1Chance_ok w.heap.size a n ca zs (0 + 1 + 1 + 1 + 1) 40 _ S hb hn hx (by omega) (by omega)).mono ?_
      rintro e wA2 ⟨vA, rfl, SA, kA⟩
      replace RB := RB.grown kA (.inr (fun b hb' e => by have := HRB.out b hb'; simp at e; omega))
      replace G := G.grown kA G.size (by intro k hk; simp at hk; omega)
      clear kA S
      have S := SA
      clear SA
      cases vA
      · skip
        go_wp2_with fail
        refine (l5Bent_ok w.heap.size a n ca zs ((0 + 1 + 1 + 1 + 1) + 1) _ S hb hn hx (by omega)).mono ?_
        rintro e wB2 ⟨c5, d5, k5, xs5, q5, rfl, hl5, hk5, hok5, O5, hq5, S5, g5⟩
        have hcap5 := O5.cap
        have hnc5 := ownTerm_nocap O5
        rw [hl5] at hcap5
        replace RB := RB.grown g5 (.inr (fun b hb' e => by have := HRB.out b hb'; simp at e; omega))
        replace G := G.grown g5 G.size (by intro k hk; simp at hk; omega)
        have RT := Hid.mk O5.rd
        have RB9 := Hid.mk RB
        have G9 := Hid.mk G
        have H5 := Hid.mk (show xs5.length = k5 ∧ k5 ≤ 401 ∧ k5 ≤ d5 ∧ (c5 = none → d5 = 0) ∧ ∀ x ∈ xs5, okT x from ⟨hl5, hk5, hcap5, hnc5, hok5⟩)
        clear g5 O5 S5 S RB G hl5 hok5 hcap5 hnc5
        go_wp2
        go_ret2
        exact ⟨c5, d5, k5, xs5, some ⟨g, 0, none⟩, d2, N, _, rfl, H5.out, HYS.out.1, HYS.out.2.1, HYS.out.2.2.1, HYS.out.2.2.2, HNS.out, RT.out, RB9.out, G9.out⟩
      · have hSz := S.1.1
        clear RB HRB HNS HYS
        go_wp2_with (at_make; refine wpList_make_full _ rfl _ _ 22 rfl wA2.heap.size 5 i0 (.int .u8 0) 1 Tryz.underlying22 hi j0 j1 .i64 .i64 _ _ 401 rfl rfl rfl rfl (by rw [j2]; omega) (by unfold maxLen; omega) (Nat.le_refl _) ?_)
        intro w3 hown hgrow
        have O3 : Own .u8 5 w3 wA2.heap.size (some ⟨wA2.heap.size, 0, none⟩) 401 (List.replicate 401 0) := by
          refine Own.mk (n := 401) ?_ (by simp)
          simpa [toList_madeCells_one] using hown
        have bn : Below wA2.heap.size wA2 w3 := (Below.refl _ _).grown hgrow (Nat.le_refl _) (by intro k hk; cases hk)
        have hb0 : Bytes (List.replicate 401 (0 : Int)) := fun z hz => by rw [List.eq_of_mem_replicate hz]; decide
        have hl0 : (List.replicate 401 (0 : Int)).length = 401 := List.length_replicate
        generalize List.replicate 401 (0 : Int) = zs0 at *
        replace S := S.kept bn
        have hgs := G.size
        have hsA : w.heap.size < wA2.heap.size := by have := hSz; omega
        replace G := G.trans (bn.mono (by omega))
        have RB := O3.rd
        have HRB : Hid (∀ b : Addr, (some ⟨wA2.heap.size, 0, none⟩ : Option Addr) = some b → w.heap.size < b.block) := Hid.mk (fun b hb' => by simp only [Option.some.injEq] at hb'; subst hb'; exact hsA)
        have HNS := Hid.mk O3.noSpot
        have HYS := Hid.mk (And.intro hl0 (And.intro (show 401 ≤ 402 by omega) (And.intro (show 401 ≤ 401 by omega) hb0)))
        clear hown hgrow bn O3 hb0 hl0
        go_wp2_with fail
        refine (l5Bent_ok w.heap.size a n ca zs ((0 + 1 + 1 + 1 + 1) + 1) _ S hb hn hx (by omega)).mono ?_
        rintro e wB2 ⟨c5, d5, k5, xs5, q5, rfl, hl5, hk5, hok5, O5, hq5, S5, g5⟩
        have hcap5 := O5.cap
        have hnc5 := ownTerm_nocap O5
        rw [hl5] at hcap5
        replace RB := RB.grown g5 (.inr (fun b hb' e => by have := HRB.out b hb'; simp at e; omega))
        replace G := G.grown g5 G.size (by intro k hk; simp at hk; omega)
        have RT := Hid.mk O5.rd
        have RB9 := Hid.mk RB
        have G9 := Hid.mk G
        have H5 := Hid.mk (show xs5.length = k5 ∧ k5 ≤ 401 ∧ k5 ≤ d5 ∧ (c5 = none → d5 = 0) ∧ ∀ x ∈ xs5, okT x from ⟨hl5, hk5, hcap5, hnc5, hok5⟩)
        clear g5 O5 S5 S RB G hl5 hok5 hcap5 hnc5
        go_wp2
        go_ret2
        exact ⟨c5, d5, k5, xs5, some ⟨wA2.heap.size, 0, none⟩, 401, 401, _, rfl, H5.out, HYS.out.1, HYS.out.2.1, HYS.out.2.2.1, HYS.out.2.2.2, HNS.out, RT.out, RB9.out, G9.out⟩
    · have RB := Rd.take7 O.rd i
      have HYS := Hid.mk (And.intro (show (Y.take i).length = i by rw [List.length_take, HY.out]; omega) (And.intro (show i ≤ 402 by omega) (And.intro (show i ≤ d2 by omega) (show Bytes (Y.take i) from fun z hz => hYb z (List.mem_of_mem_take hz)))))
      have hiN : (i : Int) ≤ (d2 : Int) := by omega
      generalize Y.take i = ys at *
      clear O HY hYb
      go_wp2_with fail
      refine (l1Chance_ok w.heap.size a n ca zs (0 + 1 + 1 + 1) 40 _ S hb hn hx (by omega) (by omega)).mono ?_
      rintro e wA3 ⟨vA, rfl, SA, kA⟩
      replace RB := RB.grown kA (.inr (fun b hb' e => by have := HRB.out b hb'; simp at e; omega))
      replace G := G.grown kA G.size (by intro k hk; simp at hk; omega)
      clear kA S
      have S := SA
      clear SA
      cases vA
      · skip
        go_wp2_with fail
        refine (l5Bent_ok w.heap.size a n ca zs ((0 + 1 + 1 + 1) + 1) _ S hb hn hx (by omega)).mono ?_
        rintro e wB3 ⟨c5, d5, k5, xs5, q5, rfl, hl5, hk5, hok5, O5, hq5, S5, g5⟩
        have hcap5 := O5.cap
        have hnc5 := ownTerm_nocap O5
        rw [hl5] at hcap5
        replace RB := RB.grown g5 (.inr (fun b hb' e => by have := HRB.out b hb'; simp at e; omega))
        replace G := G.grown g5 G.size (by intro k hk; simp at hk; omega)
        have RT := Hid.mk O5.rd
        have RB9 := Hid.mk RB
        have G9 := Hid.mk G
        have H5 := Hid.mk (show xs5.length = k5 ∧ k5 ≤ 401 ∧ k5 ≤ d5 ∧ (c5 = none → d5 = 0) ∧ ∀ x ∈ xs5, okT x from ⟨hl5, hk5, hcap5, hnc5, hok5⟩)
        clear g5 O5 S5 S RB G hl5 hok5 hcap5 hnc5
        go_wp2
        go_ret2
        exact ⟨c5, d5, k5, xs5, some ⟨g, 0, none⟩, d2, i, _, rfl, H5.out, HYS.out.1, HYS.out.2.1, HYS.out.2.2.1, HYS.out.2.2.2, HNS.out, RT.out, RB9.out, G9.out⟩
      · have hSz := S.1.1
        clear RB HRB HNS HYS
        go_wp2_with (at_make; refine wpList_make_full _ rfl _ _ 22 rfl wA3.heap.size 5 i0 (.int .u8 0) 1 Tryz.underlying22 hi j0 j1 .i64 .i64 _ _ 401 rfl rfl rfl rfl (by rw [j2]; omega) (by unfold maxLen; omega) (Nat.le_refl _) ?_)
        intro w3 hown hgrow
        have O3 : Own .u8 5 w3 wA3.heap.size (some ⟨wA3.heap.size, 0, none⟩) 401 (List.replicate 401 0) := by
          refine Own.mk (n := 401) ?_ (by simp)
          simpa [toList_madeCells_one] using hown
        have bn : Below wA3.heap.size wA3 w3 := (Below.refl _ _).grown hgrow (Nat.le_refl _) (by intro k hk; cases hk)
        have hb0 : Bytes (List.replicate 401 (0 : Int)) := fun z hz => by rw [List.eq_of_mem_replicate hz]; decide
        have hl0 : (List.replicate 401 (0 : Int)).length = 401 := List.length_replicate
        generalize List.replicate 401 (0 : Int) = zs0 at *
        replace S := S.kept bn
        have hgs := G.size
        have hsA : w.heap.size < wA3.heap.size := by have := hSz; omega
        replace G := G.trans (bn.mono (by omega))
        have RB := O3.rd
        have HRB : Hid (∀ b : Addr, (some ⟨wA3.heap.size, 0, none⟩ : Option Addr) = some b → w.heap.size < b.block) := Hid.mk (fun b hb' => by simp only [Option.some.injEq] at hb'; subst hb'; exact hsA)
        have HNS := Hid.mk O3.noSpot
        have HYS := Hid.mk (And.intro hl0 (And.intro (show 401 ≤ 402 by omega) (And.intro (show 401 ≤ 401 by omega) hb0)))
        clear hown hgrow bn O3 hb0 hl0
        go_wp2_with fail
        refine (l5Bent_ok w.heap.size a n ca zs ((0 + 1 + 1 + 1) + 1) _ S hb hn hx (by omega)).mono ?_
        rintro e wB3 ⟨c5, d5, k5, xs5, q5, rfl, hl5, hk5, hok5, O5, hq5, S5, g5⟩
        have hcap5 := O5.cap
        have hnc5 := ownTerm_nocap O5
        rw [hl5] at hcap5
        replace RB := RB.grown g5 (.inr (fun b hb' e => by have := HRB.out b hb'; simp at e; omega))
        replace G := G.grown g5 G.size (by intro k hk; simp at hk; omega)
        have RT := Hid.mk O5.rd
        have RB9 := Hid.mk RB
        have G9 := Hid.mk G
        have H5 := Hid.mk (show xs5.length = k5 ∧ k5 ≤ 401 ∧ k5 ≤ d5 ∧ (c5 = none → d5 = 0) ∧ ∀ x ∈ xs5, okT x from ⟨hl5, hk5, hcap5, hnc5, hok5⟩)
        clear g5 O5 S5 S RB G hl5 hok5 hcap5 hnc5
        go_wp2
        go_ret2
        exact ⟨c5, d5, k5, xs5, some ⟨wA3.heap.size, 0, none⟩, 401, 401, _, rfl, H5.out, HYS.out.1, HYS.out.2.1, HYS.out.2.2.1, HYS.out.2.2.2, HNS.out, RT.out, RB9.out, G9.out⟩
    · have O7 := O.kept (belowA w5 (.cells #[.int .u8 1] 5))
      replace G := thenB G (belowA w5 (.cells #[.int .u8 1] 5))
      replace S := S.kept (belowA w5 (.cells #[.int .u8 1] 5))
      clear HRB HNS
      go_wp2_with (at_builtin; go_loud (refine wpList_put _ rfl _ _ 22 rfl w1.heap.size 5 i0 Tryz.underlying22 hi j0 j1 j2 _ _ N _ rfl O7 HY.out _ 1 1 [1] rfl (Rd.lit w5 5 [1]) rfl (fun h => by cases h) (N + 1) (Y ++ [1]) (by omega) (by rfl) (by omega) (by have := O7.lt _ rfl; simp at this ⊢; omega) ?_))
      intro c7 d7 w7 O8 b7
      have h8 := O8.cap
      rw [List.length_append, HY.out] at h8
      replace G := G.trans (b7.mono (by omega))
      replace S := S.keptB7 (base := w1.heap.size) hw1 b7
      have RB := O8.rd
      have HRB : Hid (∀ b : Addr, c7 = some b → w.heap.size < b.block) := Hid.mk (fun b hb' => by have := (O8.lt b hb').1; omega)
      have HNS := Hid.mk O8.noSpot
      have HYS := Hid.mk (And.intro (show (Y ++ [1]).length = N + 1 by rw [List.length_append, HY.out]; rfl) (And.intro (show N + 1 ≤ 402 by omega) (And.intro (show N + 1 ≤ d7 by simpa using h8) (show Bytes (Y ++ [1]) from fun z hz => by rcases List.mem_append.1 hz with h | h; exact hYb z h; simp at h; omega))))
      generalize Y ++ [1] = ys at *
      clear O O7 O8 b7 HY hYb h8
      go_wp2_with fail
      refine (l1Chance_ok w.heap.size a n ca zs (0 + 1 + 1 + 1) 40 _ S hb hn hx (by omega) (by omega)).mono ?_
      rintro e wA4 ⟨vA, rfl, SA, kA⟩
      replace RB := RB.grown kA (.inr (fun b hb' e => by have := HRB.out b hb'; simp at e; omega))
      replace G := G.grown kA G.size (by intro k hk; simp at hk; omega)
      clear kA S
      have S := SA
      clear SA
      cases vA
      · skip
        go_wp2_with fail
        refine (l5Bent_ok w.heap.size a n ca zs ((0 + 1 + 1 + 1) + 1) _ S hb hn hx (by omega)).mono ?_
        rintro e wB4 ⟨c5, d5, k5, xs5, q5, rfl, hl5, hk5, hok5, O5, hq5, S5, g5⟩
        have hcap5 := O5.cap
        have hnc5 := ownTerm_nocap O5
        rw [hl5] at hcap5
        replace RB := RB.grown g5 (.inr (fun b hb' e => by have := HRB.out b hb'; simp at e; omega))
        replace G := G.grown g5 G.size (by intro k hk; simp at hk; omega)
        have RT := Hid.mk O5.rd
        have RB9 := Hid.mk RB
        have G9 := Hid.mk G
        have H5 := Hid.mk (show xs5.length = k5 ∧ k5 ≤ 401 ∧ k5 ≤ d5 ∧ (c5 = none → d5 = 0) ∧ ∀ x ∈ xs5, okT x from ⟨hl5, hk5, hcap5, hnc5, hok5⟩)
        clear g5 O5 S5 S RB G hl5 hok5 hcap5 hnc5
        go_wp2
        go_ret2
        exact ⟨c5, d5, k5, xs5, c7, d7, (N + 1), _, rfl, H5.out, HYS.out.1, HYS.out.2.1, HYS.out.2.2.1, HYS.out.2.2.2, HNS.out, RT.out, RB9.out, G9.out⟩
      · have hSz := S.1.1
        clear RB HRB HNS HYS
        go_wp2_with (at_make; refine wpList_make_full _ rfl _ _ 22 rfl wA4.heap.size 5 i0 (.int .u8 0) 1 Tryz.underlying22 hi j0 j1 .i64 .i64 _ _ 401 rfl rfl rfl rfl (by rw [j2]; omega) (by unfold maxLen; omega) (Nat.le_refl _) ?_)
        intro w3 hown hgrow
        have O3 : Own .u8 5 w3 wA4.heap.size (some ⟨wA4.heap.size, 0, none⟩) 401 (List.replicate 401 0) := by
          refine Own.mk (n := 401) ?_ (by simp)
          simpa [toList_madeCells_one] using hown
        have bn : Below wA4.heap.size wA4 w3 := (Below.refl _ _).grown hgrow (Nat.le_refl _) (by intro k hk; cases hk)
        have hb0 : Bytes (List.replicate 401 (0 : Int)) := fun z hz => by rw [List.eq_of_mem_replicate hz]; decide
        have hl0 : (List.replicate 401 (0 : Int)).length = 401 := List.length_replicate
        generalize List.replicate 401 (0 : Int) = zs0 at *
        replace S := S.kept bn
        have hgs := G.size
        have hsA : w.heap.size < wA4.heap.size := by have := hSz; omega
        replace G := G.trans (bn.mono (by omega))
        have RB := O3.rd
        have HRB : Hid (∀ b : Addr, (some ⟨wA4.heap.size, 0, none⟩ : Option Addr) = some b → w.heap.size < b.block) := Hid.mk (fun b hb' => by simp only [Option.some.injEq] at hb'; subst hb'; exact hsA)
        have HNS := Hid.mk O3.noSpot
        have HYS := Hid.mk (And.intro hl0 (And.intro (show 401 ≤ 402 by omega) (And.intro (show 401 ≤ 401 by omega) hb0)))
        clear hown hgrow bn O3 hb0 hl0
        go_wp2_with fail
        refine (l5Bent_ok w.heap.size a n ca zs ((0 + 1 + 1 + 1) + 1) _ S hb hn hx (by omega)).mono ?_
        rintro e wB4 ⟨c5, d5, k5, xs5, q5, rfl, hl5, hk5, hok5, O5, hq5, S5, g5⟩
        have hcap5 := O5.cap
        have hnc5 := ownTerm_nocap O5
        rw [hl5] at hcap5
        replace RB := RB.grown g5 (.inr (fun b hb' e => by have := HRB.out b hb'; simp at e; omega))
        replace G := G.grown g5 G.size (by intro k hk; simp at hk; omega)
        have RT := Hid.mk O5.rd
        have RB9 := Hid.mk RB
        have G9 := Hid.mk G
        have H5 := Hid.mk (show xs5.length = k5 ∧ k5 ≤ 401 ∧ k5 ≤ d5 ∧ (c5 = none → d5 = 0) ∧ ∀ x ∈ xs5, okT x from ⟨hl5, hk5, hcap5, hnc5, hok5⟩)
        clear g5 O5 S5 S RB G hl5 hok5 hcap5 hnc5
        go_wp2
        go_ret2
        exact ⟨c5, d5, k5, xs5, some ⟨wA4.heap.size, 0, none⟩, 401, 401, _, rfl, H5.out, HYS.out.1, HYS.out.2.1, HYS.out.2.2.1, HYS.out.2.2.2, HNS.out, RT.out, RB9.out, G9.out⟩

end Go.Proofs.YtfldgeokigcokaaGreat
