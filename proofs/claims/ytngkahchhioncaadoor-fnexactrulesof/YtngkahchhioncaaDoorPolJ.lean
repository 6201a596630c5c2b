/- The selectors of a peer's rules. -/
import Derived.Test.YtngkahchhioncaaDoorPolI
import Derived.Test.YtngkahchhioncaaDoorPolF
import Derived.Deep.DeepCutAuto
namespace Go.Proofs.YtngkahchhioncaaDoor
open Go.RowKit

/-- The selectors of a peer's rules, of the first 'k': no more than twelve. -/
def ofI (xs : List R11) (q : Int) (k : Nat) : List S9 := (((xs.take k).filter fun x => x.q == q).map R11.s).take 12

theorem ofI_zero (xs : List R11) (q : Int) : ofI xs q 0 = [] := by simp [ofI]

theorem ofI_len (xs : List R11) (q : Int) (k : Nat) : (ofI xs q k).length ≤ 12 := by unfold ofI; rw [List.length_take]; omega

theorem ofI_no {xs : List R11} {q : Int} {k : Nat} (hk : k < xs.length) {x : R11} (hx : xs.getD k zRule = x) (h : (x.q == q) = false) : ofI xs q (k + 1) = ofI xs q k := by
  unfold ofI
  rw [takeRule xs k hk, hx, List.filter_append]
  simp [h]

theorem ofI_full {xs : List R11} {q : Int} {k m : Nat} (h : (ofI xs q k).length = 12) (hm : k ≤ m) : ofI xs q m = ofI xs q k := by
  unfold ofI at *
  obtain ⟨d, rfl⟩ : ∃ d, m = k + d := ⟨m - k, by omega⟩
  rw [List.take_add, List.filter_append, List.map_append]
  rw [List.length_take] at h
  rw [List.take_append_of_le_length (by omega)]

theorem ofI_yes {xs : List R11} {q : Int} {k : Nat} (hk : k < xs.length) {x : R11} (hx : xs.getD k zRule = x) (h : (x.q == q) = true) (h2 : (ofI xs q k).length < 12) : ofI xs q (k + 1) = ofI xs q k ++ [x.s] := by
  unfold ofI at *
  rw [takeRule xs k hk, hx, List.filter_append, List.map_append]
  have e : (List.filter (fun x => x.q == q) [x]).map R11.s = [x.s] := by simp [h]
  rw [e]
  rw [List.length_take] at h2
  generalize (List.filter (fun x => x.q == q) (xs.take k)).map R11.s = l at *
  rw [List.take_of_length_le (l := l ++ [x.s]) (by rw [List.length_append, List.length_singleton]; omega), List.take_of_length_le (l := l) (by omega)]

/-- What 'RulesOf' answers. -/
@[irreducible] def roC (xs : List R11) (q : Int) : Int := if pyC xs = 0 then (if btw q 1 9 = true then 0 else 3) else pyC xs
@[irreducible] def roL (xs : List R11) (q : Int) : List S9 := if roC xs q = 0 then ofI xs q xs.length else []

theorem ro_ways (xs : List R11) (q : Int) :
    ((pyC xs != 0) = true ∧ roC xs q = pyC xs ∧ roL xs q = []) ∨
    (pyC xs = 0 ∧ btw q 1 9 = false ∧ roC xs q = 3 ∧ roL xs q = []) ∨
    (pyC xs = 0 ∧ btw q 1 9 = true ∧ roC xs q = 0 ∧ roL xs q = ofI xs q xs.length) := by
  by_cases h1 : pyC xs = 0
  · cases h2 : btw q 1 9
    · have e : roC xs q = 3 := by unfold roC; rw [if_pos h1, if_neg (by rw [h2]; simp)]
      exact .inr (.inl ⟨h1, rfl, e, by unfold roL; rw [e]; rfl⟩)
    · have e : roC xs q = 0 := by unfold roC; rw [if_pos h1, if_pos h2]
      exact .inr (.inr ⟨h1, rfl, e, by unfold roL; rw [e]; rfl⟩)
  · have e : roC xs q = pyC xs := by unfold roC; rw [if_neg h1]
    exact .inl ⟨by simp [h1], e, by unfold roL; rw [e, if_neg h1]⟩

theorem roL_len (xs : List R11) (q : Int) : (roL xs q).length ≤ 12 := by
  rcases ro_ways xs q with ⟨_, _, h⟩ | ⟨_, _, _, h⟩ | ⟨_, _, _, h⟩
  · rw [h]; exact Nat.zero_le _
  · rw [h]; exact Nat.zero_le _
  · rw [h]; exact ofI_len _ _ _

theorem ownCellsL {w : World} {base : Nat} {a : Option Addr} {cap : Nat} {zs : List S9} {B : Nat} (h : OwnL w base a cap zs) (hB : ∀ b : Addr, a = some b → b.block ≠ B) (o : Nat) (vs : List Value) : OwnL (w.setCells B o vs) base a cap zs := by
  induction vs generalizing w o with
  | nil => exact h
  | cons v vs ih =>
    refine ih (w := w.setCell ⟨B, o, none⟩ v) (h.grown (row := some B) ⟨rfl, rfl, rfl, by simp [World.setCell], fun k _ hk => Below.heap_setCell _ _ _ _ (fun e => hk (by rw [e]))⟩ fun b hb e => ?_) (o + 1)
    simp only [Option.some.injEq] at e
    exact hB b hb e.symm

theorem build_ss0 (k : Int) (w : World) : (Instr.build 81 #[(0, .int .i64 k)]).run Tryd.prog w = .ok (.agg #[.int .i64 k, .slice none 0 0]) w := run_build w 81 _ _ (by kernel_rfl)

theorem build_ss1 (a : Option Addr) (n c : Nat) (w : World) : (Instr.build 81 #[(1, .slice a n c)]).run Tryd.prog w = .ok (.agg #[.int .i64 0, .slice a n c]) w := run_build w 81 _ _ (by kernel_rfl)

set_option maxRecDepth 20000 in
set_option maxHeartbeats 4000000 in
theorem l4Of_ok (a : Option Addr) (n ca : Nat) (xs : List R11) (q : Int) (w : World) (ha : RdRule w a xs) (hn : xs.length = n) (hx : n ≤ 20) (hz : ∀ x ∈ xs, ruC x = 0) (hq : btw q 1 9 = true) :
    Calls Tryd.prog 92 #[.slice a n ca, .int .i64 q] w fun e w' => ∃ (c : Option Addr) (d k : Nat), e = .returned (.slice c k d) ∧ (ofI xs q n).length = k ∧ OwnL w' w.heap.size c d (ofI xs q n) ∧ Below w.heap.size w w' := by
  have HA := Hid.mk ha
  replace hz := Hid.mk hz
  rw [btw_iff] at hq
  replace hq := Hid.mk hq
  clear ha
  go_enter Tryd.func92, Tryd.ntmps92
  have O := Hid.mk (OwnL.lit w [] [] rfl (by decide))
  have B := Hid.mk (belowA w (.cells #[] 32))
  go_wp2
  go_loopw [5, 6] (fun v i wr => ∃ (k d j : Nat) (c : Option Addr), k ≤ n ∧ i = .int .i64 k ∧ v = .slice c j d ∧ (ofI xs q k).length = j ∧ OwnL wr w.heap.size c d (ofI xs q k) ∧ Below w.heap.size w wr) (fun _ i _ => n - (intOf i).toNat)
  case atStart => exact ⟨0, _, 0, _, Nat.zero_le _, rfl, rfl, rfl, O.out, B.out⟩
  case round =>
    clear O B
    obtain ⟨k, d, j, c, hk, rfl, rfl, hj, O, B⟩ := hrel
    have hj12 := ofI_len xs q k
    rw [hj] at hj12
    by_cases hlt : k < n
    · have hk1 : (k : Int) < (n : Int) := by omega
      by_cases hful : j = 12
      · have hall := Hid.mk (ofI_full (m := n) (by rw [hj]; exact hful) hk)
        have HO := Hid.mk O
        have HJ := Hid.mk hj
        have q1 : ¬ (j : Int) < 12 := by omega
        clear O hj hful hj12
        go_wp2
        go_ret
        exact ⟨c, d, j, rfl, by rw [hall.out]; exact HJ.out, by rw [hall.out]; exact HO.out, B⟩
      · obtain ⟨x, hx1⟩ : ∃ x, xs.getD k zRule = x := ⟨_, rfl⟩
        have hj1 : (j : Int) < 12 := by omega
        have hru := ru_zero (hz.out x (by rw [← hx1]; exact getDRule_mem (by omega)))
        rcases HA.out.kept B with h0 | ⟨b1, o1, rfl, hca⟩
        · rw [h0] at hn; simp at hn; omega
        obtain ⟨p0, p1, p2, p3, p4, p5, p6, p7, p8, p9, p10⟩ := RdRule.cells hca k (by omega) x hx1
        have HJ := Hid.mk hj
        clear hca
        cases hg : (x.q == q)
        · have hno := Hid.mk (ofI_no (by omega) hx1 hg)
          have HO := Hid.mk O
          clear O hj hru hx1
          cases hp : (x.p == 3)
          all_goals
            go_wp2
            go_roundw
            case rel => exact ⟨k + 1, d, j, c, by omega, by go_num, rfl, by rw [hno.out]; exact HJ.out, by rw [hno.out]; exact HO.out, B⟩
            case measure => simp [intOf]; omega
        · have hyes := Hid.mk (ofI_yes (by omega) hx1 hg (by rw [hj]; omega))
          have hp : (x.p == 3) = true := by
            have h1 := hq.out
            simp only [beq_iff_eq] at hg ⊢
            omega
          clear hj hru hx1
          have O := O.kept (belowA wr (.cells #[.int .i64 x.s.a, .int .i64 x.s.b, .int .i64 x.s.c, .int .i64 x.s.d, .int .i64 x.s.e, .int .i64 x.s.f, .int .i64 x.s.g, .int .i64 x.s.h, .int .i64 x.s.r] 32))
          have BB := thenB B (belowA wr (.cells #[.int .i64 x.s.a, .int .i64 x.s.b, .int .i64 x.s.c, .int .i64 x.s.d, .int .i64 x.s.e, .int .i64 x.s.f, .int .i64 x.s.g, .int .i64 x.s.h, .int .i64 x.s.r] 32))
          have TL := BB.size
          replace BB := Hid.mk BB
          clear B
          go_upto_region 6 with fail
          go_wp2_with (at_builtin; go_loud (refine wpList_putL _ rfl _ _ rfl w.heap.size c d (ofI xs q k) j HJ.out rfl O _ 1 x.s rfl (newCells _ _ (rowV x.s)) (by omega) TL ?_))
          intro c4 d4 w4 O4 hg4 hx4
          have B4 := Hid.mk (belowG BB.out hg4 TL (fun b hb => (O.lt b hb).1))
          rw [← hyes.out] at O4
          have hl4 : Hid ((ofI xs q (k + 1)).length = j + 1) := Hid.mk (by rw [hyes.out, List.length_append, HJ.out]; rfl)
          replace O4 := Hid.mk O4
          clear O hg4 hx4 TL
          go_wp2
          go_roundw
          case rel => exact ⟨k + 1, d4, j + 1, c4, by omega, by go_num, rfl, hl4.out, O4.out, B4.out⟩
          case measure => simp [intOf]; omega
    · obtain rfl : k = n := by omega
      have HO := Hid.mk O
      have HJ := Hid.mk hj
      clear O hj
      go_wp2
      go_ret
      exact ⟨c, d, j, rfl, HJ.out, HO.out, B⟩


set_option maxRecDepth 20000 in
set_option maxHeartbeats 4000000 in
theorem specRulesOf_ok (a : Option Addr) (n ca : Nat) (xs : List R11) (q : Int) (w : World) (ha : RdRule w a xs) (hn : xs.length = n) (hx : n ≤ maxLen) :
    Calls Tryd.prog 48 #[.slice a n ca, .int .i64 q] w fun e w' => ∃ (c : Option Addr) (d k : Nat), e = .returned (.agg #[.int .i64 (roC xs q), .slice c k d]) ∧ (roL xs q).length = k ∧ OwnL w' w.heap.size c d (roL xs q) ∧ Below w.heap.size w w' := by
  have CP := Hid.mk (fun w h => specPolicyFault_ok a n ca xs w h hn hx)
  have q0 := build_ss0
  have q1 := build_ss1
  rcases ro_ways xs q with ⟨h1, e1, e2⟩ | ⟨h1, h2, e1, e2⟩ | ⟨h1, h2, e1, e2⟩
  · rw [e1, e2]
    clear e1 e2
    generalize pyC xs = kk at *
    go_enter Tryd.func48, Tryd.ntmps48
    have B := Below.refl w.heap.size w
    replace ha := ha.kept (belowA w (.cells #[.int .i64 0, .slice none 0 0] 81))
    replace B := thenB B (belowA w (.cells #[.int .i64 0, .slice none 0 0] 81))
    have VR := V.new w [.int .i64 0, .slice none 0 0] 81
    obtain ⟨s_VR, f_VR, z_VR⟩ := VR.open
    have Bo := B
    go_wp2_with fail
    refine (CP.out _ ha).mono ?_
    rintro e w1 ⟨rfl, b1⟩
    clear s_VR f_VR z_VR
    have S1 := b1.size
    simp only [World.size_alloc] at S1
    replace VR := VR.kept b1
    replace ha := ha.kept b1
    replace B := thenB B b1
    clear b1
    obtain ⟨s_VR, f_VR, z_VR⟩ := VR.open
    have Bo := B
    clear s_VR f_VR z_VR
    have VF := Hid.mk (VR.filled [.int .i64 kk, .slice none 0 0] rfl)
    have BR := belowCells B (show w.heap.size ≤ w.heap.size by (first | omega | (simp; done) | (simp; omega))) 0 [.int .i64 kk, .slice none 0 0]
    have HT := Hid.mk VR.there
    replace BR := Hid.mk BR
    obtain ⟨s_VR, f_VR, z_VR⟩ := VR.open
    go_wp2_with (refine wpList_store_mid rfl 81 _ _ rfl (w.heap.size) 0 #[.int .i64 kk, .slice none 0 0] rfl rfl HT.out (by kernel_rfl) (by kernel_rfl) ?_)
    refine bodyPost_ret (v := .agg #[.int .i64 kk, .slice none 0 0]) (results_row Tryd.results48 _ _ (w.heap.size) [.int .i64 kk, .slice none 0 0] _ rfl VF.out Tryd.underlying81 rfl (by kernel_rfl)) rfl ⟨none, 0, 0, rfl, rfl, OwnL.none, BR.out⟩
  · rw [e1, e2]
    rw [h1] at CP
    clear e1 e2
    go_enter Tryd.func48, Tryd.ntmps48
    have B := Below.refl w.heap.size w
    replace ha := ha.kept (belowA w (.cells #[.int .i64 0, .slice none 0 0] 81))
    replace B := thenB B (belowA w (.cells #[.int .i64 0, .slice none 0 0] 81))
    have VR := V.new w [.int .i64 0, .slice none 0 0] 81
    obtain ⟨s_VR, f_VR, z_VR⟩ := VR.open
    have Bo := B
    go_wp2_with fail
    refine (CP.out _ ha).mono ?_
    rintro e w11 ⟨rfl, b11⟩
    clear s_VR f_VR z_VR
    have S11 := b11.size
    simp only [World.size_alloc] at S11
    replace VR := VR.kept b11
    replace ha := ha.kept b11
    replace B := thenB B b11
    clear b11
    obtain ⟨s_VR, f_VR, z_VR⟩ := VR.open
    have Bo := B
    go_wp2_with fail
    refine (l1In_ok _ _ _ _).mono ?_
    rintro e wq ⟨rfl, rfl⟩
    rw [h2]
    clear s_VR f_VR z_VR
    have VF := Hid.mk (VR.filled [.int .i64 3, .slice none 0 0] rfl)
    have BR := belowCells B (show w.heap.size ≤ w.heap.size by (first | omega | (simp; done) | (simp; omega))) 0 [.int .i64 3, .slice none 0 0]
    have HT := Hid.mk VR.there
    replace BR := Hid.mk BR
    obtain ⟨s_VR, f_VR, z_VR⟩ := VR.open
    go_wp2_with (refine wpList_store_mid rfl 81 _ _ rfl (w.heap.size) 0 #[.int .i64 3, .slice none 0 0] rfl rfl HT.out (by kernel_rfl) (by kernel_rfl) ?_)
    refine bodyPost_ret (v := .agg #[.int .i64 3, .slice none 0 0]) (results_row Tryd.results48 _ _ (w.heap.size) [.int .i64 3, .slice none 0 0] _ rfl VF.out Tryd.underlying81 rfl (by kernel_rfl)) rfl ⟨none, 0, 0, rfl, rfl, OwnL.none, BR.out⟩
  · have hx20 : n ≤ 20 := by have := (pyC_zero h1).1; omega
    have hz := Hid.mk (pyC_zero h1).2
    rw [e1, e2, hn]
    rw [h1] at CP
    clear e1 e2 h1
    have HA := Hid.mk ha
    go_enter Tryd.func48, Tryd.ntmps48
    have B := Below.refl w.heap.size w
    replace ha := ha.kept (belowA w (.cells #[.int .i64 0, .slice none 0 0] 81))
    replace B := thenB B (belowA w (.cells #[.int .i64 0, .slice none 0 0] 81))
    have VR := V.new w [.int .i64 0, .slice none 0 0] 81
    obtain ⟨s_VR, f_VR, z_VR⟩ := VR.open
    have Bo := B
    go_wp2_with fail
    refine (CP.out _ ha).mono ?_
    rintro e w21 ⟨rfl, b21⟩
    clear s_VR f_VR z_VR
    have S21 := b21.size
    simp only [World.size_alloc] at S21
    replace VR := VR.kept b21
    replace ha := ha.kept b21
    replace B := thenB B b21
    clear b21
    obtain ⟨s_VR, f_VR, z_VR⟩ := VR.open
    have Bo := B
    go_wp2_with fail
    refine (l1In_ok _ _ _ _).mono ?_
    rintro e wq ⟨rfl, rfl⟩
    rw [h2]
    go_wp2_with fail
    refine (l4Of_ok a n ca xs q _ ha hn hx20 hz.out h2).mono ?_
    rintro e w22 ⟨c, d, k, rfl, hk, O, b22⟩
    clear s_VR f_VR z_VR
    have S22 := b22.size
    replace VR := VR.kept b22
    replace ha := ha.kept b22
    replace B := thenB B b22
    clear b22
    obtain ⟨s_VR, f_VR, z_VR⟩ := VR.open
    have Bo := B
    have HO := Hid.mk (O.mono (show w.heap.size ≤ _ by omega))
    have HK := Hid.mk hk
    have HC := Hid.mk (fun b hb => (O.lt b hb).1)
    clear O hk
    clear s_VR f_VR z_VR
    have VF := Hid.mk (VR.filled [.int .i64 0, .slice c k d] rfl)
    have BR := belowCells B (show w.heap.size ≤ w.heap.size by (first | omega | (simp; done) | (simp; omega))) 0 [.int .i64 0, .slice c k d]
    have HT := Hid.mk VR.there
    replace BR := Hid.mk BR
    obtain ⟨s_VR, f_VR, z_VR⟩ := VR.open
    go_wp2_with (refine wpList_store_mid rfl 81 _ _ rfl (w.heap.size) 0 #[.int .i64 0, .slice c k d] rfl rfl HT.out (by kernel_rfl) (by kernel_rfl) ?_)
    refine bodyPost_ret (v := .agg #[.int .i64 0, .slice c k d]) (results_row Tryd.results48 _ _ (w.heap.size) [.int .i64 0, .slice c k d] _ rfl VF.out Tryd.underlying81 rfl (by kernel_rfl)) rfl ⟨c, d, k, rfl, HK.out, ownCellsL HO.out (by intro b hb; have := HC.out b hb; omega) _ _, BR.out⟩

set_option maxRecDepth 20000 in
set_option maxHeartbeats 4000000 in
theorem implRulesOf_ok (a : Option Addr) (n ca : Nat) (xs : List R11) (q : Int) (w : World) (ha : RdRule w a xs) (hn : xs.length = n) (hx : n ≤ maxLen) :
    Calls Tryd.prog 49 #[.slice a n ca, .int .i64 q] w fun e w' => ∃ (c : Option Addr) (d k : Nat), e = .returned (.agg #[.int .i64 (roC xs q), .slice c k d]) ∧ (roL xs q).length = k ∧ OwnL w' w.heap.size c d (roL xs q) ∧ Below w.heap.size w w' := by
  have CP := Hid.mk (fun w h => implPolicyFault_ok a n ca xs w h hn hx)
  have q0 := build_ss0
  have q1 := build_ss1
  rcases ro_ways xs q with ⟨h1, e1, e2⟩ | ⟨h1, h2, e1, e2⟩ | ⟨h1, h2, e1, e2⟩
  · rw [e1, e2]
    clear e1 e2
    generalize pyC xs = kk at *
    go_enter Tryd.func49, Tryd.ntmps49
    have B := Below.refl w.heap.size w
    replace ha := ha.kept (belowA w (.cells #[.int .i64 0, .slice none 0 0] 81))
    replace B := thenB B (belowA w (.cells #[.int .i64 0, .slice none 0 0] 81))
    have VR := V.new w [.int .i64 0, .slice none 0 0] 81
    obtain ⟨s_VR, f_VR, z_VR⟩ := VR.open
    have Bo := B
    go_wp2_with fail
    refine (CP.out _ ha).mono ?_
    rintro e w1 ⟨rfl, b1⟩
    clear s_VR f_VR z_VR
    have S1 := b1.size
    simp only [World.size_alloc] at S1
    replace VR := VR.kept b1
    replace ha := ha.kept b1
    replace B := thenB B b1
    clear b1
    obtain ⟨s_VR, f_VR, z_VR⟩ := VR.open
    have Bo := B
    clear s_VR f_VR z_VR
    have VF := Hid.mk (VR.filled [.int .i64 kk, .slice none 0 0] rfl)
    have BR := belowCells B (show w.heap.size ≤ w.heap.size by (first | omega | (simp; done) | (simp; omega))) 0 [.int .i64 kk, .slice none 0 0]
    have HT := Hid.mk VR.there
    replace BR := Hid.mk BR
    obtain ⟨s_VR, f_VR, z_VR⟩ := VR.open
    go_wp2_with (refine wpList_store_mid rfl 81 _ _ rfl (w.heap.size) 0 #[.int .i64 kk, .slice none 0 0] rfl rfl HT.out (by kernel_rfl) (by kernel_rfl) ?_)
    refine bodyPost_ret (v := .agg #[.int .i64 kk, .slice none 0 0]) (results_row Tryd.results49 _ _ (w.heap.size) [.int .i64 kk, .slice none 0 0] _ rfl VF.out Tryd.underlying81 rfl (by kernel_rfl)) rfl ⟨none, 0, 0, rfl, rfl, OwnL.none, BR.out⟩
  · rw [e1, e2]
    rw [h1] at CP
    clear e1 e2
    go_enter Tryd.func49, Tryd.ntmps49
    have B := Below.refl w.heap.size w
    replace ha := ha.kept (belowA w (.cells #[.int .i64 0, .slice none 0 0] 81))
    replace B := thenB B (belowA w (.cells #[.int .i64 0, .slice none 0 0] 81))
    have VR := V.new w [.int .i64 0, .slice none 0 0] 81
    obtain ⟨s_VR, f_VR, z_VR⟩ := VR.open
    have Bo := B
    go_wp2_with fail
    refine (CP.out _ ha).mono ?_
    rintro e w11 ⟨rfl, b11⟩
    clear s_VR f_VR z_VR
    have S11 := b11.size
    simp only [World.size_alloc] at S11
    replace VR := VR.kept b11
    replace ha := ha.kept b11
    replace B := thenB B b11
    clear b11
    obtain ⟨s_VR, f_VR, z_VR⟩ := VR.open
    have Bo := B
    go_wp2_with fail
    refine (isPeer_ok _ _).mono ?_
    rintro e wq ⟨rfl, rfl⟩
    rw [h2]
    clear s_VR f_VR z_VR
    have VF := Hid.mk (VR.filled [.int .i64 3, .slice none 0 0] rfl)
    have BR := belowCells B (show w.heap.size ≤ w.heap.size by (first | omega | (simp; done) | (simp; omega))) 0 [.int .i64 3, .slice none 0 0]
    have HT := Hid.mk VR.there
    replace BR := Hid.mk BR
    obtain ⟨s_VR, f_VR, z_VR⟩ := VR.open
    go_wp2_with (refine wpList_store_mid rfl 81 _ _ rfl (w.heap.size) 0 #[.int .i64 3, .slice none 0 0] rfl rfl HT.out (by kernel_rfl) (by kernel_rfl) ?_)
    refine bodyPost_ret (v := .agg #[.int .i64 3, .slice none 0 0]) (results_row Tryd.results49 _ _ (w.heap.size) [.int .i64 3, .slice none 0 0] _ rfl VF.out Tryd.underlying81 rfl (by kernel_rfl)) rfl ⟨none, 0, 0, rfl, rfl, OwnL.none, BR.out⟩
  · have hx20 : n ≤ 20 := by have := (pyC_zero h1).1; omega
    have hz := Hid.mk (pyC_zero h1).2
    rw [e1, e2, hn]
    rw [h1] at CP
    clear e1 e2 h1
    have HA := Hid.mk ha
    go_enter Tryd.func49, Tryd.ntmps49
    have B := Below.refl w.heap.size w
    replace ha := ha.kept (belowA w (.cells #[.int .i64 0, .slice none 0 0] 81))
    replace B := thenB B (belowA w (.cells #[.int .i64 0, .slice none 0 0] 81))
    have VR := V.new w [.int .i64 0, .slice none 0 0] 81
    obtain ⟨s_VR, f_VR, z_VR⟩ := VR.open
    have Bo := B
    go_wp2_with fail
    refine (CP.out _ ha).mono ?_
    rintro e w21 ⟨rfl, b21⟩
    clear s_VR f_VR z_VR
    have S21 := b21.size
    simp only [World.size_alloc] at S21
    replace VR := VR.kept b21
    replace ha := ha.kept b21
    replace B := thenB B b21
    clear b21
    obtain ⟨s_VR, f_VR, z_VR⟩ := VR.open
    have Bo := B
    go_wp2_with fail
    refine (isPeer_ok _ _).mono ?_
    rintro e wq ⟨rfl, rfl⟩
    rw [h2]
    clear s_VR f_VR z_VR
    replace VR := Hid.mk VR
    replace B := Hid.mk B
    clear Bo ha CP
    go_wp2
    go_loopw [6, 21] (fun v i wr => ∃ (k d j : Nat) (c : Option Addr), k ≤ n ∧ i = .int .i64 k ∧ v = .slice c j d ∧ (ofI xs q k).length = j ∧ OwnL wr (w.heap.size + 1) c d (ofI xs q k) ∧ V wr w.heap.size [.int .i64 0, .slice none 0 0] ∧ Below w.heap.size w wr) (fun _ i _ => n - (intOf i).toNat)
    case atStart => exact ⟨0, 0, 0, none, Nat.zero_le _, rfl, rfl, rfl, OwnL.none, VR.out, B.out⟩
    case round =>
      clear VR B
      obtain ⟨k, d, j, c, hk, rfl, rfl, hj, O, VR, B⟩ := hrel
      have hj12 := ofI_len xs q k
      rw [hj] at hj12
      by_cases hlt : k < n
      · obtain ⟨x, hx1⟩ : ∃ x, xs.getD k zRule = x := ⟨_, rfl⟩
        have hk1 : (k : Int) < (n : Int) := by omega
        rcases HA.out.kept B with h0 | ⟨b1, o1, rfl, hca⟩
        · rw [h0] at hn; simp at hn; omega
        obtain ⟨p0, p1, p2, p3, p4, p5, p6, p7, p8, p9, p10⟩ := RdRule.cells hca k (by omega) x hx1
        have HJ := Hid.mk hj
        have hVR := VR.1
        clear hca
        replace VR := VR.kept (belowA wr (.cells #[.int .i64 x.s.a, .int .i64 x.s.b, .int .i64 x.s.c, .int .i64 x.s.d, .int .i64 x.s.e, .int .i64 x.s.f, .int .i64 x.s.g, .int .i64 x.s.h, .int .i64 x.s.r, .int .i64 x.p, .int .i64 x.q] 34))
        replace O := O.kept (belowA wr (.cells #[.int .i64 x.s.a, .int .i64 x.s.b, .int .i64 x.s.c, .int .i64 x.s.d, .int .i64 x.s.e, .int .i64 x.s.f, .int .i64 x.s.g, .int .i64 x.s.h, .int .i64 x.s.r, .int .i64 x.p, .int .i64 x.q] 34))
        replace B := thenB B (belowA wr (.cells #[.int .i64 x.s.a, .int .i64 x.s.b, .int .i64 x.s.c, .int .i64 x.s.d, .int .i64 x.s.e, .int .i64 x.s.f, .int .i64 x.s.g, .int .i64 x.s.h, .int .i64 x.s.r, .int .i64 x.p, .int .i64 x.q] 34))
        have VX := V.new wr [.int .i64 x.s.a, .int .i64 x.s.b, .int .i64 x.s.c, .int .i64 x.s.d, .int .i64 x.s.e, .int .i64 x.s.f, .int .i64 x.s.g, .int .i64 x.s.h, .int .i64 x.s.r, .int .i64 x.p, .int .i64 x.q] 34
        cases hg : (x.q == q)
        · skip
          obtain ⟨s_VR, f_VR, z_VR⟩ := VR.open
          obtain ⟨s_VX, f_VX, z_VX⟩ := VX.open
          have HO := Hid.mk O
          have HV := Hid.mk VR
          have HB := Hid.mk B
          have hno := Hid.mk (ofI_no (by omega) hx1 hg)
          clear O VR VX hj hx1
          go_wp2
          go_roundw
          case rel => exact ⟨k + 1, d, j, c, by omega, by go_num, rfl, by rw [hno.out]; exact HJ.out, by rw [hno.out]; exact HO.out, HV.out, HB.out⟩
          case measure => simp [intOf]; omega
        · by_cases hful : j = 12
          · skip
            obtain ⟨s_VR, f_VR, z_VR⟩ := VR.open
            obtain ⟨s_VX, f_VX, z_VX⟩ := VX.open
            have HO := Hid.mk O
            have HV := Hid.mk VR
            have HB := Hid.mk B
            have hno := Hid.mk (ofI_full (m := k + 1) (by rw [hj]; exact hful) (by omega))
            have q2 : ¬ (j : Int) < 12 := by omega
            clear O VR VX hj hx1 hful
            go_wp2
            go_roundw
            case rel => exact ⟨k + 1, d, j, c, by omega, by go_num, rfl, by rw [hno.out]; exact HJ.out, by rw [hno.out]; exact HO.out, HV.out, HB.out⟩
            case measure => simp [intOf]; omega
          · skip
            have hyes := Hid.mk (ofI_yes (by omega) hx1 hg (by rw [hj]; omega))
            have q2 : (j : Int) < 12 := by omega
            obtain ⟨s_VX, f_VX, z_VX⟩ := VX.open
            have OL := O.kept (belowA (wr.alloc (.cells #[.int .i64 x.s.a, .int .i64 x.s.b, .int .i64 x.s.c, .int .i64 x.s.d, .int .i64 x.s.e, .int .i64 x.s.f, .int .i64 x.s.g, .int .i64 x.s.h, .int .i64 x.s.r, .int .i64 x.p, .int .i64 x.q] 34)) (.cells #[.int .i64 x.s.a, .int .i64 x.s.b, .int .i64 x.s.c, .int .i64 x.s.d, .int .i64 x.s.e, .int .i64 x.s.f, .int .i64 x.s.g, .int .i64 x.s.h, .int .i64 x.s.r] 32))
            have VRL := Hid.mk (VR.kept (belowA (wr.alloc (.cells #[.int .i64 x.s.a, .int .i64 x.s.b, .int .i64 x.s.c, .int .i64 x.s.d, .int .i64 x.s.e, .int .i64 x.s.f, .int .i64 x.s.g, .int .i64 x.s.h, .int .i64 x.s.r, .int .i64 x.p, .int .i64 x.q] 34)) (.cells #[.int .i64 x.s.a, .int .i64 x.s.b, .int .i64 x.s.c, .int .i64 x.s.d, .int .i64 x.s.e, .int .i64 x.s.f, .int .i64 x.s.g, .int .i64 x.s.h, .int .i64 x.s.r] 32)))
            have BL := thenB B (belowA (wr.alloc (.cells #[.int .i64 x.s.a, .int .i64 x.s.b, .int .i64 x.s.c, .int .i64 x.s.d, .int .i64 x.s.e, .int .i64 x.s.f, .int .i64 x.s.g, .int .i64 x.s.h, .int .i64 x.s.r, .int .i64 x.p, .int .i64 x.q] 34)) (.cells #[.int .i64 x.s.a, .int .i64 x.s.b, .int .i64 x.s.c, .int .i64 x.s.d, .int .i64 x.s.e, .int .i64 x.s.f, .int .i64 x.s.g, .int .i64 x.s.h, .int .i64 x.s.r] 32))
            have TL : w.heap.size + 1 ≤ ((wr.alloc (.cells #[.int .i64 x.s.a, .int .i64 x.s.b, .int .i64 x.s.c, .int .i64 x.s.d, .int .i64 x.s.e, .int .i64 x.s.f, .int .i64 x.s.g, .int .i64 x.s.h, .int .i64 x.s.r, .int .i64 x.p, .int .i64 x.q] 34)).alloc (.cells #[.int .i64 x.s.a, .int .i64 x.s.b, .int .i64 x.s.c, .int .i64 x.s.d, .int .i64 x.s.e, .int .i64 x.s.f, .int .i64 x.s.g, .int .i64 x.s.h, .int .i64 x.s.r] 32)).heap.size := by have := VRL.out.1; omega
            have OLT := Hid.mk OL.lt
            replace BL := Hid.mk BL
            have HNC := newCells (wr.alloc (.cells #[.int .i64 x.s.a, .int .i64 x.s.b, .int .i64 x.s.c, .int .i64 x.s.d, .int .i64 x.s.e, .int .i64 x.s.f, .int .i64 x.s.g, .int .i64 x.s.h, .int .i64 x.s.r, .int .i64 x.p, .int .i64 x.q] 34)) 32 (rowV x.s)
            simp only [World.size_alloc] at HNC
            replace HNC := Hid.mk HNC
            clear O VR B hj hx1
            go_upto_region 11 with fail
            go_wp2_with (at_builtin; go_loud (refine wpList_putL _ rfl _ _ rfl (w.heap.size + 1) c d (ofI xs q k) j HJ.out rfl OL _ 1 x.s rfl HNC.out (by omega) TL ?_))
            intro c6 d6 w6 O6 hg6 hx6
            rw [← hyes.out] at O6
            have VR7 := VRL.out.grownR hg6 (far_row (fun b hb => (OLT.out b hb).1) (Nat.lt_succ_self _))
            have B7 := belowG BL.out hg6 (Nat.le_of_succ_le TL) (fun b hb => by have := (OLT.out b hb).1; omega)
            have hl6 : Hid ((ofI xs q (k + 1)).length = j + 1) := Hid.mk (by rw [hyes.out, List.length_append, HJ.out]; rfl)
            clear OL VRL BL OLT s_VX f_VX z_VX VX hg6 hx6 TL
            replace O6 := Hid.mk O6
            replace VR7 := Hid.mk VR7
            replace B7 := Hid.mk B7
            go_wp2
            go_roundw
            case rel => exact ⟨k + 1, d6, j + 1, c6, by omega, by go_num, rfl, hl6.out, O6.out, VR7.out, B7.out⟩
            case measure => simp [intOf]; omega
      · obtain rfl : k = n := by omega
        have HO := Hid.mk (O.mono (show w.heap.size ≤ _ by omega))
        have HK := Hid.mk hj
        have HC := Hid.mk (fun b hb => (O.lt b hb).1)
        clear O hj
        obtain ⟨s_VR, f_VR, z_VR⟩ := VR.open
        have Bo := B
        clear s_VR f_VR z_VR
        have VF := Hid.mk (VR.filled [.int .i64 0, .slice c j d] rfl)
        have BR := belowCells B (show w.heap.size ≤ w.heap.size by (first | omega | (simp; done) | (simp; omega))) 0 [.int .i64 0, .slice c j d]
        have HT := Hid.mk VR.there
        replace BR := Hid.mk BR
        obtain ⟨s_VR, f_VR, z_VR⟩ := VR.open
        go_wp2_with (refine wpList_store_mid rfl 81 _ _ rfl (w.heap.size) 0 #[.int .i64 0, .slice c j d] rfl rfl HT.out (by kernel_rfl) (by kernel_rfl) ?_)
        refine bodyPost_ret (v := .agg #[.int .i64 0, .slice c j d]) (results_row Tryd.results49 _ _ (w.heap.size) [.int .i64 0, .slice c j d] _ rfl VF.out Tryd.underlying81 rfl (by kernel_rfl)) rfl ⟨c, d, j, rfl, HK.out, ownCellsL HO.out (by intro b hb; have := HC.out b hb; omega) _ _, BR.out⟩

end Go.Proofs.YtngkahchhioncaaDoor
