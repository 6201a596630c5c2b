/- EncodeTerm of the program. -/
import Derived.Test.YtfldgeokigcokaaGreatPwD
import Derived.Test.YtfldgeokigcokaaGreatRkB
import Derived.Test.YtfldgeokigcokaaGreatWrF
namespace Go.Proofs.YtfldgeokigcokaaGreat
open Go.RowKit

/-- How many names and secrets a term is made of. -/
def Tr.lv : Tr → Int
  | .leaf _ _ => 1
  | .one _ x => x.lv
  | .two _ x y => x.lv + y.lv

theorem Tr.enc_lv (t : Tr) (h : t.sz < 1000000) : (t.enc.length : Int) = t.sz + 2 * t.lv ∧ 2 * t.lv ≤ t.sz + 1 := by
  induction t with
  | leaf _ _ => simp [Tr.enc, Tr.sz, Tr.lv]
  | one _ x ih =>
    simp only [Tr.sz] at h ⊢
    obtain ⟨h1, h2⟩ := ih (by omega)
    simp only [Tr.enc, Tr.lv, List.length_cons]; omega
  | two _ x y ih1 ih2 =>
    simp only [Tr.sz] at h ⊢
    have p := x.sz_in
    have q := y.sz_in
    obtain ⟨h1, h2⟩ := ih1 (by omega)
    obtain ⟨h3, h4⟩ := ih2 (by omega)
    simp only [Tr.enc, Tr.lv, List.length_cons, List.length_append]; omega

theorem Tr.enc_fits (t : Tr) (h : t.sz ≤ 200) : t.enc.length ≤ 400 := by
  have := t.enc_lv (by omega)
  omega

theorem field_ir1 (a b : Int) (w : World) : (Instr.field 37 (.agg #[.int .i64 a, .int .i64 b]) 1).run Tryz.prog w = .ok (.int .i64 b) w := by kernel_rfl

theorem build_bic (c : Int) (w : World) : (Instr.build 31 #[(0, .int .i64 c)]).run Tryz.prog w = .ok (.agg #[.int .i64 c, .slice none 0 0]) w := run_build w 31 _ _ (by kernel_rfl)
theorem build_biv (c : Option Addr) (n d : Nat) (w : World) : (Instr.build 31 #[(1, .slice c n d)]).run Tryz.prog w = .ok (.agg #[.int .i64 0, .slice c n d]) w := run_build w 31 _ _ (by kernel_rfl)

set_option maxRecDepth 20000 in
set_option maxHeartbeats 8000000 in
theorem implEncodeTerm_ok (a : Option Addr) (n ca : Nat) (xs : List T4) (q : Int) (w : World) (ha : RdTerm w a xs) (hn : xs.length = n) (hx : n ≤ maxLen) (hca : n ≤ ca) (hok : ∀ t ∈ xs, okT t) :
    Calls Tryz.prog 8 #[.slice a n ca, .int .i64 q] w fun e w' => ∃ c d, e = .returned (.agg #[.int .i64 (enC xs q), .slice c (enB xs q).length d]) ∧ Own .u8 5 w' w.heap.size c d (enB xs q) ∧ Below w.heap.size w w' := by
  have q1 := build_bic
  have q2 := build_biv
  have q3 := field_ir1
  have CD := Hid.mk (fun w h => implDepthOf_ok a n ca xs q w h hn hx hca hok)
  have CS := Hid.mk (fun w h => implSizeOf_ok a n ca xs q w h hn hx hca hok)
  have HW := en_ways xs q
  by_cases h1 : akC xs q = 0
  case neg =>
    rcases HW with ⟨_, e1, e2⟩ | ⟨h, _⟩ | ⟨h, _⟩ | ⟨h, _⟩
    · rw [e1, e2]
      have h2 : (akC xs q != 0) = true := by simp [h1]
      clear h1 e1 e2 CS
      generalize akC xs q = kk at *
      generalize dpV xs q = dv at *
      go_enter Tryz.func8, Tryz.ntmps8
      have B := Below.refl w.heap.size w
      replace ha := ha.kept (belowA w (.cells #[.int .i64 0, .slice none 0 0] 31))
      replace B := thenB B (belowA w (.cells #[.int .i64 0, .slice none 0 0] 31))
      have VR := V.new w [.int .i64 0, .slice none 0 0] 31
      obtain ⟨s_VR, f_VR, z_VR⟩ := VR.open
      have Bo := B
      go_wp2_with fail
      refine (CD.out _ ha).mono ?_
      rintro e w1 ⟨rfl, b1⟩
      clear s_VR f_VR z_VR
      have S1 := b1.size
      simp only [World.size_alloc] at S1
      replace VR := VR.kept b1
      replace ha := ha.kept b1
      replace B := thenB B b1
      clear b1
      obtain ⟨s_VR, f_VR, z_VR⟩ := VR.open
      have Bo := B
      replace VR := VR.kept (belowA w1 (.cells #[.int .i64 kk, .int .i64 dv] 37))
      replace ha := ha.kept (belowA w1 (.cells #[.int .i64 kk, .int .i64 dv] 37))
      replace B := thenB B (belowA w1 (.cells #[.int .i64 kk, .int .i64 dv] 37))
      have VD := V.new w1 [.int .i64 kk, .int .i64 dv] 37
      clear s_VR f_VR z_VR
      obtain ⟨s_VR, f_VR, z_VR⟩ := VR.open
      obtain ⟨s_VD, f_VD, z_VD⟩ := VD.open
      have Bo := B
      clear s_VR f_VR z_VR s_VD f_VD z_VD
      have VF := Hid.mk (VR.filled [.int .i64 kk, .slice none 0 0] rfl)
      have HT := Hid.mk VR.there
      have BR := belowCells B (show w.heap.size ≤ w.heap.size by (first | omega | (simp; done) | (simp; omega))) 0 [.int .i64 kk, .slice none 0 0]
      replace BR := Hid.mk BR
      obtain ⟨s_VR, f_VR, z_VR⟩ := VR.open
      obtain ⟨s_VD, f_VD, z_VD⟩ := VD.open
      go_wp2_with (refine wpList_store_mid rfl 31 _ _ rfl (w.heap.size) 0 #[.int .i64 kk, .slice none 0 0] rfl rfl HT.out (by kernel_rfl) (by kernel_rfl) ?_)
      refine bodyPost_ret (v := .agg #[.int .i64 kk, .slice none 0 0]) (results_row Tryz.results8 _ _ (w.heap.size) [.int .i64 kk, .slice none 0 0] _ rfl VF.out Tryz.underlying31 rfl (by kernel_rfl)) rfl ⟨none, 0, rfl, own_none, BR.out⟩
    all_goals exact absurd h h1
  have hdp : dpV xs q = (den xs q.toNat).dp := by
    rcases dpV_ways xs q with ⟨h, _⟩ | ⟨_, h⟩
    · exact absurd h1 h
    · exact h
  have hsz : szV xs q = (den xs q.toNat).sz := by
    rcases szV_ways xs q with ⟨h, _⟩ | ⟨_, h⟩
    · exact absurd h1 h
    · exact h
  obtain ⟨hv, hq0, hq1⟩ := ak_zero h1
  rw [h1, hdp] at CD
  rw [h1, hsz] at CS
  obtain ⟨m, rfl⟩ : ∃ m : Nat, q = (m : Int) := ⟨q.toNat, by omega⟩
  rw [Int.toNat_natCast] at HW CD CS
  have CT := termPiece_ok a n ca xs hv hn m
  unfold Piece at CT
  have hfit := (den xs m).enc_fits
  obtain ⟨T, hT⟩ : ∃ T, den xs m = T := ⟨_, rfl⟩
  rw [hT] at HW CD CS CT hfit
  obtain ⟨D, hD⟩ : ∃ D, T.dp = D := ⟨_, rfl⟩
  obtain ⟨S, hS⟩ : ∃ S, T.sz = S := ⟨_, rfl⟩
  rw [hD] at HW CD
  rw [hS] at HW CS CT hfit
  have hmn : m < n := by omega
  clear hT hD hS hq0 hq1 hv hdp hsz
  rcases HW with ⟨h, _⟩ | ⟨_, h2, e1, e2⟩ | ⟨_, h2, h3, h4, e1, e2⟩ | ⟨_, h2, h3, h4, e1, e2⟩
  · exact absurd h1 h
  · rw [e1, e2]
    clear h1 e1 e2 CT hfit
    by_cases h3 : 30 < D
    · clear h2 CS
      go_enter Tryz.func8, Tryz.ntmps8
      have B := Below.refl w.heap.size w
      replace ha := ha.kept (belowA w (.cells #[.int .i64 0, .slice none 0 0] 31))
      replace B := thenB B (belowA w (.cells #[.int .i64 0, .slice none 0 0] 31))
      have VR := V.new w [.int .i64 0, .slice none 0 0] 31
      obtain ⟨s_VR, f_VR, z_VR⟩ := VR.open
      have Bo := B
      go_wp2_with fail
      refine (CD.out _ ha).mono ?_
      rintro e w21 ⟨rfl, b21⟩
      clear s_VR f_VR z_VR
      have S21 := b21.size
      simp only [World.size_alloc] at S21
      replace VR := VR.kept b21
      replace ha := ha.kept b21
      replace B := thenB B b21
      clear b21
      obtain ⟨s_VR, f_VR, z_VR⟩ := VR.open
      have Bo := B
      replace VR := VR.kept (belowA w21 (.cells #[.int .i64 0, .int .i64 D] 37))
      replace ha := ha.kept (belowA w21 (.cells #[.int .i64 0, .int .i64 D] 37))
      replace B := thenB B (belowA w21 (.cells #[.int .i64 0, .int .i64 D] 37))
      have VD := V.new w21 [.int .i64 0, .int .i64 D] 37
      clear s_VR f_VR z_VR
      obtain ⟨s_VR, f_VR, z_VR⟩ := VR.open
      obtain ⟨s_VD, f_VD, z_VD⟩ := VD.open
      have Bo := B
      clear s_VR f_VR z_VR s_VD f_VD z_VD
      have VF := Hid.mk (VR.filled [.int .i64 2, .slice none 0 0] rfl)
      have HT := Hid.mk VR.there
      have BR := belowCells B (show w.heap.size ≤ w.heap.size by (first | omega | (simp; done) | (simp; omega))) 0 [.int .i64 2, .slice none 0 0]
      replace BR := Hid.mk BR
      obtain ⟨s_VR, f_VR, z_VR⟩ := VR.open
      obtain ⟨s_VD, f_VD, z_VD⟩ := VD.open
      go_wp2_with (refine wpList_store_mid rfl 31 _ _ rfl (w.heap.size) 0 #[.int .i64 2, .slice none 0 0] rfl rfl HT.out (by kernel_rfl) (by kernel_rfl) ?_)
      refine bodyPost_ret (v := .agg #[.int .i64 2, .slice none 0 0]) (results_row Tryz.results8 _ _ (w.heap.size) [.int .i64 2, .slice none 0 0] _ rfl VF.out Tryz.underlying31 rfl (by kernel_rfl)) rfl ⟨none, 0, rfl, own_none, BR.out⟩
    · have h4 : 200 < S := by omega
      have h5 : D ≤ 30 := by omega
      clear h2 h3
      go_enter Tryz.func8, Tryz.ntmps8
      have B := Below.refl w.heap.size w
      replace ha := ha.kept (belowA w (.cells #[.int .i64 0, .slice none 0 0] 31))
      replace B := thenB B (belowA w (.cells #[.int .i64 0, .slice none 0 0] 31))
      have VR := V.new w [.int .i64 0, .slice none 0 0] 31
      obtain ⟨s_VR, f_VR, z_VR⟩ := VR.open
      have Bo := B
      go_wp2_with fail
      refine (CD.out _ ha).mono ?_
      rintro e w41 ⟨rfl, b41⟩
      clear s_VR f_VR z_VR
      have S41 := b41.size
      simp only [World.size_alloc] at S41
      replace VR := VR.kept b41
      replace ha := ha.kept b41
      replace B := thenB B b41
      clear b41
      obtain ⟨s_VR, f_VR, z_VR⟩ := VR.open
      have Bo := B
      replace VR := VR.kept (belowA w41 (.cells #[.int .i64 0, .int .i64 D] 37))
      replace ha := ha.kept (belowA w41 (.cells #[.int .i64 0, .int .i64 D] 37))
      replace B := thenB B (belowA w41 (.cells #[.int .i64 0, .int .i64 D] 37))
      have VD := V.new w41 [.int .i64 0, .int .i64 D] 37
      clear s_VR f_VR z_VR
      obtain ⟨s_VR, f_VR, z_VR⟩ := VR.open
      obtain ⟨s_VD, f_VD, z_VD⟩ := VD.open
      have Bo := B
      go_wp2_with fail
      refine (CS.out _ ha).mono ?_
      rintro e w42 ⟨rfl, b42⟩
      clear s_VR f_VR z_VR s_VD f_VD z_VD
      have S42 := b42.size
      simp only [World.size_alloc] at S42
      replace VR := VR.kept b42
      replace VD := VD.kept b42
      replace ha := ha.kept b42
      replace B := thenB B b42
      clear b42
      obtain ⟨s_VR, f_VR, z_VR⟩ := VR.open
      obtain ⟨s_VD, f_VD, z_VD⟩ := VD.open
      have Bo := B
      clear s_VR f_VR z_VR s_VD f_VD z_VD
      have VF := Hid.mk (VR.filled [.int .i64 2, .slice none 0 0] rfl)
      have HT := Hid.mk VR.there
      have BR := belowCells B (show w.heap.size ≤ w.heap.size by (first | omega | (simp; done) | (simp; omega))) 0 [.int .i64 2, .slice none 0 0]
      replace BR := Hid.mk BR
      obtain ⟨s_VR, f_VR, z_VR⟩ := VR.open
      obtain ⟨s_VD, f_VD, z_VD⟩ := VD.open
      go_wp2_with (refine wpList_store_mid rfl 31 _ _ rfl (w.heap.size) 0 #[.int .i64 2, .slice none 0 0] rfl rfl HT.out (by kernel_rfl) (by kernel_rfl) ?_)
      refine bodyPost_ret (v := .agg #[.int .i64 2, .slice none 0 0]) (results_row Tryz.results8 _ _ (w.heap.size) [.int .i64 2, .slice none 0 0] _ rfl VF.out Tryz.underlying31 rfl (by kernel_rfl)) rfl ⟨none, 0, rfl, own_none, BR.out⟩
  · have := hfit (by omega); omega
  · rw [e1, e2]
    replace CT := Hid.mk (fun w h => CT w h hmn (by omega))
    obtain ⟨l, hl⟩ : ∃ l, T.enc.length = l := ⟨_, rfl⟩
    rw [hl] at h4
    generalize T.enc = te at *
    replace hl := Hid.mk hl
    have hlh := hl.out
    clear h1 e1 e2 hfit
    go_enter Tryz.func8, Tryz.ntmps8
    have B := Below.refl w.heap.size w
    replace ha := ha.kept (belowA w (.cells #[.int .i64 0, .slice none 0 0] 31))
    replace B := thenB B (belowA w (.cells #[.int .i64 0, .slice none 0 0] 31))
    have VR := V.new w [.int .i64 0, .slice none 0 0] 31
    obtain ⟨s_VR, f_VR, z_VR⟩ := VR.open
    have Bo := B
    go_wp2_with fail
    refine (CD.out _ ha).mono ?_
    rintro e w61 ⟨rfl, b61⟩
    clear s_VR f_VR z_VR
    have S61 := b61.size
    simp only [World.size_alloc] at S61
    replace VR := VR.kept b61
    replace ha := ha.kept b61
    replace B := thenB B b61
    clear b61
    obtain ⟨s_VR, f_VR, z_VR⟩ := VR.open
    have Bo := B
    replace VR := VR.kept (belowA w61 (.cells #[.int .i64 0, .int .i64 D] 37))
    replace ha := ha.kept (belowA w61 (.cells #[.int .i64 0, .int .i64 D] 37))
    replace B := thenB B (belowA w61 (.cells #[.int .i64 0, .int .i64 D] 37))
    have VD := V.new w61 [.int .i64 0, .int .i64 D] 37
    clear s_VR f_VR z_VR
    obtain ⟨s_VR, f_VR, z_VR⟩ := VR.open
    obtain ⟨s_VD, f_VD, z_VD⟩ := VD.open
    have Bo := B
    go_wp2_with fail
    refine (CS.out _ ha).mono ?_
    rintro e w62 ⟨rfl, b62⟩
    clear s_VR f_VR z_VR s_VD f_VD z_VD
    have S62 := b62.size
    simp only [World.size_alloc] at S62
    replace VR := VR.kept b62
    replace VD := VD.kept b62
    replace ha := ha.kept b62
    replace B := thenB B b62
    clear b62
    obtain ⟨s_VR, f_VR, z_VR⟩ := VR.open
    obtain ⟨s_VD, f_VD, z_VD⟩ := VD.open
    have Bo := B
    go_wp2_with fail
    refine (CT.out _ ha).mono ?_
    rintro e w63 ⟨g1, m1, d1, rfl, WT, b63⟩
    clear s_VR f_VR z_VR s_VD f_VD z_VD
    have S63 := b63.size
    replace VR := VR.kept b63
    replace VD := VD.kept b63
    replace ha := ha.kept b63
    replace B := thenB B b63
    clear b63
    obtain ⟨s_VR, f_VR, z_VR⟩ := VR.open
    obtain ⟨s_VD, f_VD, z_VD⟩ := VD.open
    have Bo := B
    clear s_VR f_VR z_VR s_VD f_VD z_VD
    have hcz := VR.1
    obtain ⟨s_VR, f_VR, z_VR⟩ := VR.open
    obtain ⟨s_VD, f_VD, z_VD⟩ := VD.open
    go_wp2_with fail
    refine (WT w63 w.heap.size none 0 0 [] (fun q hq => ⟨hq.2, rfl⟩) own_none rfl (by omega) (fun q hq => by obtain ⟨b, hb, _⟩ := hq; cases hb) (by omega)).mono ?_
    rintro e w70 ⟨c3, d3, rfl, W⟩
    clear s_VR f_VR z_VR s_VD f_VD z_VD
    have b70 : Below w63.heap.size w63 w70 := W.sm.below' (Below.refl _ _) (Nat.le_refl _) (fun q hq => by obtain ⟨b, hb, _⟩ := hq; cases hb)
    have O := W.own
    rw [List.nil_append] at O
    have OLr : ∀ b : Addr, c3 = some b → w63.heap.size ≤ b.block := fun b hb => by
      rcases W.lies b.block ⟨b, hb, rfl⟩ with ⟨b', h', _⟩ | h
      · cases h'
      · exact h
    rw [hl.out]
    have hS70 := b70.size
    replace VR := VR.kept b70
    replace ha := ha.kept b70
    replace B := thenB B b70
    have OL : Hid (∀ b : Addr, c3 = some b → w.heap.size < b.block) := Hid.mk (fun b hb => Nat.lt_of_lt_of_le hcz (OLr b hb))
    clear W OLr b70 hcz VD WT
    simp only [Nat.zero_add]
    obtain ⟨s_VR, f_VR, z_VR⟩ := VR.open
    have Bo := B
    clear s_VR f_VR z_VR
    have VF := Hid.mk (VR.filled [.int .i64 0, .slice c3 l d3] rfl)
    have HT := Hid.mk VR.there
    have BR := belowCells B (show w.heap.size ≤ w.heap.size by (first | omega | (simp; done) | (simp; omega))) 0 [.int .i64 0, .slice c3 l d3]
    replace BR := Hid.mk BR
    have HO := Hid.mk ((O.mono (show w.heap.size ≤ _ by first | omega | (simp; done) | (simp; omega))).apart8 (B := w.heap.size) (by intro b hb; have := OL.out b hb; first | omega | (simp at this; omega)) 0 [.int .i64 0, .slice c3 l d3])
    obtain ⟨s_VR, f_VR, z_VR⟩ := VR.open
    go_wp2_with (refine wpList_store_mid rfl 31 _ _ rfl (w.heap.size) 0 #[.int .i64 0, .slice c3 l d3] rfl rfl HT.out (by kernel_rfl) (by kernel_rfl) ?_)
    refine bodyPost_ret (v := .agg #[.int .i64 0, .slice c3 l d3]) (results_row Tryz.results8 _ _ (w.heap.size) [.int .i64 0, .slice c3 l d3] _ rfl VF.out Tryz.underlying31 rfl (by kernel_rfl)) rfl ⟨c3, d3, by first | rfl | rw [hl.out], HO.out, BR.out⟩

end Go.Proofs.YtfldgeokigcokaaGreat
