/- Put together: MvD, MvE, MvF. -/
import Derived.Test.YthjaehcfakjemaaDoorFmd
import Derived.Test.YthjaehcfakjemaaDoorFml
import Derived.Test.YthjaehcfakjemaaDoorTmW
import Derived.Test.YthjaehcfakjemaaDoorFmh
import Derived.Test.YthjaehcfakjemaaDoorFmo
import Derived.Test.YthjaehcfakjemaaDoorFmf
import Derived.Test.YthjaehcfakjemaaDoorFmj

/- MoveTerm: the program. -/
namespace Go.Proofs.YthjaehcfakjemaaDoor
open Go.RowKit

theorem mvP_ways (fr : List T4) (q : Int) (tb : List T4) : ((mvR fr (prL fr q.toNat) (fun _ => 0) tb).c = 0 ∧ mvP fr q tb = ⟨0, (mvR fr (prL fr q.toNat) (fun _ => 0) tb).pl q, (mvR fr (prL fr q.toNat) (fun _ => 0) tb).tb⟩) ∨ ((mvR fr (prL fr q.toNat) (fun _ => 0) tb).c ≠ 0 ∧ mvP fr q tb = ⟨(mvR fr (prL fr q.toNat) (fun _ => 0) tb).c, 0, []⟩) := by
  unfold mvP
  by_cases h : (mvR fr (prL fr q.toNat) (fun _ => 0) tb).c = 0
  · exact .inl ⟨h, by rw [if_pos h]⟩
  · exact .inr ⟨h, by rw [if_neg h]⟩

set_option maxRecDepth 20000 in
set_option maxHeartbeats 4000000 in
theorem implMoveTerm_ok (a : Option Addr) (n ca : Nat) (fr : List T4) (q : Int) (b : Option Addr) (nb cb : Nat) (tb : List T4) (w : World) (ha : RdTerm w a fr) (hn : fr.length = n) (hx : n ≤ 1048576) (hok : ∀ t ∈ fr, okT t) (hb : RdTerm w b tb) (hnb : tb.length = nb) (hxb : nb ≤ 1048576) (hokb : ∀ t ∈ tb, okT t) :
    Calls Tryd.prog 7 #[.slice a n ca, .int .i64 q, .slice b nb cb] w fun e w' => ∃ c d, e = .returned (.agg #[.int .i64 (mvF fr q tb).c, .int .i64 (mvF fr q tb).k, .slice c (mvF fr q tb).l.length d]) ∧ OwnTerm w' w.heap.size c d (mvF fr q tb).l ∧ Below w.heap.size w w' := by
  have q1 := build_tr0'
  have HW := mvF_ways fr q tb
  rw [hn] at HW
  rcases HW with ⟨h1, hr⟩ | ⟨h1, h2, hr⟩ | ⟨h1, h2, h3, hr⟩ | ⟨h1, h2, h3, hr⟩
  · have h2 : (tfC fr != 0) = true := by simp [h1]
    have CB := Hid.mk (fun w h => bookOf_no a n ca fr w h hn (by unfold maxLen; omega) hok h1)
    rw [hr]
    clear hr h1
    generalize tfC fr = kk at *
    go_enter Tryd.func7, Tryd.ntmps7
    have B := Below.refl w.heap.size w
    replace ha := ha.kept (belowA w (.cells #[.int .i64 0, .int .i64 0, .slice none 0 0] 28))
    replace hb := hb.kept (belowA w (.cells #[.int .i64 0, .int .i64 0, .slice none 0 0] 28))
    replace B := thenB B (belowA w (.cells #[.int .i64 0, .int .i64 0, .slice none 0 0] 28))
    have VR := V.new w [.int .i64 0, .int .i64 0, .slice none 0 0] 28
    obtain ⟨s_VR, f_VR, z_VR⟩ := VR.open
    have Bo := B
    go_wp2_with fail
    refine (CB.out _ ha).mono ?_
    rintro e w1 ⟨rfl, b1⟩
    clear s_VR f_VR z_VR
    have S1 := b1.size
    simp only [World.size_alloc] at S1
    replace VR := VR.kept b1
    replace ha := ha.kept b1
    replace hb := hb.kept b1
    replace B := thenB B b1
    clear b1
    obtain ⟨s_VR, f_VR, z_VR⟩ := VR.open
    have Bo := B
    clear s_VR f_VR z_VR
    have VF := Hid.mk (VR.filled [.int .i64 kk, .int .i64 0, .slice none 0 0] rfl)
    have HT := Hid.mk VR.there
    have BR := belowCells B (show w.heap.size ≤ w.heap.size by (first | omega | (simp; done) | (simp; omega))) 0 [.int .i64 kk, .int .i64 0, .slice none 0 0]
    replace BR := Hid.mk BR
    obtain ⟨s_VR, f_VR, z_VR⟩ := VR.open
    go_wp2_with (refine wpList_store_mid rfl 28 _ _ rfl (w.heap.size) 0 #[.int .i64 kk, .int .i64 0, .slice none 0 0] rfl rfl HT.out (by kernel_rfl) (by kernel_rfl) ?_)
    refine bodyPost_ret (v := .agg #[.int .i64 kk, .int .i64 0, .slice none 0 0]) (results_row Tryd.results7 _ _ (w.heap.size) [.int .i64 kk, .int .i64 0, .slice none 0 0] _ rfl VF.out Tryd.underlying28 rfl (by kernel_rfl)) rfl ⟨none, 0, rfl, OwnTerm.none, BR.out⟩
  · have h3 : (tfC tb != 0) = true := by simp [h2]
    have CB := Hid.mk (fun w h => bookOf_yes a n ca fr w h hn (by unfold maxLen; omega) hok h1)
    have CB2 := Hid.mk (fun w h => bookOf_no b nb cb tb w h hnb (by unfold maxLen; omega) hokb h2)
    rw [hr]
    clear hr h1 h2
    generalize tfC tb = kk at *
    go_enter Tryd.func7, Tryd.ntmps7
    have B := Below.refl w.heap.size w
    replace ha := ha.kept (belowA w (.cells #[.int .i64 0, .int .i64 0, .slice none 0 0] 28))
    replace hb := hb.kept (belowA w (.cells #[.int .i64 0, .int .i64 0, .slice none 0 0] 28))
    replace B := thenB B (belowA w (.cells #[.int .i64 0, .int .i64 0, .slice none 0 0] 28))
    have VR := V.new w [.int .i64 0, .int .i64 0, .slice none 0 0] 28
    obtain ⟨s_VR, f_VR, z_VR⟩ := VR.open
    have Bo := B
    go_wp2_with fail
    refine (CB.out _ ha).mono ?_
    rintro e w11 ⟨p, g, c0, d0, rfl, H, b11⟩
    clear s_VR f_VR z_VR
    have S11 := b11.size
    simp only [World.size_alloc] at S11
    replace VR := VR.kept b11
    replace ha := ha.kept b11
    replace hb := hb.kept b11
    replace B := thenB B b11
    clear b11
    obtain ⟨s_VR, f_VR, z_VR⟩ := VR.open
    have Bo := B
    go_wp2_with fail
    refine (CB2.out _ hb).mono ?_
    rintro e w12 ⟨rfl, b12⟩
    clear s_VR f_VR z_VR
    have S12 := b12.size
    replace VR := VR.kept b12
    replace ha := ha.kept b12
    replace hb := hb.kept b12
    replace H := H.kept b12
    replace B := thenB B b12
    clear b12
    obtain ⟨s_VR, f_VR, z_VR⟩ := VR.open
    have Bo := B
    clear s_VR f_VR z_VR
    have VF := Hid.mk (VR.filled [.int .i64 kk, .int .i64 0, .slice none 0 0] rfl)
    have HT := Hid.mk VR.there
    have BR := belowCells B (show w.heap.size ≤ w.heap.size by (first | omega | (simp; done) | (simp; omega))) 0 [.int .i64 kk, .int .i64 0, .slice none 0 0]
    replace BR := Hid.mk BR
    obtain ⟨s_VR, f_VR, z_VR⟩ := VR.open
    go_wp2_with (refine wpList_store_mid rfl 28 _ _ rfl (w.heap.size) 0 #[.int .i64 kk, .int .i64 0, .slice none 0 0] rfl rfl HT.out (by kernel_rfl) (by kernel_rfl) ?_)
    refine bodyPost_ret (v := .agg #[.int .i64 kk, .int .i64 0, .slice none 0 0]) (results_row Tryd.results7 _ _ (w.heap.size) [.int .i64 kk, .int .i64 0, .slice none 0 0] _ rfl VF.out Tryd.underlying28 rfl (by kernel_rfl)) rfl ⟨none, 0, rfl, OwnTerm.none, BR.out⟩
  · rw [hr]
    have CB := Hid.mk (fun w h => bookOf_yes a n ca fr w h hn (by unfold maxLen; omega) hok h1)
    have CB2 := Hid.mk (fun w h => bookOf_yes b nb cb tb w h hnb (by unfold maxLen; omega) hokb h2)
    have CA := Hid.mk (fun w c0 d0 c1 d1 h => arePlaces_ok c0 n d0 c1 1 d1 [q] w h rfl (by unfold maxLen; omega) (by unfold maxLen; omega))
    rw [plsOk_one, h3] at CA
    clear hr h1 h2 h3
    go_enter Tryd.func7, Tryd.ntmps7
    have B := Below.refl w.heap.size w
    replace ha := ha.kept (belowA w (.cells #[.int .i64 0, .int .i64 0, .slice none 0 0] 28))
    replace hb := hb.kept (belowA w (.cells #[.int .i64 0, .int .i64 0, .slice none 0 0] 28))
    replace B := thenB B (belowA w (.cells #[.int .i64 0, .int .i64 0, .slice none 0 0] 28))
    have VR := V.new w [.int .i64 0, .int .i64 0, .slice none 0 0] 28
    obtain ⟨s_VR, f_VR, z_VR⟩ := VR.open
    have Bo := B
    go_wp2_with fail
    refine (CB.out _ ha).mono ?_
    rintro e w21 ⟨p, g, c0, d0, rfl, H, b21⟩
    clear s_VR f_VR z_VR
    have S21 := b21.size
    simp only [World.size_alloc] at S21
    replace VR := VR.kept b21
    replace ha := ha.kept b21
    replace hb := hb.kept b21
    replace B := thenB B b21
    clear b21
    obtain ⟨s_VR, f_VR, z_VR⟩ := VR.open
    have Bo := B
    have HLT1 := Hid.mk H.lt
    have hvr := Hid.mk VR.1
    go_wp2_with fail
    refine (CB2.out _ hb).mono ?_
    rintro e w22 ⟨p2, g2, c2, d2, rfl, H2, b22⟩
    clear s_VR f_VR z_VR
    have S22 := b22.size
    replace VR := VR.kept b22
    replace ha := ha.kept b22
    replace hb := hb.kept b22
    replace H := H.kept b22
    replace B := thenB B b22
    clear b22
    obtain ⟨s_VR, f_VR, z_VR⟩ := VR.open
    have Bo := B
    have HLT2 := Hid.mk H2.lt
    have VP := H.v
    rw [hn] at VP
    clear s_VR f_VR z_VR
    obtain ⟨s_VR, f_VR, z_VR⟩ := VR.open
    obtain ⟨s_VP, f_VP, z_VP⟩ := VP.open
    have Bo := B
    have hR1 := (OwnI.lit w22 [q] [.int .i64 q] rfl (by unfold maxLen; simp)).rd
    go_wp2_with fail
    refine (CA.out _ _ _ _ _ hR1).mono ?_
    rintro e wq ⟨rfl, rfl⟩
    clear s_VR f_VR z_VR s_VP f_VP z_VP
    replace VR := VR.kept (belowA w22 (.cells #[.int .i64 q] 2))
    replace VP := VP.kept (belowA w22 (.cells #[.int .i64 q] 2))
    replace ha := ha.kept (belowA w22 (.cells #[.int .i64 q] 2))
    replace hb := hb.kept (belowA w22 (.cells #[.int .i64 q] 2))
    replace H := H.kept (belowA w22 (.cells #[.int .i64 q] 2))
    replace H2 := H2.kept (belowA w22 (.cells #[.int .i64 q] 2))
    replace B := thenB B (belowA w22 (.cells #[.int .i64 q] 2))
    obtain ⟨s_VR, f_VR, z_VR⟩ := VR.open
    obtain ⟨s_VP, f_VP, z_VP⟩ := VP.open
    have Bo := B
    clear s_VR f_VR z_VR s_VP f_VP z_VP
    have VF := Hid.mk (VR.filled [.int .i64 3, .int .i64 0, .slice none 0 0] rfl)
    have HT := Hid.mk VR.there
    have BR := belowCells B (show w.heap.size ≤ w.heap.size by (first | omega | (simp; done) | (simp; omega))) 0 [.int .i64 3, .int .i64 0, .slice none 0 0]
    replace BR := Hid.mk BR
    obtain ⟨s_VR, f_VR, z_VR⟩ := VR.open
    obtain ⟨s_VP, f_VP, z_VP⟩ := VP.open
    go_wp2_with (refine wpList_store_mid rfl 28 _ _ rfl (w.heap.size) 0 #[.int .i64 3, .int .i64 0, .slice none 0 0] rfl rfl HT.out (by kernel_rfl) (by kernel_rfl) ?_)
    refine bodyPost_ret (v := .agg #[.int .i64 3, .int .i64 0, .slice none 0 0]) (results_row Tryd.results7 _ _ (w.heap.size) [.int .i64 3, .int .i64 0, .slice none 0 0] _ rfl VF.out Tryd.underlying28 rfl (by kernel_rfl)) rfl ⟨none, 0, rfl, OwnTerm.none, BR.out⟩
  · rw [hr]
    have CB := Hid.mk (fun w h => bookOf_yes a n ca fr w h hn (by unfold maxLen; omega) hok h1)
    have CB2 := Hid.mk (fun w h => bookOf_yes b nb cb tb w h hnb (by unfold maxLen; omega) hokb h2)
    have CA := Hid.mk (fun w c0 d0 c1 d1 h => arePlaces_ok c0 n d0 c1 1 d1 [q] w h rfl (by unfold maxLen; omega) (by unfold maxLen; omega))
    rw [plsOk_one, h3] at CA
    have HV := h1
    have hl4 := (tfC_zero h2).1
    obtain ⟨hq0, hq1⟩ := btw_iff.1 h3
    obtain ⟨m, rfl⟩ : ∃ m : Nat, q = (m : Int) := ⟨q.toNat, by omega⟩
    have hm : m < n := by omega
    have CT := Hid.mk (fun base p g c d base' ps gs cs ds M hM w H Hs hd => takeOver_ok base p g c d tb base' ps gs cs ds fr n m w H Hs hn HV hok hm hl4 hd M hM)
    obtain ⟨M, hM⟩ : ∃ M, mvR fr (prL fr m) (fun _ => 0) tb = M := ⟨_, rfl⟩
    have hP := mvP_ways fr (m : Int) tb
    rw [Int.toNat_natCast, hM] at hP
    replace hM := Hid.mk hM
    clear hr h1 h2 h3 hq0 hq1 HV
    rcases hP with ⟨hc, hr⟩ | ⟨hc, hr⟩
    · rw [hr]
      obtain ⟨kl, hkl⟩ : ∃ l, M.tb.length = l := ⟨_, rfl⟩
      rw [hkl]
      replace hkl := Hid.mk hkl
      obtain ⟨kk, hkk⟩ : ∃ k, M.pl m = k := ⟨_, rfl⟩
      replace CT : Hid _ := CT
      rw [hkk]
      have hif : (if M.c = 0 then M.pl m else 0) = kk := by rw [if_pos hc, hkk]
      clear hkk hr
      go_enter Tryd.func7, Tryd.ntmps7
      have B := Below.refl w.heap.size w
      replace ha := ha.kept (belowA w (.cells #[.int .i64 0, .int .i64 0, .slice none 0 0] 28))
      replace hb := hb.kept (belowA w (.cells #[.int .i64 0, .int .i64 0, .slice none 0 0] 28))
      replace B := thenB B (belowA w (.cells #[.int .i64 0, .int .i64 0, .slice none 0 0] 28))
      have VR := V.new w [.int .i64 0, .int .i64 0, .slice none 0 0] 28
      obtain ⟨s_VR, f_VR, z_VR⟩ := VR.open
      have Bo := B
      go_wp2_with fail
      refine (CB.out _ ha).mono ?_
      rintro e w31 ⟨p, g, c0, d0, rfl, H, b31⟩
      clear s_VR f_VR z_VR
      have S31 := b31.size
      simp only [World.size_alloc] at S31
      replace VR := VR.kept b31
      replace ha := ha.kept b31
      replace hb := hb.kept b31
      replace B := thenB B b31
      clear b31
      obtain ⟨s_VR, f_VR, z_VR⟩ := VR.open
      have Bo := B
      have HLT1 := Hid.mk H.lt
      have hvr := Hid.mk VR.1
      go_wp2_with fail
      refine (CB2.out _ hb).mono ?_
      rintro e w32 ⟨p2, g2, c2, d2, rfl, H2, b32⟩
      clear s_VR f_VR z_VR
      have S32 := b32.size
      replace VR := VR.kept b32
      replace ha := ha.kept b32
      replace hb := hb.kept b32
      replace H := H.kept b32
      replace B := thenB B b32
      clear b32
      obtain ⟨s_VR, f_VR, z_VR⟩ := VR.open
      have Bo := B
      have HLT2 := Hid.mk H2.lt
      have VP := H.v
      rw [hn] at VP
      clear s_VR f_VR z_VR
      obtain ⟨s_VR, f_VR, z_VR⟩ := VR.open
      obtain ⟨s_VP, f_VP, z_VP⟩ := VP.open
      have Bo := B
      have hR1 := (OwnI.lit w32 [(m : Int)] [.int .i64 m] rfl (by unfold maxLen; simp)).rd
      go_wp2_with fail
      refine (CA.out _ _ _ _ _ hR1).mono ?_
      rintro e wq ⟨rfl, rfl⟩
      clear s_VR f_VR z_VR s_VP f_VP z_VP
      replace VR := VR.kept (belowA w32 (.cells #[.int .i64 m] 2))
      replace VP := VP.kept (belowA w32 (.cells #[.int .i64 m] 2))
      replace ha := ha.kept (belowA w32 (.cells #[.int .i64 m] 2))
      replace hb := hb.kept (belowA w32 (.cells #[.int .i64 m] 2))
      replace H := H.kept (belowA w32 (.cells #[.int .i64 m] 2))
      replace H2 := H2.kept (belowA w32 (.cells #[.int .i64 m] 2))
      replace B := thenB B (belowA w32 (.cells #[.int .i64 m] 2))
      obtain ⟨s_VR, f_VR, z_VR⟩ := VR.open
      obtain ⟨s_VP, f_VP, z_VP⟩ := VP.open
      have Bo := B
      go_wp2_with fail
      refine (CT.out _ p2 g2 c2 d2 _ p g c0 d0 M hM.out _ H2 H (fun k hk e => by have h1 := (HLT2.out k hk).1; have h2 := (HLT1.out k e).2; omega)).mono ?_
      rintro e w9 ⟨c, d, rfl, H9, S9, -⟩
      rw [hif, hc]
      clear s_VR f_VR z_VR s_VP f_VP z_VP
      have hvb := hvr.out
      have VRN : Hid (¬ BkX p2 g2 c2 w.heap.size) := Hid.mk (fun e => by have := (HLT2.out _ e).1; (try simp at *); omega)
      replace VR := VR.sm S9 VRN.out
      have B9 := S9.below' B (by have := B.size; omega) (fun j hj => by have := (HLT2.out j hj).1; have := hvr.out; omega)
      clear S9 H H2 VP ha hb B Bo hR1
      have B := B9
      clear B9
      have VP := H9.v
      rw [hkl.out] at VP
      have CN := Hid.mk (fun w h => answer_yes p2 g2 c kl d kk w h)
      obtain ⟨s_VR, f_VR, z_VR⟩ := VR.open
      have Bo := B
      go_wp2_with fail
      refine (CN.out _ VP).mono ?_
      rintro e w33 ⟨rfl, b33⟩
      clear s_VR f_VR z_VR
      have S33 := b33.size
      replace VR := VR.kept b33
      replace H9 := H9.kept b33
      replace B := thenB B b33
      clear b33
      obtain ⟨s_VR, f_VR, z_VR⟩ := VR.open
      have Bo := B
      have OL := Hid.mk (fun b hb => (H9.o.lt b hb).1)
      have hQW := hvr.out
      clear s_VR f_VR z_VR
      have VF := Hid.mk (VR.filled [.int .i64 0, .int .i64 kk, .slice c kl d] rfl)
      have HT := Hid.mk VR.there
      have BR := belowCells B (show w.heap.size ≤ w.heap.size by (first | omega | (simp; done) | (simp; omega))) 0 [.int .i64 0, .int .i64 kk, .slice c kl d]
      replace BR := Hid.mk BR
      have HO := Hid.mk ((H9.o.mono (show w.heap.size ≤ _ by first | omega | (simp; done) | (simp; omega))).apart (B := w.heap.size) (by intro b hb; have := OL.out b hb; first | omega | (simp at this; omega)) 0 [.int .i64 0, .int .i64 kk, .slice c kl d])
      obtain ⟨s_VR, f_VR, z_VR⟩ := VR.open
      go_wp2_with (refine wpList_store_mid rfl 28 _ _ rfl (w.heap.size) 0 #[.int .i64 0, .int .i64 kk, .slice c kl d] rfl rfl HT.out (by kernel_rfl) (by kernel_rfl) ?_)
      refine bodyPost_ret (v := .agg #[.int .i64 0, .int .i64 kk, .slice c kl d]) (results_row Tryd.results7 _ _ (w.heap.size) [.int .i64 0, .int .i64 kk, .slice c kl d] _ rfl VF.out Tryd.underlying28 rfl (by kernel_rfl)) rfl ⟨c, d, rfl, HO.out, BR.out⟩
    · rw [hr]
      have HC := Hid.mk hc
      have hif : (if M.c = 0 then M.pl m else 0) = 0 := by rw [if_neg hc]
      obtain ⟨kc, hkc⟩ : ∃ k, M.c = k := ⟨_, rfl⟩
      rw [hkc] at HC ⊢
      clear hr hc
      go_enter Tryd.func7, Tryd.ntmps7
      have B := Below.refl w.heap.size w
      replace ha := ha.kept (belowA w (.cells #[.int .i64 0, .int .i64 0, .slice none 0 0] 28))
      replace hb := hb.kept (belowA w (.cells #[.int .i64 0, .int .i64 0, .slice none 0 0] 28))
      replace B := thenB B (belowA w (.cells #[.int .i64 0, .int .i64 0, .slice none 0 0] 28))
      have VR := V.new w [.int .i64 0, .int .i64 0, .slice none 0 0] 28
      obtain ⟨s_VR, f_VR, z_VR⟩ := VR.open
      have Bo := B
      go_wp2_with fail
      refine (CB.out _ ha).mono ?_
      rintro e w61 ⟨p, g, c0, d0, rfl, H, b61⟩
      clear s_VR f_VR z_VR
      have S61 := b61.size
      simp only [World.size_alloc] at S61
      replace VR := VR.kept b61
      replace ha := ha.kept b61
      replace hb := hb.kept b61
      replace B := thenB B b61
      clear b61
      obtain ⟨s_VR, f_VR, z_VR⟩ := VR.open
      have Bo := B
      have HLT1 := Hid.mk H.lt
      have hvr := Hid.mk VR.1
      go_wp2_with fail
      refine (CB2.out _ hb).mono ?_
      rintro e w62 ⟨p2, g2, c2, d2, rfl, H2, b62⟩
      clear s_VR f_VR z_VR
      have S62 := b62.size
      replace VR := VR.kept b62
      replace ha := ha.kept b62
      replace hb := hb.kept b62
      replace H := H.kept b62
      replace B := thenB B b62
      clear b62
      obtain ⟨s_VR, f_VR, z_VR⟩ := VR.open
      have Bo := B
      have HLT2 := Hid.mk H2.lt
      have VP := H.v
      rw [hn] at VP
      clear s_VR f_VR z_VR
      obtain ⟨s_VR, f_VR, z_VR⟩ := VR.open
      obtain ⟨s_VP, f_VP, z_VP⟩ := VP.open
      have Bo := B
      have hR1 := (OwnI.lit w62 [(m : Int)] [.int .i64 m] rfl (by unfold maxLen; simp)).rd
      go_wp2_with fail
      refine (CA.out _ _ _ _ _ hR1).mono ?_
      rintro e wq ⟨rfl, rfl⟩
      clear s_VR f_VR z_VR s_VP f_VP z_VP
      replace VR := VR.kept (belowA w62 (.cells #[.int .i64 m] 2))
      replace VP := VP.kept (belowA w62 (.cells #[.int .i64 m] 2))
      replace ha := ha.kept (belowA w62 (.cells #[.int .i64 m] 2))
      replace hb := hb.kept (belowA w62 (.cells #[.int .i64 m] 2))
      replace H := H.kept (belowA w62 (.cells #[.int .i64 m] 2))
      replace H2 := H2.kept (belowA w62 (.cells #[.int .i64 m] 2))
      replace B := thenB B (belowA w62 (.cells #[.int .i64 m] 2))
      obtain ⟨s_VR, f_VR, z_VR⟩ := VR.open
      obtain ⟨s_VP, f_VP, z_VP⟩ := VP.open
      have Bo := B
      go_wp2_with fail
      refine (CT.out _ p2 g2 c2 d2 _ p g c0 d0 M hM.out _ H2 H (fun k hk e => by have h1 := (HLT2.out k hk).1; have h2 := (HLT1.out k e).2; omega)).mono ?_
      rintro e w9 ⟨c, d, rfl, H9, S9, -⟩
      rw [hif, hkc]
      clear s_VR f_VR z_VR s_VP f_VP z_VP
      have hvb := hvr.out
      have VRN : Hid (¬ BkX p2 g2 c2 w.heap.size) := Hid.mk (fun e => by have := (HLT2.out _ e).1; (try simp at *); omega)
      replace VR := VR.sm S9 VRN.out
      have B9 := S9.below' B (by have := B.size; omega) (fun j hj => by have := (HLT2.out j hj).1; have := hvr.out; omega)
      clear S9 H H2 VP ha hb B Bo hR1
      have B := B9
      clear B9
      have VP := H9.v
      have CN := Hid.mk (fun w h => answer_no p2 g2 c M.tb.length d kc HC.out w h)
      have HC2 := HC.out
      obtain ⟨s_VR, f_VR, z_VR⟩ := VR.open
      have Bo := B
      go_wp2_with fail
      refine (CN.out _ VP).mono ?_
      rintro e w63 ⟨rfl, b63⟩
      clear s_VR f_VR z_VR
      have S63 := b63.size
      replace VR := VR.kept b63
      replace B := thenB B b63
      clear b63
      obtain ⟨s_VR, f_VR, z_VR⟩ := VR.open
      have Bo := B
      clear s_VR f_VR z_VR
      have VF := Hid.mk (VR.filled [.int .i64 kc, .int .i64 0, .slice none 0 0] rfl)
      have HT := Hid.mk VR.there
      have BR := belowCells B (show w.heap.size ≤ w.heap.size by (first | omega | (simp; done) | (simp; omega))) 0 [.int .i64 kc, .int .i64 0, .slice none 0 0]
      replace BR := Hid.mk BR
      obtain ⟨s_VR, f_VR, z_VR⟩ := VR.open
      go_wp2_with (refine wpList_store_mid rfl 28 _ _ rfl (w.heap.size) 0 #[.int .i64 kc, .int .i64 0, .slice none 0 0] rfl rfl HT.out (by kernel_rfl) (by kernel_rfl) ?_)
      refine bodyPost_ret (v := .agg #[.int .i64 kc, .int .i64 0, .slice none 0 0]) (results_row Tryd.results7 _ _ (w.heap.size) [.int .i64 kc, .int .i64 0, .slice none 0 0] _ rfl VF.out Tryd.underlying28 rfl (by kernel_rfl)) rfl ⟨none, 0, rfl, OwnTerm.none, BR.out⟩

end Go.Proofs.YthjaehcfakjemaaDoor

/- Terms moved: the model. -/
namespace Go.Proofs.YthjaehcfakjemaaDoor
open Go.RowKit

theorem mv_ways {x : T4} (h : 1 ≤ x.o ∧ x.o ≤ 7) (B : Bare x) (pl : Int → Int) : (kids x.o = 0 ∧ (x.o == 7) = false ∧ mvT x pl = ⟨x.o, 0, 0, x.n⟩) ∨ (kids x.o = 1 ∧ (x.o == 7) = false ∧ mvT x pl = ⟨x.o, pl x.a, 0, x.n⟩)
    ∨ (kids x.o = 2 ∧ (x.o == 7) = false ∧ mvT x pl = ⟨x.o, pl x.a, pl x.b, x.n⟩) ∨ (kids x.o = 2 ∧ x.o = 7 ∧ mvT x pl = bothT (pl x.a) (pl x.b)) := by
  obtain ⟨o, a, b, n⟩ := x
  unfold Bare at B
  simp only [beq_eq_false_iff_ne] at *
  rcases mvT_ways (t := ⟨o, a, b, n⟩) h pl with ⟨e, hr⟩ | ⟨_, e, hr⟩ | ⟨_, _, e, hk, hr⟩ | ⟨_, _, _, e, hk, hr⟩ | ⟨e1, e2, e3, e4, hk, hr⟩
  · simp only at e hr; subst e
    rw [kids1] at B
    rw [hr, B.2.1 (by decide), B.2.2 (by decide)]
    exact .inl ⟨kids1, by decide, rfl⟩
  · simp only at e hr; subst e
    rw [kids2] at B
    rw [hr, B.2.1 (by decide), B.2.2 (by decide)]
    exact .inl ⟨kids2, by decide, rfl⟩
  · simp only at e hr; subst e
    rw [kids6] at B
    rw [hr, B.1 (by decide)]
    exact .inr (.inl ⟨kids6, by decide, rfl⟩)
  · simp only at e hr; subst e
    rw [hr]
    exact .inr (.inr (.inr ⟨kids7, rfl, by unfold bothT; rfl⟩))
  · simp only [beq_eq_false_iff_ne] at *
    have hk2 : kids o = 2 := by rcases kids_cases o with h | h | h <;> omega
    rw [hr, B.1 (by omega)]
    exact .inr (.inr (.inl ⟨hk2, e4, rfl⟩))

theorem World.size_setCells (w : World) (B o : Nat) (vs : List Value) : (w.setCells B o vs).heap.size = w.heap.size := by
  induction vs generalizing w o with
  | nil => rfl
  | cons v vs ih => exact (ih _ _).trans (by simp [World.setCell])

/-- What a call of 'l5Move' leaves. -/
def MoveAt (M : Mv) (m : Nat) (w : World) (e : Ending) (w' : World) : Prop :=
  ∃ c d, e = .returned (.agg #[.int .i64 M.c, .int .i64 (if M.c = 0 then M.pl m else 0), .slice c (if M.c = 0 then M.tb else []).length d]) ∧ OwnTerm w' w.heap.size c d (if M.c = 0 then M.tb else []) ∧ Below w.heap.size w w'

theorem MoveAt.bad {M : Mv} {m : Nat} {w w' : World} {e : Ending} {kc : Int} {pl : Int → Int} {tb : List T4} (h : M = ⟨kc, pl, tb⟩) (hc : kc ≠ 0) (he : e = .returned (.agg #[.int .i64 kc, .int .i64 0, .slice none 0 0])) (B : Below w.heap.size w w') : MoveAt M m w e w' := by
  subst h
  subst he
  unfold MoveAt
  dsimp only
  rw [if_neg hc, if_neg hc]
  exact ⟨none, 0, rfl, OwnTerm.none, B⟩

theorem MoveAt.good {M : Mv} {m L : Nat} {w w' : World} {e : Ending} {pl : Int → Int} {tb : List T4} {c : Option Addr} {d : Nat} (h : ⟨0, pl, tb⟩ = M) (hL : tb.length = L) (he : e = .returned (.agg #[.int .i64 0, .int .i64 (pl m), .slice c L d])) (O : OwnTerm w' w.heap.size c d tb) (B : Below w.heap.size w w') : MoveAt M m w e w' := by
  subst h
  subst he
  subst hL
  unfold MoveAt
  dsimp only
  rw [if_pos rfl, if_pos rfl]
  exact ⟨c, d, rfl, O, B⟩

set_option maxRecDepth 20000 in
set_option maxHeartbeats 8000000 in
theorem l5Move_ok (a : Option Addr) (n ca : Nat) (fr : List T4) (m : Nat) (b : Option Addr) (nb cb : Nat) (tb : List T4) (w : World) (ha : RdTerm w a fr) (hn : fr.length = n) (hv : tfC fr = 0) (hm : m < n) (hlow : Hid (∀ b : Addr, a = some b → b.block < w.heap.size))
    (hb : RdTerm w b tb) (hnb : tb.length = nb) (hl : nb ≤ 400) (hcb : b = none → cb = 0) (M : Mv) (hM : mvR fr (prL fr m) (fun _ => 0) tb = M) :
    Calls Tryd.prog 28 #[.slice a n ca, .int .i64 m, .slice b nb cb] w (MoveAt M m w) := by
  have q1 := build_t1
  have q2 := build_tr12
  have q3 := build_tr0'
  have hn4 : n ≤ 400 := by have := (tfC_zero hv).1; omega
  have CP := Hid.mk (fun w h hl => l5Parts_ok a n ca fr m w h hn hv hm hl)
  have CC := Hid.mk (fun w h => l5Copy_ok b nb cb tb w h hnb (by omega) hcb)
  have HAh := Hid.mk (tfC_ahead hv)
  have HV := Hid.mk hv
  have HML := Hid.mk (show ∀ z ∈ prL fr m, 0 ≤ z ∧ z ≤ m from fun z hz => prL_range hz)
  have hlz := prL_len fr m
  obtain ⟨zs, hzs⟩ : ∃ zs, prL fr m = zs := ⟨_, rfl⟩
  rw [hzs] at hM CP HML hlz
  have hM0 : Hid (mvR fr (zs.drop 0) (fun _ => 0) tb = M ∧ PlOk (fun _ => 0) ∧ tb.length ≤ 400) := Hid.mk ⟨by rw [List.drop_zero]; exact hM, PlOk.zero, by omega⟩
  have HN := Hid.mk hn
  have HNB := Hid.mk hnb
  obtain ⟨i0, hi, hz0, hz1, hz2⟩ := info_parts Tryd.infoI64
  clear hv hM hzs hcb
  go_enter Tryd.func28, Tryd.ntmps28
  have B := Below.refl w.heap.size w
  replace ha := ha.kept (belowA w (.cells #[.int .i64 0, .int .i64 0, .slice none 0 0] 28))
  replace hb := hb.kept (belowA w (.cells #[.int .i64 0, .int .i64 0, .slice none 0 0] 28))
  replace B := thenB B (belowA w (.cells #[.int .i64 0, .int .i64 0, .slice none 0 0] 28))
  have VR := V.new w [.int .i64 0, .int .i64 0, .slice none 0 0] 28
  obtain ⟨s_VR, f_VR, z_VR⟩ := VR.open
  have Bo := B
  go_wp2_with fail
  refine (CP.out _ ha (Hid.mk (fun b' hb' => by have := hlow.out b' hb'; have := B.size; omega))).mono ?_
  rintro e w1 ⟨c3, d3, l, rfl, hk, OP, b1⟩
  clear s_VR f_VR z_VR
  have S1 := b1.size
  simp only [World.size_alloc] at S1
  replace VR := VR.kept b1
  replace ha := ha.kept b1
  replace hb := hb.kept b1
  replace B := thenB B b1
  clear b1
  obtain ⟨s_VR, f_VR, z_VR⟩ := VR.open
  have Bo := B
  have HPl := Hid.mk (fun ad (hq : c3 = some ad) => (OP.lt ad hq))
  go_wp2_with (at_make; go_loud (refine wpList_make_full _ rfl _ _ 38 rfl w1.heap.size 2 i0 (.int .i64 0) 1 Tryd.underlying38 hi hz0 hz1 .i64 .i64 _ _ (m + 1) rfl rfl (by omega) (by omega) (by rw [hz2]; omega) (by unfold maxLen; omega) (Nat.le_refl _) ?_))
  intro w2 hown hgrow
  have O0 : Own .i64 2 w2 w1.heap.size (some ⟨w1.heap.size, 0, none⟩) (m + 1) (tab (m + 1) (fun _ => 0)) := by
    refine Own.mk ?_ (tab_len _ _)
    rw [tab_zero]
    simpa [toList_madeCells_one] using hown
  have bg : Below w1.heap.size w1 w2 := (Sm.grown (X := fun _ => False) hgrow (fun k e => by cases e)).below' (Below.refl _ _) (Nat.le_refl _) (fun k e => e.elim)
  clear s_VR f_VR z_VR
  replace VR := VR.kept bg
  replace ha := ha.kept bg
  replace hb := hb.kept bg
  replace OP := OP.kept bg
  replace B := thenB B bg
  have hS2 : w1.heap.size < w2.heap.size := by have := O0.lt _ rfl; simp only at this; omega
  have hQ2 : w.heap.size < w1.heap.size := by have := S1; (try simp only [World.size_alloc] at this); omega
  clear hown hgrow bg hi hz0 hz1 hz2
  obtain ⟨Q, hQ⟩ : ∃ Q, w1.heap.size = Q := ⟨_, rfl⟩
  rw [hQ] at O0 hS2 hQ2 HPl ⊢
  replace HPl : Hid (∀ ad : Addr, c3 = some ad → w.heap.size < ad.block ∧ ad.block < Q) := Hid.mk (fun ad hq => by have h := HPl.out ad hq; (try simp only [World.size_alloc] at h); omega)
  clear hQ S1
  obtain ⟨s_VR, f_VR, z_VR⟩ := VR.open
  have Bo := B
  go_wp2_with fail
  refine (CC.out _ hb).mono ?_
  rintro e w2 ⟨c4, d4, rfl, OC, b2⟩
  clear s_VR f_VR z_VR
  have S2 := b2.size
  replace VR := VR.kept b2
  replace ha := ha.kept b2
  replace hb := hb.kept b2
  replace OP := OP.kept b2
  replace O0 := O0.kept b2
  replace B := thenB B b2
  clear b2
  obtain ⟨s_VR, f_VR, z_VR⟩ := VR.open
  have Bo := B
  clear s_VR f_VR z_VR
  have OC0 := OC.mono (base' := w.heap.size) (by omega)
  have hOQ := Hid.mk (fun ad (hq : c4 = some ad) => (OC.lt ad hq).1)
  have RP := Hid.mk OP.rd
  have HK := Hid.mk hk
  have hl5 : l ≤ 401 := by have := HK.out; omega
  clear hlz
  have B0 := Hid.mk B
  have O1 := Hid.mk O0
  have OC1 := Hid.mk OC0
  have VR0 := Hid.mk VR
  have HA := Hid.mk ha
  have hQZ := Hid.mk (show Q < w2.heap.size by omega)
  have hCQ : Hid (∀ ad : Addr, c4 = some ad → ad.block ≠ Q ∧ ad.block ≠ w.heap.size) := Hid.mk (fun ad hq => by have := hOQ.out ad hq; omega)
  clear ha hb O0 OC0 OC VR OP B Bo hk hOQ
  go_wp2
  go_loopw [9, 10] (fun s i wr => ∃ (k : Nat) (c' : Option Addr) (d' L : Nat) (pl : Int → Int) (tb : List T4), k ≤ l ∧ i = .int .i64 k ∧ s = .slice c' L d' ∧ Hid (tb.length = L) ∧ Hid (mvR fr (zs.drop k) pl tb = M ∧ PlOk pl ∧ tb.length ≤ 400) ∧ OwnTerm wr w.heap.size c' d' tb ∧ RdTerm wr a fr ∧ Own .i64 2 wr Q (some ⟨Q, 0, none⟩) (m + 1) (tab (m + 1) pl) ∧ Rd .i64 wr c3 zs ∧ V wr w.heap.size [.int .i64 0, .int .i64 0, .slice none 0 0] ∧ Below w.heap.size w wr ∧ Hid (Q < wr.heap.size) ∧ Hid (∀ ad : Addr, c' = some ad → ad.block ≠ Q ∧ ad.block ≠ w.heap.size)) (fun _ i _ => l - (intOf i).toNat)
  case atStart => exact ⟨0, c4, d4, nb, fun _ => 0, tb, Nat.zero_le _, rfl, rfl, HNB, hM0, OC1.out, HA.out, O1.out, RP.out, VR0.out, B0.out, hQZ, hCQ⟩
  case round =>
    clear hM0 O1 OC1 RP VR0 B0 hQZ HA hCQ
    obtain ⟨k, c1, d1, L, pl, tb, hk1, rfl, rfl, hL, hdr, OT, ha, O, RP, VR, B0, hQZ, hCQ⟩ := hrel
    by_cases hlt : k < l
    · obtain ⟨z, hz⟩ : ∃ z, zs.getD k 0 = z := ⟨_, rfl⟩
      have hk2 : (k : Int) < (l : Int) := by omega
      have hzm := HML.out z (by rw [← hz]; exact igetD_mem (by rw [HK.out]; exact hlt))
      obtain ⟨u, rfl⟩ : ∃ u : Nat, z = (u : Int) := ⟨z.toNat, by omega⟩
      have hum : u < m + 1 := by omega
      have hum1 : (u : Int) < (m : Int) + 1 := by omega
      have hun1 : (u : Int) < (n : Int) := by omega
      obtain ⟨x, hx1⟩ : ∃ x, fr.getD u zTerm = x := ⟨_, rfl⟩
      have hs := mvR_drop fr zs pl tb k (by rw [HK.out]; exact hlt) hz
      have htm : tmAt fr (u : Int) = x := by unfold tmAt; rw [Int.toNat_natCast]; exact hx1
      rw [htm, hdr.out.1] at hs
      have hBare := (tfC_nice HV.out).bare u (by rw [HN.out]; omega)
      rw [hx1] at hBare
      have hop := op_right HV.out u (by rw [HN.out]; omega) hx1
      obtain ⟨ha1, hb1⟩ := HAh.out u (by rw [HN.out]; omega)
      rw [hx1] at ha1 hb1
      have hL4 : L ≤ 400 := by have := hdr.out.2.2; have := hL.out; omega
      have CPP := Hid.mk (fun t c d w h hc => l5Put_ok c L d tb t w h hL.out (by omega) hc)
      have CB := Hid.mk (fun x y c d w h hc => l5Both_ok c L d tb x y w h hL.out (by omega) hc)
      have HPO := Hid.mk hdr.out.2.1
      have hput := put_len (xs := tb) (t := mvT x pl) hdr.out.2.2
      have hpk := put_k (xs := tb) (t := mvT x pl) hdr.out.2.2
      have HW := mv_ways hop hBare pl
      have hnc := Hid.mk (ownTerm_nocap OT)
      have HOT := Hid.mk OT
      have HO := Hid.mk O
      have HRP := Hid.mk RP
      have HVR := Hid.mk VR
      have HA := Hid.mk ha
      rcases ha with h9 | ⟨b1, o1, rfl, hca⟩
      · have := HN.out; rw [h9] at this; simp at this; omega
      obtain ⟨p0, p1, p2, p3⟩ := RdTerm.cells hca u (by rw [HN.out]; omega) x hx1
      rcases RP with h9 | ⟨g4, o4, rfl, hcp⟩
      · have := HK.out; rw [h9] at this; simp at this; omega
      have pz := hcp k (by rw [HK.out]; exact hlt)
      rw [hz] at pz
      have hg4 := HPl.out _ rfl
      simp only at hg4
      have hQw := hQZ.out
      have VRl := VR.1
      have hQc := tab_cell O hum
      have hQf := tab_frozen O u
      clear hca hcp hz hx1 htm hop hBare hdr hzm OT VR
      obtain ⟨xo, xa, xb, xn⟩ := x
      simp only at *
      rcases HW with ⟨hk, h7, hr⟩ | ⟨hk, h7, hr⟩ | ⟨hk, h7, hr⟩ | ⟨hk, h7, hr⟩
      · skip
        rw [hk] at ha1 hb1
        have CK := Hid.mk (fun w => l5Kids_ok xo w)
        rw [hk] at CK
        rw [hr] at hs hput hpk
        replace CPP := Hid.mk (fun c d w h hc => CPP.out ⟨xo, 0, 0, xn⟩ c d w h hc)
        generalize put tb ⟨xo, 0, 0, xn⟩ = P at *
        obtain ⟨kc, kk, ls⟩ := P
        simp only at *
        obtain ⟨kl, hkl⟩ : ∃ q, ls.length = q := ⟨_, rfl⟩
        rw [hkl] at CPP hput
        replace hkl := Hid.mk hkl
        clear O
        by_cases hc : kc = 0
        · skip
          subst hc
          rw [if_pos rfl] at hs
          have HS := Hid.mk hs
          clear hs
          have B := Below.refl wr.heap.size wr
          replace B := thenB B (belowA wr (.cells #[.int .i64 xo, .int .i64 xa, .int .i64 xb, .int .i64 xn] 70))
          have VX := V.new wr [.int .i64 xo, .int .i64 xa, .int .i64 xb, .int .i64 xn] 70
          obtain ⟨s_VX, f_VX, z_VX⟩ := VX.open
          have Bo := B
          go_wp2_with fail
          refine (CK.out _).mono ?_
          rintro e wq ⟨rfl, rfl⟩
          go_wp2_with fail
          refine (CK.out _).mono ?_
          rintro e wq ⟨rfl, rfl⟩
          go_wp2_with fail
          replace VX := VX.kept (belowA (wr.alloc (.cells #[.int .i64 xo, .int .i64 xa, .int .i64 xb, .int .i64 xn] 70)) (.cells #[.int .i64 xo, .int .i64 0, .int .i64 0, .int .i64 xn] 70))
          replace B := thenB B (belowA (wr.alloc (.cells #[.int .i64 xo, .int .i64 xa, .int .i64 xb, .int .i64 xn] 70)) (.cells #[.int .i64 xo, .int .i64 0, .int .i64 0, .int .i64 xn] 70))
          have VY : V ((wr.alloc (.cells #[.int .i64 xo, .int .i64 xa, .int .i64 xb, .int .i64 xn] 70)).alloc (.cells #[.int .i64 xo, .int .i64 0, .int .i64 0, .int .i64 xn] 70)) (wr.heap.size + 1) [.int .i64 xo, .int .i64 0, .int .i64 0, .int .i64 xn] := V.newAt _ _ _ _ (by simp)
          refine (CPP.out _ _ _ (HOT.out.kept B).rd hnc.out).mono ?_
          rintro e w101 ⟨c6, d6, rfl, O6, b101⟩
          clear s_VX f_VX z_VX
          have S101 := b101.size
          simp only [World.size_alloc] at S101
          replace VX := VX.kept b101
          replace VY := VY.kept b101
          replace B := thenB B b101
          clear b101
          obtain ⟨s_VX, f_VX, z_VX⟩ := VX.open
          obtain ⟨s_VY, f_VY, z_VY⟩ := VY.open
          have Bo := B
          replace VX := VX.kept (belowA w101 (.cells #[.int .i64 0, .int .i64 kk, .slice c6 kl d6] 28))
          replace VY := VY.kept (belowA w101 (.cells #[.int .i64 0, .int .i64 kk, .slice c6 kl d6] 28))
          replace O6 := O6.kept (belowA w101 (.cells #[.int .i64 0, .int .i64 kk, .slice c6 kl d6] 28))
          replace B := thenB B (belowA w101 (.cells #[.int .i64 0, .int .i64 kk, .slice c6 kl d6] 28))
          have VW := V.new w101 [.int .i64 0, .int .i64 kk, .slice c6 kl d6] 28
          clear s_VX f_VX z_VX s_VY f_VY z_VY
          obtain ⟨s_VX, f_VX, z_VX⟩ := VX.open
          obtain ⟨s_VY, f_VY, z_VY⟩ := VY.open
          obtain ⟨s_VW, f_VW, z_VW⟩ := VW.open
          have Bo := B
          clear s_VX f_VX z_VX s_VY f_VY z_VY s_VW f_VW z_VW
          have hgz := ((bcell B).1 _ _ (show g4 < wr.heap.size by omega)).trans pz
          have hQc2 := ((bcell B).1 _ _ (show Q < wr.heap.size by omega)).trans hQc
          have hQf2 := ((bcell B).2 _ _ (show Q < wr.heap.size by omega)).trans hQf
          have hsB := B.size
          have hVWl := VW.1
          have hVWQ : w101.heap.size ≠ Q := by (try simp); omega
          have hg4Q : g4 ≠ Q := by omega
          have K : ∀ w' : World, Below (w101.alloc (.cells #[.int .i64 0, .int .i64 kk, .slice c6 kl d6] 28)).heap.size (w101.alloc (.cells #[.int .i64 0, .int .i64 kk, .slice c6 kl d6] 28)) w' → (w'.cell? ⟨w101.heap.size, 0, none⟩ = some (.int .i64 0) ∧ w'.cell? ⟨w101.heap.size, 1, none⟩ = some (.int .i64 kk) ∧ w'.cell? ⟨w101.heap.size, 2, none⟩ = some (.slice c6 kl d6) ∧ w'.cell? ⟨g4, o4 + k, none⟩ = some (.int .i64 u)) := fun w' h => ⟨(VW.kept h).2.1 0 (by simp), (VW.kept h).2.1 1 (by simp), (VW.kept h).2.1 2 (by simp), ((bcell h).1 _ _ (by omega)).trans hgz⟩
          have K := Hid.mk K
          have BD : Below wr.heap.size wr (w101.alloc (.cells #[.int .i64 0, .int .i64 kk, .slice c6 kl d6] 28)).drew := thenB B (Below.refl _ _).drew
          have SQ : Sm (fun q => q = Q) (w101.alloc (.cells #[.int .i64 0, .int .i64 kk, .slice c6 kl d6] 28)).drew ((w101.alloc (.cells #[.int .i64 0, .int .i64 kk, .slice c6 kl d6] 28)).drew.setCell ⟨Q, u, none⟩ (.int .i64 kk)) := Sm.cell (X := fun q => q = Q) rfl _
          have O8 := Hid.mk (tab_store (HO.out.kept BD) u kk)
          have RP8 := Hid.mk ((HRP.out.kept BD).sm SQ (fun b hb e => by simp only [Option.some.injEq] at hb; subst hb; simp only at e; omega))
          have VR8 := Hid.mk ((HVR.out.kept BD).sm SQ (by omega))
          have A8 := Hid.mk ((HA.out.kept BD).sm SQ (fun b hb e => by simp only [Option.some.injEq] at hb; subst hb; have := hlow.out _ rfl; simp only at e this; omega))
          have hOl := Hid.mk (fun b (hb : c6 = some b) => (O6.lt b hb).1)
          have hNQ : Hid (∀ ad : Addr, c6 = some ad → ad.block ≠ Q ∧ ad.block ≠ w.heap.size) := Hid.mk (fun ad hq => by have := hOl.out ad hq; first | omega | (simp at this; omega))
          have OT8 := Hid.mk (((O6.kept (Below.refl _ _).drew).mono (base' := w.heap.size) (by first | omega | (simp; omega))).sm SQ (fun b hb e => (hNQ.out b hb).1 e))
          have B8 := Hid.mk ((thenB B0 BD).setCell (p := ⟨Q, u, none⟩) (by simp only; omega) (.int .i64 kk))
          have Q8 : Hid (Q < ((w101.alloc (.cells #[.int .i64 0, .int .i64 kk, .slice c6 kl d6] 28)).drew.setCell ⟨Q, u, none⟩ (.int .i64 kk)).heap.size) := Hid.mk (by have h1 := SQ.size; have h2 := BD.size; omega)
          have D8 : Hid (mvR fr (zs.drop (k + 1)) (updP pl u kk) ls = M ∧ PlOk (updP pl u kk) ∧ ls.length ≤ 400) := Hid.mk ⟨HS.out.symm, HPO.out.upd hpk, by rw [hkl.out]; exact hput⟩
          clear SQ BD B
          obtain ⟨s_VX, f_VX, z_VX⟩ := VX.open
          obtain ⟨s_VY, f_VY, z_VY⟩ := VY.open
          obtain ⟨s_VW, f_VW, z_VW⟩ := VW.open
          go_wp2_with fail
          clear s_VX f_VX z_VX s_VY f_VY z_VY s_VW f_VW z_VW
          refine wp_region_held_drew (S := (fun w' => w'.cell? ⟨w101.heap.size, 0, none⟩ = some (.int .i64 0) ∧ w'.cell? ⟨w101.heap.size, 1, none⟩ = some (.int .i64 kk) ∧ w'.cell? ⟨w101.heap.size, 2, none⟩ = some (.slice c6 kl d6) ∧ w'.cell? ⟨g4, o4 + k, none⟩ = some (.int .i64 u))) (by kernel_rfl) (K.out _ (Below.refl _ _).drew) (fun hHeld => ?_)
          refine wpAnyH_take (i := 0) (oi := _) (v := ?vmv100u1) rfl (by kernel_rfl) (by kernel_rfl) (by kernel_rfl) (fun _ _ _ h => h) (Or.inl ⟨by rfl, ?hymv100u1⟩) hHeld ?restmv100u1
          case hymv100u1 => (intro w hSw; (try dsimp only at hSw); go_simp; first | done | with_reducible rfl)
          try simp only [Act.put, List.getElem_toArray, List.getElem_cons_zero, List.setIfInBounds_toArray, List.set_cons_zero, List.set_cons_succ]
          refine wpAnyH_take (i := 1) (oi := _) (v := ?vmv100u2) rfl (by kernel_rfl) (by kernel_rfl) (by kernel_rfl) (fun _ _ _ h => h) (Or.inl ⟨by rfl, ?hymv100u2⟩) hHeld ?restmv100u2
          case hymv100u2 => (intro w hSw; (try dsimp only at hSw); go_simp; first | done | with_reducible rfl)
          try simp only [Act.put, List.getElem_toArray, List.getElem_cons_zero, List.getElem_cons_succ, List.setIfInBounds_toArray, List.set_cons_zero, List.set_cons_succ]
          refine wpAnyH_take (i := 2) (oi := _) (v := ?vmv100u3) rfl (by kernel_rfl) (by kernel_rfl) (by kernel_rfl) (fun _ _ _ h => h) (Or.inl ⟨by rfl, ?hymv100u3⟩) hHeld ?restmv100u3
          case hymv100u3 => (intro w hSw; (try dsimp only at hSw); go_simp; first | done | with_reducible rfl)
          try simp only [Act.put, List.getElem_toArray, List.getElem_cons_zero, List.getElem_cons_succ, List.setIfInBounds_toArray, List.set_cons_zero, List.set_cons_succ]
          refine wpAnyH_take (i := 3) (oi := _) (v := ?vmv100u4) rfl (by kernel_rfl) (by kernel_rfl) (by kernel_rfl) (fun _ _ _ h => h) (Or.inl ⟨by rfl, ?hymv100u4⟩) hHeld ?restmv100u4
          case hymv100u4 => (intro w hSw; (try dsimp only at hSw); go_simp; first | done | with_reducible rfl)
          try simp only [Act.put, List.getElem_toArray, List.getElem_cons_zero, List.getElem_cons_succ, List.setIfInBounds_toArray, List.set_cons_zero, List.set_cons_succ]
          refine wpAnyH_take (i := 4) (oi := _) (v := ?vmv100u5) rfl (by kernel_rfl) (by kernel_rfl) (by kernel_rfl) (fun _ _ _ h => h) (Or.inl ⟨by rfl, ?hymv100u5⟩) hHeld ?restmv100u5
          case hymv100u5 => (intro w hSw; (try dsimp only at hSw); go_simp; first | done | with_reducible rfl)
          try simp only [Act.put, List.getElem_toArray, List.getElem_cons_zero, List.getElem_cons_succ, List.setIfInBounds_toArray, List.set_cons_zero, List.set_cons_succ]
          refine wpAnyH_take (i := 5) (oi := _) (v := ?vmv100u6) rfl (by kernel_rfl) (by kernel_rfl) (by kernel_rfl) (fun _ _ _ h => h) (Or.inl ⟨by rfl, ?hymv100u6⟩) hHeld ?restmv100u6
          case hymv100u6 => (intro w hSw; (try dsimp only at hSw); go_simp; first | done | with_reducible rfl)
          try simp only [Act.put, List.getElem_toArray, List.getElem_cons_zero, List.getElem_cons_succ, List.setIfInBounds_toArray, List.set_cons_zero, List.set_cons_succ]
          refine wpAnyH_take (i := 6) (oi := _) (v := ?vmv100u7) rfl (by kernel_rfl) (by kernel_rfl) (by kernel_rfl) (fun _ _ _ h => h) (Or.inl ⟨by rfl, ?hymv100u7⟩) hHeld ?restmv100u7
          case hymv100u7 => (intro w hSw; (try dsimp only at hSw); go_simp; first | done | with_reducible rfl)
          try simp only [Act.put, List.getElem_toArray, List.getElem_cons_zero, List.getElem_cons_succ, List.setIfInBounds_toArray, List.set_cons_zero, List.set_cons_succ]
          refine wpAnyH_take (i := 7) (oi := _) (v := ?vmv100u8) rfl (by kernel_rfl) (by kernel_rfl) (by kernel_rfl) (fun _ _ _ h => h) (Or.inl ⟨by rfl, ?hymv100u8⟩) hHeld ?restmv100u8
          case hymv100u8 => (intro w hSw; (try dsimp only at hSw); go_simp; first | done | with_reducible rfl)
          try simp only [Act.put, List.getElem_toArray, List.getElem_cons_zero, List.getElem_cons_succ, List.setIfInBounds_toArray, List.set_cons_zero, List.set_cons_succ]
          have hd0 := (Below.refl (w101.alloc (.cells #[.int .i64 0, .int .i64 kk, .slice c6 kl d6] 28)).heap.size (w101.alloc (.cells #[.int .i64 0, .int .i64 kk, .slice c6 kl d6] 28))).drew
          have qc := ((bcell hd0).1 _ _ (show Q < (w101.alloc (.cells #[.int .i64 0, .int .i64 kk, .slice c6 kl d6] 28)).heap.size by omega)).trans hQc2
          have qf := ((bcell hd0).2 _ _ (show Q < (w101.alloc (.cells #[.int .i64 0, .int .i64 kk, .slice c6 kl d6] 28)).heap.size by omega)).trans hQf2
          have hH2 := hHeld
          try dsimp only at hH2
          obtain ⟨e1, e2, e3, e4⟩ := hH2
          refine wpAnyH_ready (rs := [8]) (by kernel_rfl) (by simp) ?_
          refine AllReadyH.cons (o := _) rfl (fun K0 hK0 => ?_) AllReadyH.nil
          go_simp
          refine hK0.out _ _ (⟨(cell_far hVWQ _).trans e1, (cell_far hVWQ _).trans e2, (cell_far hVWQ _).trans e3, (cell_far hg4Q _).trans e4⟩) (fun hHeld => ?_)
          clear hK0 K0
          try simp only [Act.put, List.getElem_toArray, List.getElem_cons_zero, List.getElem_cons_succ, List.setIfInBounds_toArray, List.set_cons_zero, List.set_cons_succ]
          refine wpAnyH_done (by kernel_rfl) ?_ _
          go_wp2
          go_roundw
          case rel => exact ⟨k + 1, c6, d6, kl, updP pl u kk, ls, by omega, by go_num, rfl, hkl, D8, OT8.out, A8.out, O8.out, RP8.out, VR8.out, B8.out, Q8, hNQ⟩
          case measure => (simp [intOf]; omega)
        · skip
          rw [if_neg hc] at hs
          have hcc : (kc != 0) = true := by simp [hc]
          have HS := Hid.mk hs
          have HC := Hid.mk hc
          clear hs hc
          have B := Below.refl wr.heap.size wr
          replace B := thenB B (belowA wr (.cells #[.int .i64 xo, .int .i64 xa, .int .i64 xb, .int .i64 xn] 70))
          have VX := V.new wr [.int .i64 xo, .int .i64 xa, .int .i64 xb, .int .i64 xn] 70
          obtain ⟨s_VX, f_VX, z_VX⟩ := VX.open
          have Bo := B
          go_wp2_with fail
          refine (CK.out _).mono ?_
          rintro e wq ⟨rfl, rfl⟩
          go_wp2_with fail
          refine (CK.out _).mono ?_
          rintro e wq ⟨rfl, rfl⟩
          go_wp2_with fail
          replace VX := VX.kept (belowA (wr.alloc (.cells #[.int .i64 xo, .int .i64 xa, .int .i64 xb, .int .i64 xn] 70)) (.cells #[.int .i64 xo, .int .i64 0, .int .i64 0, .int .i64 xn] 70))
          replace B := thenB B (belowA (wr.alloc (.cells #[.int .i64 xo, .int .i64 xa, .int .i64 xb, .int .i64 xn] 70)) (.cells #[.int .i64 xo, .int .i64 0, .int .i64 0, .int .i64 xn] 70))
          have VY : V ((wr.alloc (.cells #[.int .i64 xo, .int .i64 xa, .int .i64 xb, .int .i64 xn] 70)).alloc (.cells #[.int .i64 xo, .int .i64 0, .int .i64 0, .int .i64 xn] 70)) (wr.heap.size + 1) [.int .i64 xo, .int .i64 0, .int .i64 0, .int .i64 xn] := V.newAt _ _ _ _ (by simp)
          refine (CPP.out _ _ _ (HOT.out.kept B).rd hnc.out).mono ?_
          rintro e w111 ⟨c6, d6, rfl, O6, b111⟩
          clear s_VX f_VX z_VX
          have S111 := b111.size
          simp only [World.size_alloc] at S111
          replace VX := VX.kept b111
          replace VY := VY.kept b111
          replace B := thenB B b111
          clear b111
          obtain ⟨s_VX, f_VX, z_VX⟩ := VX.open
          obtain ⟨s_VY, f_VY, z_VY⟩ := VY.open
          have Bo := B
          replace VX := VX.kept (belowA w111 (.cells #[.int .i64 kc, .int .i64 kk, .slice c6 kl d6] 28))
          replace VY := VY.kept (belowA w111 (.cells #[.int .i64 kc, .int .i64 kk, .slice c6 kl d6] 28))
          replace O6 := O6.kept (belowA w111 (.cells #[.int .i64 kc, .int .i64 kk, .slice c6 kl d6] 28))
          replace B := thenB B (belowA w111 (.cells #[.int .i64 kc, .int .i64 kk, .slice c6 kl d6] 28))
          have VW := V.new w111 [.int .i64 kc, .int .i64 kk, .slice c6 kl d6] 28
          clear s_VX f_VX z_VX s_VY f_VY z_VY
          obtain ⟨s_VX, f_VX, z_VX⟩ := VX.open
          obtain ⟨s_VY, f_VY, z_VY⟩ := VY.open
          obtain ⟨s_VW, f_VW, z_VW⟩ := VW.open
          have Bo := B
          clear s_VX f_VX z_VX s_VY f_VY z_VY s_VW f_VW z_VW
          have VR := HVR.out.kept B
          replace B := thenB B0 B
          obtain ⟨s_VX, f_VX, z_VX⟩ := VX.open
          obtain ⟨s_VW, f_VW, z_VW⟩ := VW.open
          obtain ⟨s_VR, f_VR, z_VR⟩ := VR.open
          have Bo := B
          clear s_VX f_VX z_VX s_VW f_VW z_VW s_VR f_VR z_VR
          have VF := Hid.mk (VR.filled [.int .i64 kc, .int .i64 0, .slice none 0 0] rfl)
          have HT := Hid.mk VR.there
          have BR := belowCells B (show w.heap.size ≤ w.heap.size by (first | omega | (simp; done) | (simp; omega))) 0 [.int .i64 kc, .int .i64 0, .slice none 0 0]
          replace BR := Hid.mk BR
          obtain ⟨s_VX, f_VX, z_VX⟩ := VX.open
          obtain ⟨s_VW, f_VW, z_VW⟩ := VW.open
          obtain ⟨s_VR, f_VR, z_VR⟩ := VR.open
          go_wp2_with (refine wpList_store_mid rfl 28 _ _ rfl (w.heap.size) 0 #[.int .i64 kc, .int .i64 0, .slice none 0 0] rfl rfl HT.out (by kernel_rfl) (by kernel_rfl) ?_)
          refine bodyPost_ret (v := .agg #[.int .i64 kc, .int .i64 0, .slice none 0 0]) (results_row Tryd.results28 _ _ (w.heap.size) [.int .i64 kc, .int .i64 0, .slice none 0 0] _ rfl VF.out Tryd.underlying28 rfl (by kernel_rfl)) rfl (MoveAt.bad HS.out HC.out rfl BR.out)
      · skip
        rw [hk] at ha1 hb1
        obtain ⟨a0, a1⟩ := ha1 (by decide)
        obtain ⟨i, rfl⟩ : ∃ i : Nat, xa = (i : Int) := ⟨xa.toNat, by omega⟩
        have him : (i : Int) < (m : Int) + 1 := by omega
        have hQa := tab_cell O (i := i) (by omega)
        have CK := Hid.mk (fun w => l5Kids_ok xo w)
        rw [hk] at CK
        rw [hr] at hs hput hpk
        obtain ⟨va, hva⟩ : ∃ v, pl i = v := ⟨_, rfl⟩
        rw [hva] at hQa hs hput hpk
        replace CPP := Hid.mk (fun c d w h hc => CPP.out ⟨xo, va, 0, xn⟩ c d w h hc)
        generalize put tb ⟨xo, va, 0, xn⟩ = P at *
        obtain ⟨kc, kk, ls⟩ := P
        simp only at *
        obtain ⟨kl, hkl⟩ : ∃ q, ls.length = q := ⟨_, rfl⟩
        rw [hkl] at CPP hput
        replace hkl := Hid.mk hkl
        clear O
        by_cases hc : kc = 0
        · skip
          subst hc
          rw [if_pos rfl] at hs
          have HS := Hid.mk hs
          clear hs
          have B := Below.refl wr.heap.size wr
          replace B := thenB B (belowA wr (.cells #[.int .i64 xo, .int .i64 i, .int .i64 xb, .int .i64 xn] 70))
          have VX := V.new wr [.int .i64 xo, .int .i64 i, .int .i64 xb, .int .i64 xn] 70
          obtain ⟨s_VX, f_VX, z_VX⟩ := VX.open
          have Bo := B
          go_wp2_with fail
          refine (CK.out _).mono ?_
          rintro e wq ⟨rfl, rfl⟩
          go_wp2_with fail
          refine (CK.out _).mono ?_
          rintro e wq ⟨rfl, rfl⟩
          go_wp2_with fail
          replace VX := VX.kept (belowA (wr.alloc (.cells #[.int .i64 xo, .int .i64 i, .int .i64 xb, .int .i64 xn] 70)) (.cells #[.int .i64 xo, .int .i64 va, .int .i64 0, .int .i64 xn] 70))
          replace B := thenB B (belowA (wr.alloc (.cells #[.int .i64 xo, .int .i64 i, .int .i64 xb, .int .i64 xn] 70)) (.cells #[.int .i64 xo, .int .i64 va, .int .i64 0, .int .i64 xn] 70))
          have VY : V ((wr.alloc (.cells #[.int .i64 xo, .int .i64 i, .int .i64 xb, .int .i64 xn] 70)).alloc (.cells #[.int .i64 xo, .int .i64 va, .int .i64 0, .int .i64 xn] 70)) (wr.heap.size + 1) [.int .i64 xo, .int .i64 va, .int .i64 0, .int .i64 xn] := V.newAt _ _ _ _ (by simp)
          refine (CPP.out _ _ _ (HOT.out.kept B).rd hnc.out).mono ?_
          rintro e w201 ⟨c6, d6, rfl, O6, b201⟩
          clear s_VX f_VX z_VX
          have S201 := b201.size
          simp only [World.size_alloc] at S201
          replace VX := VX.kept b201
          replace VY := VY.kept b201
          replace B := thenB B b201
          clear b201
          obtain ⟨s_VX, f_VX, z_VX⟩ := VX.open
          obtain ⟨s_VY, f_VY, z_VY⟩ := VY.open
          have Bo := B
          replace VX := VX.kept (belowA w201 (.cells #[.int .i64 0, .int .i64 kk, .slice c6 kl d6] 28))
          replace VY := VY.kept (belowA w201 (.cells #[.int .i64 0, .int .i64 kk, .slice c6 kl d6] 28))
          replace O6 := O6.kept (belowA w201 (.cells #[.int .i64 0, .int .i64 kk, .slice c6 kl d6] 28))
          replace B := thenB B (belowA w201 (.cells #[.int .i64 0, .int .i64 kk, .slice c6 kl d6] 28))
          have VW := V.new w201 [.int .i64 0, .int .i64 kk, .slice c6 kl d6] 28
          clear s_VX f_VX z_VX s_VY f_VY z_VY
          obtain ⟨s_VX, f_VX, z_VX⟩ := VX.open
          obtain ⟨s_VY, f_VY, z_VY⟩ := VY.open
          obtain ⟨s_VW, f_VW, z_VW⟩ := VW.open
          have Bo := B
          clear s_VX f_VX z_VX s_VY f_VY z_VY s_VW f_VW z_VW
          have hgz := ((bcell B).1 _ _ (show g4 < wr.heap.size by omega)).trans pz
          have hQc2 := ((bcell B).1 _ _ (show Q < wr.heap.size by omega)).trans hQc
          have hQf2 := ((bcell B).2 _ _ (show Q < wr.heap.size by omega)).trans hQf
          have hsB := B.size
          have hVWl := VW.1
          have hVWQ : w201.heap.size ≠ Q := by (try simp); omega
          have hg4Q : g4 ≠ Q := by omega
          have K : ∀ w' : World, Below (w201.alloc (.cells #[.int .i64 0, .int .i64 kk, .slice c6 kl d6] 28)).heap.size (w201.alloc (.cells #[.int .i64 0, .int .i64 kk, .slice c6 kl d6] 28)) w' → (w'.cell? ⟨w201.heap.size, 0, none⟩ = some (.int .i64 0) ∧ w'.cell? ⟨w201.heap.size, 1, none⟩ = some (.int .i64 kk) ∧ w'.cell? ⟨w201.heap.size, 2, none⟩ = some (.slice c6 kl d6) ∧ w'.cell? ⟨g4, o4 + k, none⟩ = some (.int .i64 u)) := fun w' h => ⟨(VW.kept h).2.1 0 (by simp), (VW.kept h).2.1 1 (by simp), (VW.kept h).2.1 2 (by simp), ((bcell h).1 _ _ (by omega)).trans hgz⟩
          have K := Hid.mk K
          have BD : Below wr.heap.size wr (w201.alloc (.cells #[.int .i64 0, .int .i64 kk, .slice c6 kl d6] 28)).drew := thenB B (Below.refl _ _).drew
          have SQ : Sm (fun q => q = Q) (w201.alloc (.cells #[.int .i64 0, .int .i64 kk, .slice c6 kl d6] 28)).drew ((w201.alloc (.cells #[.int .i64 0, .int .i64 kk, .slice c6 kl d6] 28)).drew.setCell ⟨Q, u, none⟩ (.int .i64 kk)) := Sm.cell (X := fun q => q = Q) rfl _
          have O8 := Hid.mk (tab_store (HO.out.kept BD) u kk)
          have RP8 := Hid.mk ((HRP.out.kept BD).sm SQ (fun b hb e => by simp only [Option.some.injEq] at hb; subst hb; simp only at e; omega))
          have VR8 := Hid.mk ((HVR.out.kept BD).sm SQ (by omega))
          have A8 := Hid.mk ((HA.out.kept BD).sm SQ (fun b hb e => by simp only [Option.some.injEq] at hb; subst hb; have := hlow.out _ rfl; simp only at e this; omega))
          have hOl := Hid.mk (fun b (hb : c6 = some b) => (O6.lt b hb).1)
          have hNQ : Hid (∀ ad : Addr, c6 = some ad → ad.block ≠ Q ∧ ad.block ≠ w.heap.size) := Hid.mk (fun ad hq => by have := hOl.out ad hq; first | omega | (simp at this; omega))
          have OT8 := Hid.mk (((O6.kept (Below.refl _ _).drew).mono (base' := w.heap.size) (by first | omega | (simp; omega))).sm SQ (fun b hb e => (hNQ.out b hb).1 e))
          have B8 := Hid.mk ((thenB B0 BD).setCell (p := ⟨Q, u, none⟩) (by simp only; omega) (.int .i64 kk))
          have Q8 : Hid (Q < ((w201.alloc (.cells #[.int .i64 0, .int .i64 kk, .slice c6 kl d6] 28)).drew.setCell ⟨Q, u, none⟩ (.int .i64 kk)).heap.size) := Hid.mk (by have h1 := SQ.size; have h2 := BD.size; omega)
          have D8 : Hid (mvR fr (zs.drop (k + 1)) (updP pl u kk) ls = M ∧ PlOk (updP pl u kk) ∧ ls.length ≤ 400) := Hid.mk ⟨HS.out.symm, HPO.out.upd hpk, by rw [hkl.out]; exact hput⟩
          clear SQ BD B
          obtain ⟨s_VX, f_VX, z_VX⟩ := VX.open
          obtain ⟨s_VY, f_VY, z_VY⟩ := VY.open
          obtain ⟨s_VW, f_VW, z_VW⟩ := VW.open
          go_wp2_with fail
          clear s_VX f_VX z_VX s_VY f_VY z_VY s_VW f_VW z_VW
          refine wp_region_held_drew (S := (fun w' => w'.cell? ⟨w201.heap.size, 0, none⟩ = some (.int .i64 0) ∧ w'.cell? ⟨w201.heap.size, 1, none⟩ = some (.int .i64 kk) ∧ w'.cell? ⟨w201.heap.size, 2, none⟩ = some (.slice c6 kl d6) ∧ w'.cell? ⟨g4, o4 + k, none⟩ = some (.int .i64 u))) (by kernel_rfl) (K.out _ (Below.refl _ _).drew) (fun hHeld => ?_)
          refine wpAnyH_take (i := 0) (oi := _) (v := ?vmv200u1) rfl (by kernel_rfl) (by kernel_rfl) (by kernel_rfl) (fun _ _ _ h => h) (Or.inl ⟨by rfl, ?hymv200u1⟩) hHeld ?restmv200u1
          case hymv200u1 => (intro w hSw; (try dsimp only at hSw); go_simp; first | done | with_reducible rfl)
          try simp only [Act.put, List.getElem_toArray, List.getElem_cons_zero, List.setIfInBounds_toArray, List.set_cons_zero, List.set_cons_succ]
          refine wpAnyH_take (i := 1) (oi := _) (v := ?vmv200u2) rfl (by kernel_rfl) (by kernel_rfl) (by kernel_rfl) (fun _ _ _ h => h) (Or.inl ⟨by rfl, ?hymv200u2⟩) hHeld ?restmv200u2
          case hymv200u2 => (intro w hSw; (try dsimp only at hSw); go_simp; first | done | with_reducible rfl)
          try simp only [Act.put, List.getElem_toArray, List.getElem_cons_zero, List.getElem_cons_succ, List.setIfInBounds_toArray, List.set_cons_zero, List.set_cons_succ]
          refine wpAnyH_take (i := 2) (oi := _) (v := ?vmv200u3) rfl (by kernel_rfl) (by kernel_rfl) (by kernel_rfl) (fun _ _ _ h => h) (Or.inl ⟨by rfl, ?hymv200u3⟩) hHeld ?restmv200u3
          case hymv200u3 => (intro w hSw; (try dsimp only at hSw); go_simp; first | done | with_reducible rfl)
          try simp only [Act.put, List.getElem_toArray, List.getElem_cons_zero, List.getElem_cons_succ, List.setIfInBounds_toArray, List.set_cons_zero, List.set_cons_succ]
          refine wpAnyH_take (i := 3) (oi := _) (v := ?vmv200u4) rfl (by kernel_rfl) (by kernel_rfl) (by kernel_rfl) (fun _ _ _ h => h) (Or.inl ⟨by rfl, ?hymv200u4⟩) hHeld ?restmv200u4
          case hymv200u4 => (intro w hSw; (try dsimp only at hSw); go_simp; first | done | with_reducible rfl)
          try simp only [Act.put, List.getElem_toArray, List.getElem_cons_zero, List.getElem_cons_succ, List.setIfInBounds_toArray, List.set_cons_zero, List.set_cons_succ]
          refine wpAnyH_take (i := 4) (oi := _) (v := ?vmv200u5) rfl (by kernel_rfl) (by kernel_rfl) (by kernel_rfl) (fun _ _ _ h => h) (Or.inl ⟨by rfl, ?hymv200u5⟩) hHeld ?restmv200u5
          case hymv200u5 => (intro w hSw; (try dsimp only at hSw); go_simp; first | done | with_reducible rfl)
          try simp only [Act.put, List.getElem_toArray, List.getElem_cons_zero, List.getElem_cons_succ, List.setIfInBounds_toArray, List.set_cons_zero, List.set_cons_succ]
          refine wpAnyH_take (i := 5) (oi := _) (v := ?vmv200u6) rfl (by kernel_rfl) (by kernel_rfl) (by kernel_rfl) (fun _ _ _ h => h) (Or.inl ⟨by rfl, ?hymv200u6⟩) hHeld ?restmv200u6
          case hymv200u6 => (intro w hSw; (try dsimp only at hSw); go_simp; first | done | with_reducible rfl)
          try simp only [Act.put, List.getElem_toArray, List.getElem_cons_zero, List.getElem_cons_succ, List.setIfInBounds_toArray, List.set_cons_zero, List.set_cons_succ]
          refine wpAnyH_take (i := 6) (oi := _) (v := ?vmv200u7) rfl (by kernel_rfl) (by kernel_rfl) (by kernel_rfl) (fun _ _ _ h => h) (Or.inl ⟨by rfl, ?hymv200u7⟩) hHeld ?restmv200u7
          case hymv200u7 => (intro w hSw; (try dsimp only at hSw); go_simp; first | done | with_reducible rfl)
          try simp only [Act.put, List.getElem_toArray, List.getElem_cons_zero, List.getElem_cons_succ, List.setIfInBounds_toArray, List.set_cons_zero, List.set_cons_succ]
          refine wpAnyH_take (i := 7) (oi := _) (v := ?vmv200u8) rfl (by kernel_rfl) (by kernel_rfl) (by kernel_rfl) (fun _ _ _ h => h) (Or.inl ⟨by rfl, ?hymv200u8⟩) hHeld ?restmv200u8
          case hymv200u8 => (intro w hSw; (try dsimp only at hSw); go_simp; first | done | with_reducible rfl)
          try simp only [Act.put, List.getElem_toArray, List.getElem_cons_zero, List.getElem_cons_succ, List.setIfInBounds_toArray, List.set_cons_zero, List.set_cons_succ]
          have hd0 := (Below.refl (w201.alloc (.cells #[.int .i64 0, .int .i64 kk, .slice c6 kl d6] 28)).heap.size (w201.alloc (.cells #[.int .i64 0, .int .i64 kk, .slice c6 kl d6] 28))).drew
          have qc := ((bcell hd0).1 _ _ (show Q < (w201.alloc (.cells #[.int .i64 0, .int .i64 kk, .slice c6 kl d6] 28)).heap.size by omega)).trans hQc2
          have qf := ((bcell hd0).2 _ _ (show Q < (w201.alloc (.cells #[.int .i64 0, .int .i64 kk, .slice c6 kl d6] 28)).heap.size by omega)).trans hQf2
          have hH2 := hHeld
          try dsimp only at hH2
          obtain ⟨e1, e2, e3, e4⟩ := hH2
          refine wpAnyH_ready (rs := [8]) (by kernel_rfl) (by simp) ?_
          refine AllReadyH.cons (o := _) rfl (fun K0 hK0 => ?_) AllReadyH.nil
          go_simp
          refine hK0.out _ _ (⟨(cell_far hVWQ _).trans e1, (cell_far hVWQ _).trans e2, (cell_far hVWQ _).trans e3, (cell_far hg4Q _).trans e4⟩) (fun hHeld => ?_)
          clear hK0 K0
          try simp only [Act.put, List.getElem_toArray, List.getElem_cons_zero, List.getElem_cons_succ, List.setIfInBounds_toArray, List.set_cons_zero, List.set_cons_succ]
          refine wpAnyH_done (by kernel_rfl) ?_ _
          go_wp2
          go_roundw
          case rel => exact ⟨k + 1, c6, d6, kl, updP pl u kk, ls, by omega, by go_num, rfl, hkl, D8, OT8.out, A8.out, O8.out, RP8.out, VR8.out, B8.out, Q8, hNQ⟩
          case measure => (simp [intOf]; omega)
        · skip
          rw [if_neg hc] at hs
          have hcc : (kc != 0) = true := by simp [hc]
          have HS := Hid.mk hs
          have HC := Hid.mk hc
          clear hs hc
          have B := Below.refl wr.heap.size wr
          replace B := thenB B (belowA wr (.cells #[.int .i64 xo, .int .i64 i, .int .i64 xb, .int .i64 xn] 70))
          have VX := V.new wr [.int .i64 xo, .int .i64 i, .int .i64 xb, .int .i64 xn] 70
          obtain ⟨s_VX, f_VX, z_VX⟩ := VX.open
          have Bo := B
          go_wp2_with fail
          refine (CK.out _).mono ?_
          rintro e wq ⟨rfl, rfl⟩
          go_wp2_with fail
          refine (CK.out _).mono ?_
          rintro e wq ⟨rfl, rfl⟩
          go_wp2_with fail
          replace VX := VX.kept (belowA (wr.alloc (.cells #[.int .i64 xo, .int .i64 i, .int .i64 xb, .int .i64 xn] 70)) (.cells #[.int .i64 xo, .int .i64 va, .int .i64 0, .int .i64 xn] 70))
          replace B := thenB B (belowA (wr.alloc (.cells #[.int .i64 xo, .int .i64 i, .int .i64 xb, .int .i64 xn] 70)) (.cells #[.int .i64 xo, .int .i64 va, .int .i64 0, .int .i64 xn] 70))
          have VY : V ((wr.alloc (.cells #[.int .i64 xo, .int .i64 i, .int .i64 xb, .int .i64 xn] 70)).alloc (.cells #[.int .i64 xo, .int .i64 va, .int .i64 0, .int .i64 xn] 70)) (wr.heap.size + 1) [.int .i64 xo, .int .i64 va, .int .i64 0, .int .i64 xn] := V.newAt _ _ _ _ (by simp)
          refine (CPP.out _ _ _ (HOT.out.kept B).rd hnc.out).mono ?_
          rintro e w211 ⟨c6, d6, rfl, O6, b211⟩
          clear s_VX f_VX z_VX
          have S211 := b211.size
          simp only [World.size_alloc] at S211
          replace VX := VX.kept b211
          replace VY := VY.kept b211
          replace B := thenB B b211
          clear b211
          obtain ⟨s_VX, f_VX, z_VX⟩ := VX.open
          obtain ⟨s_VY, f_VY, z_VY⟩ := VY.open
          have Bo := B
          replace VX := VX.kept (belowA w211 (.cells #[.int .i64 kc, .int .i64 kk, .slice c6 kl d6] 28))
          replace VY := VY.kept (belowA w211 (.cells #[.int .i64 kc, .int .i64 kk, .slice c6 kl d6] 28))
          replace O6 := O6.kept (belowA w211 (.cells #[.int .i64 kc, .int .i64 kk, .slice c6 kl d6] 28))
          replace B := thenB B (belowA w211 (.cells #[.int .i64 kc, .int .i64 kk, .slice c6 kl d6] 28))
          have VW := V.new w211 [.int .i64 kc, .int .i64 kk, .slice c6 kl d6] 28
          clear s_VX f_VX z_VX s_VY f_VY z_VY
          obtain ⟨s_VX, f_VX, z_VX⟩ := VX.open
          obtain ⟨s_VY, f_VY, z_VY⟩ := VY.open
          obtain ⟨s_VW, f_VW, z_VW⟩ := VW.open
          have Bo := B
          clear s_VX f_VX z_VX s_VY f_VY z_VY s_VW f_VW z_VW
          have VR := HVR.out.kept B
          replace B := thenB B0 B
          obtain ⟨s_VX, f_VX, z_VX⟩ := VX.open
          obtain ⟨s_VW, f_VW, z_VW⟩ := VW.open
          obtain ⟨s_VR, f_VR, z_VR⟩ := VR.open
          have Bo := B
          clear s_VX f_VX z_VX s_VW f_VW z_VW s_VR f_VR z_VR
          have VF := Hid.mk (VR.filled [.int .i64 kc, .int .i64 0, .slice none 0 0] rfl)
          have HT := Hid.mk VR.there
          have BR := belowCells B (show w.heap.size ≤ w.heap.size by (first | omega | (simp; done) | (simp; omega))) 0 [.int .i64 kc, .int .i64 0, .slice none 0 0]
          replace BR := Hid.mk BR
          obtain ⟨s_VX, f_VX, z_VX⟩ := VX.open
          obtain ⟨s_VW, f_VW, z_VW⟩ := VW.open
          obtain ⟨s_VR, f_VR, z_VR⟩ := VR.open
          go_wp2_with (refine wpList_store_mid rfl 28 _ _ rfl (w.heap.size) 0 #[.int .i64 kc, .int .i64 0, .slice none 0 0] rfl rfl HT.out (by kernel_rfl) (by kernel_rfl) ?_)
          refine bodyPost_ret (v := .agg #[.int .i64 kc, .int .i64 0, .slice none 0 0]) (results_row Tryd.results28 _ _ (w.heap.size) [.int .i64 kc, .int .i64 0, .slice none 0 0] _ rfl VF.out Tryd.underlying28 rfl (by kernel_rfl)) rfl (MoveAt.bad HS.out HC.out rfl BR.out)
      · skip
        rw [hk] at ha1 hb1
        obtain ⟨a0, a1⟩ := ha1 (by decide)
        obtain ⟨i, rfl⟩ : ∃ i : Nat, xa = (i : Int) := ⟨xa.toNat, by omega⟩
        have him : (i : Int) < (m : Int) + 1 := by omega
        have hQa := tab_cell O (i := i) (by omega)
        obtain ⟨b0, b9⟩ := hb1 (by decide)
        obtain ⟨j, rfl⟩ : ∃ j : Nat, xb = (j : Int) := ⟨xb.toNat, by omega⟩
        have hjm : (j : Int) < (m : Int) + 1 := by omega
        have hQb := tab_cell O (i := j) (by omega)
        have CK := Hid.mk (fun w => l5Kids_ok xo w)
        rw [hk] at CK
        rw [hr] at hs hput hpk
        obtain ⟨va, hva⟩ : ∃ v, pl i = v := ⟨_, rfl⟩
        rw [hva] at hQa hs hput hpk
        obtain ⟨vb, hvb⟩ : ∃ v, pl j = v := ⟨_, rfl⟩
        rw [hvb] at hQb hs hput hpk
        replace CPP := Hid.mk (fun c d w h hc => CPP.out ⟨xo, va, vb, xn⟩ c d w h hc)
        generalize put tb ⟨xo, va, vb, xn⟩ = P at *
        obtain ⟨kc, kk, ls⟩ := P
        simp only at *
        obtain ⟨kl, hkl⟩ : ∃ q, ls.length = q := ⟨_, rfl⟩
        rw [hkl] at CPP hput
        replace hkl := Hid.mk hkl
        clear O
        by_cases hc : kc = 0
        · skip
          subst hc
          rw [if_pos rfl] at hs
          have HS := Hid.mk hs
          clear hs
          have B := Below.refl wr.heap.size wr
          replace B := thenB B (belowA wr (.cells #[.int .i64 xo, .int .i64 i, .int .i64 j, .int .i64 xn] 70))
          have VX := V.new wr [.int .i64 xo, .int .i64 i, .int .i64 j, .int .i64 xn] 70
          obtain ⟨s_VX, f_VX, z_VX⟩ := VX.open
          have Bo := B
          go_wp2_with fail
          refine (CK.out _).mono ?_
          rintro e wq ⟨rfl, rfl⟩
          go_wp2_with fail
          refine (CK.out _).mono ?_
          rintro e wq ⟨rfl, rfl⟩
          go_wp2_with fail
          replace VX := VX.kept (belowA (wr.alloc (.cells #[.int .i64 xo, .int .i64 i, .int .i64 j, .int .i64 xn] 70)) (.cells #[.int .i64 xo, .int .i64 va, .int .i64 vb, .int .i64 xn] 70))
          replace B := thenB B (belowA (wr.alloc (.cells #[.int .i64 xo, .int .i64 i, .int .i64 j, .int .i64 xn] 70)) (.cells #[.int .i64 xo, .int .i64 va, .int .i64 vb, .int .i64 xn] 70))
          have VY : V ((wr.alloc (.cells #[.int .i64 xo, .int .i64 i, .int .i64 j, .int .i64 xn] 70)).alloc (.cells #[.int .i64 xo, .int .i64 va, .int .i64 vb, .int .i64 xn] 70)) (wr.heap.size + 1) [.int .i64 xo, .int .i64 va, .int .i64 vb, .int .i64 xn] := V.newAt _ _ _ _ (by simp)
          refine (CPP.out _ _ _ (HOT.out.kept B).rd hnc.out).mono ?_
          rintro e w301 ⟨c6, d6, rfl, O6, b301⟩
          clear s_VX f_VX z_VX
          have S301 := b301.size
          simp only [World.size_alloc] at S301
          replace VX := VX.kept b301
          replace VY := VY.kept b301
          replace B := thenB B b301
          clear b301
          obtain ⟨s_VX, f_VX, z_VX⟩ := VX.open
          obtain ⟨s_VY, f_VY, z_VY⟩ := VY.open
          have Bo := B
          replace VX := VX.kept (belowA w301 (.cells #[.int .i64 0, .int .i64 kk, .slice c6 kl d6] 28))
          replace VY := VY.kept (belowA w301 (.cells #[.int .i64 0, .int .i64 kk, .slice c6 kl d6] 28))
          replace O6 := O6.kept (belowA w301 (.cells #[.int .i64 0, .int .i64 kk, .slice c6 kl d6] 28))
          replace B := thenB B (belowA w301 (.cells #[.int .i64 0, .int .i64 kk, .slice c6 kl d6] 28))
          have VW := V.new w301 [.int .i64 0, .int .i64 kk, .slice c6 kl d6] 28
          clear s_VX f_VX z_VX s_VY f_VY z_VY
          obtain ⟨s_VX, f_VX, z_VX⟩ := VX.open
          obtain ⟨s_VY, f_VY, z_VY⟩ := VY.open
          obtain ⟨s_VW, f_VW, z_VW⟩ := VW.open
          have Bo := B
          clear s_VX f_VX z_VX s_VY f_VY z_VY s_VW f_VW z_VW
          have hgz := ((bcell B).1 _ _ (show g4 < wr.heap.size by omega)).trans pz
          have hQc2 := ((bcell B).1 _ _ (show Q < wr.heap.size by omega)).trans hQc
          have hQf2 := ((bcell B).2 _ _ (show Q < wr.heap.size by omega)).trans hQf
          have hsB := B.size
          have hVWl := VW.1
          have hVWQ : w301.heap.size ≠ Q := by (try simp); omega
          have hg4Q : g4 ≠ Q := by omega
          have K : ∀ w' : World, Below (w301.alloc (.cells #[.int .i64 0, .int .i64 kk, .slice c6 kl d6] 28)).heap.size (w301.alloc (.cells #[.int .i64 0, .int .i64 kk, .slice c6 kl d6] 28)) w' → (w'.cell? ⟨w301.heap.size, 0, none⟩ = some (.int .i64 0) ∧ w'.cell? ⟨w301.heap.size, 1, none⟩ = some (.int .i64 kk) ∧ w'.cell? ⟨w301.heap.size, 2, none⟩ = some (.slice c6 kl d6) ∧ w'.cell? ⟨g4, o4 + k, none⟩ = some (.int .i64 u)) := fun w' h => ⟨(VW.kept h).2.1 0 (by simp), (VW.kept h).2.1 1 (by simp), (VW.kept h).2.1 2 (by simp), ((bcell h).1 _ _ (by omega)).trans hgz⟩
          have K := Hid.mk K
          have BD : Below wr.heap.size wr (w301.alloc (.cells #[.int .i64 0, .int .i64 kk, .slice c6 kl d6] 28)).drew := thenB B (Below.refl _ _).drew
          have SQ : Sm (fun q => q = Q) (w301.alloc (.cells #[.int .i64 0, .int .i64 kk, .slice c6 kl d6] 28)).drew ((w301.alloc (.cells #[.int .i64 0, .int .i64 kk, .slice c6 kl d6] 28)).drew.setCell ⟨Q, u, none⟩ (.int .i64 kk)) := Sm.cell (X := fun q => q = Q) rfl _
          have O8 := Hid.mk (tab_store (HO.out.kept BD) u kk)
          have RP8 := Hid.mk ((HRP.out.kept BD).sm SQ (fun b hb e => by simp only [Option.some.injEq] at hb; subst hb; simp only at e; omega))
          have VR8 := Hid.mk ((HVR.out.kept BD).sm SQ (by omega))
          have A8 := Hid.mk ((HA.out.kept BD).sm SQ (fun b hb e => by simp only [Option.some.injEq] at hb; subst hb; have := hlow.out _ rfl; simp only at e this; omega))
          have hOl := Hid.mk (fun b (hb : c6 = some b) => (O6.lt b hb).1)
          have hNQ : Hid (∀ ad : Addr, c6 = some ad → ad.block ≠ Q ∧ ad.block ≠ w.heap.size) := Hid.mk (fun ad hq => by have := hOl.out ad hq; first | omega | (simp at this; omega))
          have OT8 := Hid.mk (((O6.kept (Below.refl _ _).drew).mono (base' := w.heap.size) (by first | omega | (simp; omega))).sm SQ (fun b hb e => (hNQ.out b hb).1 e))
          have B8 := Hid.mk ((thenB B0 BD).setCell (p := ⟨Q, u, none⟩) (by simp only; omega) (.int .i64 kk))
          have Q8 : Hid (Q < ((w301.alloc (.cells #[.int .i64 0, .int .i64 kk, .slice c6 kl d6] 28)).drew.setCell ⟨Q, u, none⟩ (.int .i64 kk)).heap.size) := Hid.mk (by have h1 := SQ.size; have h2 := BD.size; omega)
          have D8 : Hid (mvR fr (zs.drop (k + 1)) (updP pl u kk) ls = M ∧ PlOk (updP pl u kk) ∧ ls.length ≤ 400) := Hid.mk ⟨HS.out.symm, HPO.out.upd hpk, by rw [hkl.out]; exact hput⟩
          clear SQ BD B
          obtain ⟨s_VX, f_VX, z_VX⟩ := VX.open
          obtain ⟨s_VY, f_VY, z_VY⟩ := VY.open
          obtain ⟨s_VW, f_VW, z_VW⟩ := VW.open
          go_wp2_with fail
          clear s_VX f_VX z_VX s_VY f_VY z_VY s_VW f_VW z_VW
          refine wp_region_held_drew (S := (fun w' => w'.cell? ⟨w301.heap.size, 0, none⟩ = some (.int .i64 0) ∧ w'.cell? ⟨w301.heap.size, 1, none⟩ = some (.int .i64 kk) ∧ w'.cell? ⟨w301.heap.size, 2, none⟩ = some (.slice c6 kl d6) ∧ w'.cell? ⟨g4, o4 + k, none⟩ = some (.int .i64 u))) (by kernel_rfl) (K.out _ (Below.refl _ _).drew) (fun hHeld => ?_)
          refine wpAnyH_take (i := 0) (oi := _) (v := ?vmv300u1) rfl (by kernel_rfl) (by kernel_rfl) (by kernel_rfl) (fun _ _ _ h => h) (Or.inl ⟨by rfl, ?hymv300u1⟩) hHeld ?restmv300u1
          case hymv300u1 => (intro w hSw; (try dsimp only at hSw); go_simp; first | done | with_reducible rfl)
          try simp only [Act.put, List.getElem_toArray, List.getElem_cons_zero, List.setIfInBounds_toArray, List.set_cons_zero, List.set_cons_succ]
          refine wpAnyH_take (i := 1) (oi := _) (v := ?vmv300u2) rfl (by kernel_rfl) (by kernel_rfl) (by kernel_rfl) (fun _ _ _ h => h) (Or.inl ⟨by rfl, ?hymv300u2⟩) hHeld ?restmv300u2
          case hymv300u2 => (intro w hSw; (try dsimp only at hSw); go_simp; first | done | with_reducible rfl)
          try simp only [Act.put, List.getElem_toArray, List.getElem_cons_zero, List.getElem_cons_succ, List.setIfInBounds_toArray, List.set_cons_zero, List.set_cons_succ]
          refine wpAnyH_take (i := 2) (oi := _) (v := ?vmv300u3) rfl (by kernel_rfl) (by kernel_rfl) (by kernel_rfl) (fun _ _ _ h => h) (Or.inl ⟨by rfl, ?hymv300u3⟩) hHeld ?restmv300u3
          case hymv300u3 => (intro w hSw; (try dsimp only at hSw); go_simp; first | done | with_reducible rfl)
          try simp only [Act.put, List.getElem_toArray, List.getElem_cons_zero, List.getElem_cons_succ, List.setIfInBounds_toArray, List.set_cons_zero, List.set_cons_succ]
          refine wpAnyH_take (i := 3) (oi := _) (v := ?vmv300u4) rfl (by kernel_rfl) (by kernel_rfl) (by kernel_rfl) (fun _ _ _ h => h) (Or.inl ⟨by rfl, ?hymv300u4⟩) hHeld ?restmv300u4
          case hymv300u4 => (intro w hSw; (try dsimp only at hSw); go_simp; first | done | with_reducible rfl)
          try simp only [Act.put, List.getElem_toArray, List.getElem_cons_zero, List.getElem_cons_succ, List.setIfInBounds_toArray, List.set_cons_zero, List.set_cons_succ]
          refine wpAnyH_take (i := 4) (oi := _) (v := ?vmv300u5) rfl (by kernel_rfl) (by kernel_rfl) (by kernel_rfl) (fun _ _ _ h => h) (Or.inl ⟨by rfl, ?hymv300u5⟩) hHeld ?restmv300u5
          case hymv300u5 => (intro w hSw; (try dsimp only at hSw); go_simp; first | done | with_reducible rfl)
          try simp only [Act.put, List.getElem_toArray, List.getElem_cons_zero, List.getElem_cons_succ, List.setIfInBounds_toArray, List.set_cons_zero, List.set_cons_succ]
          refine wpAnyH_take (i := 5) (oi := _) (v := ?vmv300u6) rfl (by kernel_rfl) (by kernel_rfl) (by kernel_rfl) (fun _ _ _ h => h) (Or.inl ⟨by rfl, ?hymv300u6⟩) hHeld ?restmv300u6
          case hymv300u6 => (intro w hSw; (try dsimp only at hSw); go_simp; first | done | with_reducible rfl)
          try simp only [Act.put, List.getElem_toArray, List.getElem_cons_zero, List.getElem_cons_succ, List.setIfInBounds_toArray, List.set_cons_zero, List.set_cons_succ]
          refine wpAnyH_take (i := 6) (oi := _) (v := ?vmv300u7) rfl (by kernel_rfl) (by kernel_rfl) (by kernel_rfl) (fun _ _ _ h => h) (Or.inl ⟨by rfl, ?hymv300u7⟩) hHeld ?restmv300u7
          case hymv300u7 => (intro w hSw; (try dsimp only at hSw); go_simp; first | done | with_reducible rfl)
          try simp only [Act.put, List.getElem_toArray, List.getElem_cons_zero, List.getElem_cons_succ, List.setIfInBounds_toArray, List.set_cons_zero, List.set_cons_succ]
          refine wpAnyH_take (i := 7) (oi := _) (v := ?vmv300u8) rfl (by kernel_rfl) (by kernel_rfl) (by kernel_rfl) (fun _ _ _ h => h) (Or.inl ⟨by rfl, ?hymv300u8⟩) hHeld ?restmv300u8
          case hymv300u8 => (intro w hSw; (try dsimp only at hSw); go_simp; first | done | with_reducible rfl)
          try simp only [Act.put, List.getElem_toArray, List.getElem_cons_zero, List.getElem_cons_succ, List.setIfInBounds_toArray, List.set_cons_zero, List.set_cons_succ]
          have hd0 := (Below.refl (w301.alloc (.cells #[.int .i64 0, .int .i64 kk, .slice c6 kl d6] 28)).heap.size (w301.alloc (.cells #[.int .i64 0, .int .i64 kk, .slice c6 kl d6] 28))).drew
          have qc := ((bcell hd0).1 _ _ (show Q < (w301.alloc (.cells #[.int .i64 0, .int .i64 kk, .slice c6 kl d6] 28)).heap.size by omega)).trans hQc2
          have qf := ((bcell hd0).2 _ _ (show Q < (w301.alloc (.cells #[.int .i64 0, .int .i64 kk, .slice c6 kl d6] 28)).heap.size by omega)).trans hQf2
          have hH2 := hHeld
          try dsimp only at hH2
          obtain ⟨e1, e2, e3, e4⟩ := hH2
          refine wpAnyH_ready (rs := [8]) (by kernel_rfl) (by simp) ?_
          refine AllReadyH.cons (o := _) rfl (fun K0 hK0 => ?_) AllReadyH.nil
          go_simp
          refine hK0.out _ _ (⟨(cell_far hVWQ _).trans e1, (cell_far hVWQ _).trans e2, (cell_far hVWQ _).trans e3, (cell_far hg4Q _).trans e4⟩) (fun hHeld => ?_)
          clear hK0 K0
          try simp only [Act.put, List.getElem_toArray, List.getElem_cons_zero, List.getElem_cons_succ, List.setIfInBounds_toArray, List.set_cons_zero, List.set_cons_succ]
          refine wpAnyH_done (by kernel_rfl) ?_ _
          go_wp2
          go_roundw
          case rel => exact ⟨k + 1, c6, d6, kl, updP pl u kk, ls, by omega, by go_num, rfl, hkl, D8, OT8.out, A8.out, O8.out, RP8.out, VR8.out, B8.out, Q8, hNQ⟩
          case measure => (simp [intOf]; omega)
        · skip
          rw [if_neg hc] at hs
          have hcc : (kc != 0) = true := by simp [hc]
          have HS := Hid.mk hs
          have HC := Hid.mk hc
          clear hs hc
          have B := Below.refl wr.heap.size wr
          replace B := thenB B (belowA wr (.cells #[.int .i64 xo, .int .i64 i, .int .i64 j, .int .i64 xn] 70))
          have VX := V.new wr [.int .i64 xo, .int .i64 i, .int .i64 j, .int .i64 xn] 70
          obtain ⟨s_VX, f_VX, z_VX⟩ := VX.open
          have Bo := B
          go_wp2_with fail
          refine (CK.out _).mono ?_
          rintro e wq ⟨rfl, rfl⟩
          go_wp2_with fail
          refine (CK.out _).mono ?_
          rintro e wq ⟨rfl, rfl⟩
          go_wp2_with fail
          replace VX := VX.kept (belowA (wr.alloc (.cells #[.int .i64 xo, .int .i64 i, .int .i64 j, .int .i64 xn] 70)) (.cells #[.int .i64 xo, .int .i64 va, .int .i64 vb, .int .i64 xn] 70))
          replace B := thenB B (belowA (wr.alloc (.cells #[.int .i64 xo, .int .i64 i, .int .i64 j, .int .i64 xn] 70)) (.cells #[.int .i64 xo, .int .i64 va, .int .i64 vb, .int .i64 xn] 70))
          have VY : V ((wr.alloc (.cells #[.int .i64 xo, .int .i64 i, .int .i64 j, .int .i64 xn] 70)).alloc (.cells #[.int .i64 xo, .int .i64 va, .int .i64 vb, .int .i64 xn] 70)) (wr.heap.size + 1) [.int .i64 xo, .int .i64 va, .int .i64 vb, .int .i64 xn] := V.newAt _ _ _ _ (by simp)
          refine (CPP.out _ _ _ (HOT.out.kept B).rd hnc.out).mono ?_
          rintro e w311 ⟨c6, d6, rfl, O6, b311⟩
          clear s_VX f_VX z_VX
          have S311 := b311.size
          simp only [World.size_alloc] at S311
          replace VX := VX.kept b311
          replace VY := VY.kept b311
          replace B := thenB B b311
          clear b311
          obtain ⟨s_VX, f_VX, z_VX⟩ := VX.open
          obtain ⟨s_VY, f_VY, z_VY⟩ := VY.open
          have Bo := B
          replace VX := VX.kept (belowA w311 (.cells #[.int .i64 kc, .int .i64 kk, .slice c6 kl d6] 28))
          replace VY := VY.kept (belowA w311 (.cells #[.int .i64 kc, .int .i64 kk, .slice c6 kl d6] 28))
          replace O6 := O6.kept (belowA w311 (.cells #[.int .i64 kc, .int .i64 kk, .slice c6 kl d6] 28))
          replace B := thenB B (belowA w311 (.cells #[.int .i64 kc, .int .i64 kk, .slice c6 kl d6] 28))
          have VW := V.new w311 [.int .i64 kc, .int .i64 kk, .slice c6 kl d6] 28
          clear s_VX f_VX z_VX s_VY f_VY z_VY
          obtain ⟨s_VX, f_VX, z_VX⟩ := VX.open
          obtain ⟨s_VY, f_VY, z_VY⟩ := VY.open
          obtain ⟨s_VW, f_VW, z_VW⟩ := VW.open
          have Bo := B
          clear s_VX f_VX z_VX s_VY f_VY z_VY s_VW f_VW z_VW
          have VR := HVR.out.kept B
          replace B := thenB B0 B
          obtain ⟨s_VX, f_VX, z_VX⟩ := VX.open
          obtain ⟨s_VW, f_VW, z_VW⟩ := VW.open
          obtain ⟨s_VR, f_VR, z_VR⟩ := VR.open
          have Bo := B
          clear s_VX f_VX z_VX s_VW f_VW z_VW s_VR f_VR z_VR
          have VF := Hid.mk (VR.filled [.int .i64 kc, .int .i64 0, .slice none 0 0] rfl)
          have HT := Hid.mk VR.there
          have BR := belowCells B (show w.heap.size ≤ w.heap.size by (first | omega | (simp; done) | (simp; omega))) 0 [.int .i64 kc, .int .i64 0, .slice none 0 0]
          replace BR := Hid.mk BR
          obtain ⟨s_VX, f_VX, z_VX⟩ := VX.open
          obtain ⟨s_VW, f_VW, z_VW⟩ := VW.open
          obtain ⟨s_VR, f_VR, z_VR⟩ := VR.open
          go_wp2_with (refine wpList_store_mid rfl 28 _ _ rfl (w.heap.size) 0 #[.int .i64 kc, .int .i64 0, .slice none 0 0] rfl rfl HT.out (by kernel_rfl) (by kernel_rfl) ?_)
          refine bodyPost_ret (v := .agg #[.int .i64 kc, .int .i64 0, .slice none 0 0]) (results_row Tryd.results28 _ _ (w.heap.size) [.int .i64 kc, .int .i64 0, .slice none 0 0] _ rfl VF.out Tryd.underlying28 rfl (by kernel_rfl)) rfl (MoveAt.bad HS.out HC.out rfl BR.out)
      · skip
        rw [hk] at ha1 hb1
        obtain ⟨a0, a1⟩ := ha1 (by decide)
        obtain ⟨i, rfl⟩ : ∃ i : Nat, xa = (i : Int) := ⟨xa.toNat, by omega⟩
        have him : (i : Int) < (m : Int) + 1 := by omega
        have hQa := tab_cell O (i := i) (by omega)
        obtain ⟨b0, b9⟩ := hb1 (by decide)
        obtain ⟨j, rfl⟩ : ∃ j : Nat, xb = (j : Int) := ⟨xb.toNat, by omega⟩
        have hjm : (j : Int) < (m : Int) + 1 := by omega
        have hQb := tab_cell O (i := j) (by omega)
        have CK := Hid.mk (fun w => l5Kids_ok xo w)
        rw [hk] at CK
        rw [hr] at hs hput hpk
        obtain ⟨va, hva⟩ : ∃ v, pl i = v := ⟨_, rfl⟩
        rw [hva] at hQa hs hput hpk
        obtain ⟨vb, hvb⟩ : ∃ v, pl j = v := ⟨_, rfl⟩
        rw [hvb] at hQb hs hput hpk
        replace CPP := Hid.mk (fun c d w h hc => CPP.out ⟨xo, va, vb, xn⟩ c d w h hc)
        replace CB := Hid.mk (fun c d w h hc => CB.out va vb c d w h hc)
        subst h7
        generalize put tb (bothT va vb) = P at *
        generalize put tb ⟨7, va, vb, xn⟩ = P0 at *
        obtain ⟨kc0, kk0, ls0⟩ := P0
        obtain ⟨kc, kk, ls⟩ := P
        simp only at *
        obtain ⟨kl, hkl⟩ : ∃ q, ls.length = q := ⟨_, rfl⟩
        rw [hkl] at CB hput
        replace hkl := Hid.mk hkl
        obtain ⟨kl0, hkl0⟩ : ∃ q, ls0.length = q := ⟨_, rfl⟩
        rw [hkl0] at CPP
        clear O
        by_cases hc : kc = 0
        · skip
          subst hc
          rw [if_pos rfl] at hs
          have HS := Hid.mk hs
          clear hs
          have B := Below.refl wr.heap.size wr
          replace B := thenB B (belowA wr (.cells #[.int .i64 7, .int .i64 i, .int .i64 j, .int .i64 xn] 70))
          have VX := V.new wr [.int .i64 7, .int .i64 i, .int .i64 j, .int .i64 xn] 70
          obtain ⟨s_VX, f_VX, z_VX⟩ := VX.open
          have Bo := B
          go_wp2_with fail
          refine (CK.out _).mono ?_
          rintro e wq ⟨rfl, rfl⟩
          go_wp2_with fail
          refine (CK.out _).mono ?_
          rintro e wq ⟨rfl, rfl⟩
          go_wp2_with fail
          replace VX := VX.kept (belowA (wr.alloc (.cells #[.int .i64 7, .int .i64 i, .int .i64 j, .int .i64 xn] 70)) (.cells #[.int .i64 7, .int .i64 va, .int .i64 vb, .int .i64 xn] 70))
          replace B := thenB B (belowA (wr.alloc (.cells #[.int .i64 7, .int .i64 i, .int .i64 j, .int .i64 xn] 70)) (.cells #[.int .i64 7, .int .i64 va, .int .i64 vb, .int .i64 xn] 70))
          have VY : V ((wr.alloc (.cells #[.int .i64 7, .int .i64 i, .int .i64 j, .int .i64 xn] 70)).alloc (.cells #[.int .i64 7, .int .i64 va, .int .i64 vb, .int .i64 xn] 70)) (wr.heap.size + 1) [.int .i64 7, .int .i64 va, .int .i64 vb, .int .i64 xn] := V.newAt _ _ _ _ (by simp)
          refine (CPP.out _ _ _ (HOT.out.kept B).rd hnc.out).mono ?_
          rintro e w401 ⟨c6, d6, rfl, O6, b401⟩
          clear s_VX f_VX z_VX
          have S401 := b401.size
          simp only [World.size_alloc] at S401
          replace VX := VX.kept b401
          replace VY := VY.kept b401
          replace B := thenB B b401
          clear b401
          obtain ⟨s_VX, f_VX, z_VX⟩ := VX.open
          obtain ⟨s_VY, f_VY, z_VY⟩ := VY.open
          have Bo := B
          replace VX := VX.kept (belowA w401 (.cells #[.int .i64 kc0, .int .i64 kk0, .slice c6 kl0 d6] 28))
          replace VY := VY.kept (belowA w401 (.cells #[.int .i64 kc0, .int .i64 kk0, .slice c6 kl0 d6] 28))
          replace O6 := O6.kept (belowA w401 (.cells #[.int .i64 kc0, .int .i64 kk0, .slice c6 kl0 d6] 28))
          replace B := thenB B (belowA w401 (.cells #[.int .i64 kc0, .int .i64 kk0, .slice c6 kl0 d6] 28))
          have VW := V.new w401 [.int .i64 kc0, .int .i64 kk0, .slice c6 kl0 d6] 28
          clear s_VX f_VX z_VX s_VY f_VY z_VY
          obtain ⟨s_VX, f_VX, z_VX⟩ := VX.open
          obtain ⟨s_VY, f_VY, z_VY⟩ := VY.open
          obtain ⟨s_VW, f_VW, z_VW⟩ := VW.open
          have Bo := B
          go_wp2_with fail
          refine (CB.out _ _ _ (HOT.out.kept B).rd hnc.out).mono ?_
          rintro e w402 ⟨c7, d7, rfl, O7, b402⟩
          clear s_VX f_VX z_VX s_VY f_VY z_VY s_VW f_VW z_VW
          have S402 := b402.size
          simp only [World.size_alloc] at S402
          replace VX := VX.kept b402
          replace VY := VY.kept b402
          replace VW := VW.kept b402
          replace O6 := O6.kept b402
          replace B := thenB B b402
          clear b402
          obtain ⟨s_VX, f_VX, z_VX⟩ := VX.open
          obtain ⟨s_VY, f_VY, z_VY⟩ := VY.open
          obtain ⟨s_VW, f_VW, z_VW⟩ := VW.open
          have Bo := B
          clear s_VX f_VX z_VX s_VY f_VY z_VY s_VW f_VW z_VW
          have HTW := Hid.mk VW.there
          have VF := VW.filled [.int .i64 0, .int .i64 kk, .slice c7 kl d7] rfl
          have hWl := Hid.mk (fun b (hb : c7 = some b) => (O7.lt b hb).1)
          have AX := VX.apart (B := w401.heap.size) (by first | omega | (simp; omega)) 0 [.int .i64 0, .int .i64 kk, .slice c7 kl d7]
          have AO := O7.apart (B := w401.heap.size) (by intro b hb; have := hWl.out b hb; first | omega | (simp at this; omega)) 0 [.int .i64 0, .int .i64 kk, .slice c7 kl d7]
          have BF := belowCells B (show wr.heap.size ≤ w401.heap.size by first | omega | (simp; omega)) 0 [.int .i64 0, .int .i64 kk, .slice c7 kl d7]
          have VL := VW.1
          obtain ⟨w9, hw9⟩ : ∃ w9, World.setCells w402 (w401.heap.size) 0 [.int .i64 0, .int .i64 kk, .slice c7 kl d7] = w9 := ⟨_, rfl⟩
          rw [hw9] at VF AX AO BF
          have hsz9 : w9.heap.size = w402.heap.size := by rw [← hw9]; exact World.size_setCells _ _ _ _
          replace hw9 := Hid.mk hw9
          clear B Bo O6 VX VW O7
          have VX := AX
          have VW := VF
          have O7 := AO
          have B := BF
          clear AX VF AO BF
          clear VY
          obtain ⟨s_VX, f_VX, z_VX⟩ := VX.open
          obtain ⟨s_VW, f_VW, z_VW⟩ := VW.open
          have Bo := B
          clear s_VX f_VX z_VX s_VW f_VW z_VW
          have hgz := ((bcell B).1 _ _ (show g4 < wr.heap.size by omega)).trans pz
          have hQc2 := ((bcell B).1 _ _ (show Q < wr.heap.size by omega)).trans hQc
          have hQf2 := ((bcell B).2 _ _ (show Q < wr.heap.size by omega)).trans hQf
          have hsB := B.size
          have hVWl := VW.1
          have hVWQ : w401.heap.size ≠ Q := by (try simp); omega
          have hg4Q : g4 ≠ Q := by omega
          have K : ∀ w' : World, Below w9.heap.size w9 w' → (w'.cell? ⟨w401.heap.size, 0, none⟩ = some (.int .i64 0) ∧ w'.cell? ⟨w401.heap.size, 1, none⟩ = some (.int .i64 kk) ∧ w'.cell? ⟨w401.heap.size, 2, none⟩ = some (.slice c7 kl d7) ∧ w'.cell? ⟨g4, o4 + k, none⟩ = some (.int .i64 u)) := fun w' h => ⟨(VW.kept h).2.1 0 (by simp), (VW.kept h).2.1 1 (by simp), (VW.kept h).2.1 2 (by simp), ((bcell h).1 _ _ (by omega)).trans hgz⟩
          have K := Hid.mk K
          have BD : Below wr.heap.size wr w9.drew := thenB B (Below.refl _ _).drew
          have SQ : Sm (fun q => q = Q) w9.drew (w9.drew.setCell ⟨Q, u, none⟩ (.int .i64 kk)) := Sm.cell (X := fun q => q = Q) rfl _
          have O8 := Hid.mk (tab_store (HO.out.kept BD) u kk)
          have RP8 := Hid.mk ((HRP.out.kept BD).sm SQ (fun b hb e => by simp only [Option.some.injEq] at hb; subst hb; simp only at e; omega))
          have VR8 := Hid.mk ((HVR.out.kept BD).sm SQ (by omega))
          have A8 := Hid.mk ((HA.out.kept BD).sm SQ (fun b hb e => by simp only [Option.some.injEq] at hb; subst hb; have := hlow.out _ rfl; simp only at e this; omega))
          have hOl := Hid.mk (fun b (hb : c7 = some b) => (O7.lt b hb).1)
          have hNQ : Hid (∀ ad : Addr, c7 = some ad → ad.block ≠ Q ∧ ad.block ≠ w.heap.size) := Hid.mk (fun ad hq => by have := hOl.out ad hq; first | omega | (simp at this; omega))
          have OT8 := Hid.mk (((O7.kept (Below.refl _ _).drew).mono (base' := w.heap.size) (by first | omega | (simp; omega))).sm SQ (fun b hb e => (hNQ.out b hb).1 e))
          have B8 := Hid.mk ((thenB B0 BD).setCell (p := ⟨Q, u, none⟩) (by simp only; omega) (.int .i64 kk))
          have Q8 : Hid (Q < (w9.drew.setCell ⟨Q, u, none⟩ (.int .i64 kk)).heap.size) := Hid.mk (by have h1 := SQ.size; have h2 := BD.size; omega)
          have D8 : Hid (mvR fr (zs.drop (k + 1)) (updP pl u kk) ls = M ∧ PlOk (updP pl u kk) ∧ ls.length ≤ 400) := Hid.mk ⟨HS.out.symm, HPO.out.upd hpk, by rw [hkl.out]; exact hput⟩
          clear SQ BD B
          obtain ⟨s_VX, f_VX, z_VX⟩ := VX.open
          obtain ⟨s_VW, f_VW, z_VW⟩ := VW.open
          go_wp2_with (refine wpList_stroke w9 rfl 28 _ _ rfl (w401.heap.size) 0 #[.int .i64 0, .int .i64 kk, .slice c7 kl d7] rfl rfl HTW.out (by kernel_rfl) (by kernel_rfl) hw9.out ?_)
          clear s_VX f_VX z_VX s_VW f_VW z_VW
          refine wp_region_held_drew (S := (fun w' => w'.cell? ⟨w401.heap.size, 0, none⟩ = some (.int .i64 0) ∧ w'.cell? ⟨w401.heap.size, 1, none⟩ = some (.int .i64 kk) ∧ w'.cell? ⟨w401.heap.size, 2, none⟩ = some (.slice c7 kl d7) ∧ w'.cell? ⟨g4, o4 + k, none⟩ = some (.int .i64 u))) (by kernel_rfl) (K.out _ (Below.refl _ _).drew) (fun hHeld => ?_)
          refine wpAnyH_take (i := 0) (oi := _) (v := ?vmv400u1) rfl (by kernel_rfl) (by kernel_rfl) (by kernel_rfl) (fun _ _ _ h => h) (Or.inl ⟨by rfl, ?hymv400u1⟩) hHeld ?restmv400u1
          case hymv400u1 => (intro w hSw; (try dsimp only at hSw); go_simp; first | done | with_reducible rfl)
          try simp only [Act.put, List.getElem_toArray, List.getElem_cons_zero, List.setIfInBounds_toArray, List.set_cons_zero, List.set_cons_succ]
          refine wpAnyH_take (i := 1) (oi := _) (v := ?vmv400u2) rfl (by kernel_rfl) (by kernel_rfl) (by kernel_rfl) (fun _ _ _ h => h) (Or.inl ⟨by rfl, ?hymv400u2⟩) hHeld ?restmv400u2
          case hymv400u2 => (intro w hSw; (try dsimp only at hSw); go_simp; first | done | with_reducible rfl)
          try simp only [Act.put, List.getElem_toArray, List.getElem_cons_zero, List.getElem_cons_succ, List.setIfInBounds_toArray, List.set_cons_zero, List.set_cons_succ]
          refine wpAnyH_take (i := 2) (oi := _) (v := ?vmv400u3) rfl (by kernel_rfl) (by kernel_rfl) (by kernel_rfl) (fun _ _ _ h => h) (Or.inl ⟨by rfl, ?hymv400u3⟩) hHeld ?restmv400u3
          case hymv400u3 => (intro w hSw; (try dsimp only at hSw); go_simp; first | done | with_reducible rfl)
          try simp only [Act.put, List.getElem_toArray, List.getElem_cons_zero, List.getElem_cons_succ, List.setIfInBounds_toArray, List.set_cons_zero, List.set_cons_succ]
          refine wpAnyH_take (i := 3) (oi := _) (v := ?vmv400u4) rfl (by kernel_rfl) (by kernel_rfl) (by kernel_rfl) (fun _ _ _ h => h) (Or.inl ⟨by rfl, ?hymv400u4⟩) hHeld ?restmv400u4
          case hymv400u4 => (intro w hSw; (try dsimp only at hSw); go_simp; first | done | with_reducible rfl)
          try simp only [Act.put, List.getElem_toArray, List.getElem_cons_zero, List.getElem_cons_succ, List.setIfInBounds_toArray, List.set_cons_zero, List.set_cons_succ]
          refine wpAnyH_take (i := 4) (oi := _) (v := ?vmv400u5) rfl (by kernel_rfl) (by kernel_rfl) (by kernel_rfl) (fun _ _ _ h => h) (Or.inl ⟨by rfl, ?hymv400u5⟩) hHeld ?restmv400u5
          case hymv400u5 => (intro w hSw; (try dsimp only at hSw); go_simp; first | done | with_reducible rfl)
          try simp only [Act.put, List.getElem_toArray, List.getElem_cons_zero, List.getElem_cons_succ, List.setIfInBounds_toArray, List.set_cons_zero, List.set_cons_succ]
          refine wpAnyH_take (i := 5) (oi := _) (v := ?vmv400u6) rfl (by kernel_rfl) (by kernel_rfl) (by kernel_rfl) (fun _ _ _ h => h) (Or.inl ⟨by rfl, ?hymv400u6⟩) hHeld ?restmv400u6
          case hymv400u6 => (intro w hSw; (try dsimp only at hSw); go_simp; first | done | with_reducible rfl)
          try simp only [Act.put, List.getElem_toArray, List.getElem_cons_zero, List.getElem_cons_succ, List.setIfInBounds_toArray, List.set_cons_zero, List.set_cons_succ]
          refine wpAnyH_take (i := 6) (oi := _) (v := ?vmv400u7) rfl (by kernel_rfl) (by kernel_rfl) (by kernel_rfl) (fun _ _ _ h => h) (Or.inl ⟨by rfl, ?hymv400u7⟩) hHeld ?restmv400u7
          case hymv400u7 => (intro w hSw; (try dsimp only at hSw); go_simp; first | done | with_reducible rfl)
          try simp only [Act.put, List.getElem_toArray, List.getElem_cons_zero, List.getElem_cons_succ, List.setIfInBounds_toArray, List.set_cons_zero, List.set_cons_succ]
          refine wpAnyH_take (i := 7) (oi := _) (v := ?vmv400u8) rfl (by kernel_rfl) (by kernel_rfl) (by kernel_rfl) (fun _ _ _ h => h) (Or.inl ⟨by rfl, ?hymv400u8⟩) hHeld ?restmv400u8
          case hymv400u8 => (intro w hSw; (try dsimp only at hSw); go_simp; first | done | with_reducible rfl)
          try simp only [Act.put, List.getElem_toArray, List.getElem_cons_zero, List.getElem_cons_succ, List.setIfInBounds_toArray, List.set_cons_zero, List.set_cons_succ]
          have hd0 := (Below.refl w9.heap.size w9).drew
          have qc := ((bcell hd0).1 _ _ (show Q < w9.heap.size by omega)).trans hQc2
          have qf := ((bcell hd0).2 _ _ (show Q < w9.heap.size by omega)).trans hQf2
          have hH2 := hHeld
          try dsimp only at hH2
          obtain ⟨e1, e2, e3, e4⟩ := hH2
          refine wpAnyH_ready (rs := [8]) (by kernel_rfl) (by simp) ?_
          refine AllReadyH.cons (o := _) rfl (fun K0 hK0 => ?_) AllReadyH.nil
          go_simp
          refine hK0.out _ _ (⟨(cell_far hVWQ _).trans e1, (cell_far hVWQ _).trans e2, (cell_far hVWQ _).trans e3, (cell_far hg4Q _).trans e4⟩) (fun hHeld => ?_)
          clear hK0 K0
          try simp only [Act.put, List.getElem_toArray, List.getElem_cons_zero, List.getElem_cons_succ, List.setIfInBounds_toArray, List.set_cons_zero, List.set_cons_succ]
          refine wpAnyH_done (by kernel_rfl) ?_ _
          go_wp2
          go_roundw
          case rel => exact ⟨k + 1, c7, d7, kl, updP pl u kk, ls, by omega, by go_num, rfl, hkl, D8, OT8.out, A8.out, O8.out, RP8.out, VR8.out, B8.out, Q8, hNQ⟩
          case measure => (simp [intOf]; omega)
        · skip
          rw [if_neg hc] at hs
          have hcc : (kc != 0) = true := by simp [hc]
          have HS := Hid.mk hs
          have HC := Hid.mk hc
          clear hs hc
          have B := Below.refl wr.heap.size wr
          replace B := thenB B (belowA wr (.cells #[.int .i64 7, .int .i64 i, .int .i64 j, .int .i64 xn] 70))
          have VX := V.new wr [.int .i64 7, .int .i64 i, .int .i64 j, .int .i64 xn] 70
          obtain ⟨s_VX, f_VX, z_VX⟩ := VX.open
          have Bo := B
          go_wp2_with fail
          refine (CK.out _).mono ?_
          rintro e wq ⟨rfl, rfl⟩
          go_wp2_with fail
          refine (CK.out _).mono ?_
          rintro e wq ⟨rfl, rfl⟩
          go_wp2_with fail
          replace VX := VX.kept (belowA (wr.alloc (.cells #[.int .i64 7, .int .i64 i, .int .i64 j, .int .i64 xn] 70)) (.cells #[.int .i64 7, .int .i64 va, .int .i64 vb, .int .i64 xn] 70))
          replace B := thenB B (belowA (wr.alloc (.cells #[.int .i64 7, .int .i64 i, .int .i64 j, .int .i64 xn] 70)) (.cells #[.int .i64 7, .int .i64 va, .int .i64 vb, .int .i64 xn] 70))
          have VY : V ((wr.alloc (.cells #[.int .i64 7, .int .i64 i, .int .i64 j, .int .i64 xn] 70)).alloc (.cells #[.int .i64 7, .int .i64 va, .int .i64 vb, .int .i64 xn] 70)) (wr.heap.size + 1) [.int .i64 7, .int .i64 va, .int .i64 vb, .int .i64 xn] := V.newAt _ _ _ _ (by simp)
          refine (CPP.out _ _ _ (HOT.out.kept B).rd hnc.out).mono ?_
          rintro e w411 ⟨c6, d6, rfl, O6, b411⟩
          clear s_VX f_VX z_VX
          have S411 := b411.size
          simp only [World.size_alloc] at S411
          replace VX := VX.kept b411
          replace VY := VY.kept b411
          replace B := thenB B b411
          clear b411
          obtain ⟨s_VX, f_VX, z_VX⟩ := VX.open
          obtain ⟨s_VY, f_VY, z_VY⟩ := VY.open
          have Bo := B
          replace VX := VX.kept (belowA w411 (.cells #[.int .i64 kc0, .int .i64 kk0, .slice c6 kl0 d6] 28))
          replace VY := VY.kept (belowA w411 (.cells #[.int .i64 kc0, .int .i64 kk0, .slice c6 kl0 d6] 28))
          replace O6 := O6.kept (belowA w411 (.cells #[.int .i64 kc0, .int .i64 kk0, .slice c6 kl0 d6] 28))
          replace B := thenB B (belowA w411 (.cells #[.int .i64 kc0, .int .i64 kk0, .slice c6 kl0 d6] 28))
          have VW := V.new w411 [.int .i64 kc0, .int .i64 kk0, .slice c6 kl0 d6] 28
          clear s_VX f_VX z_VX s_VY f_VY z_VY
          obtain ⟨s_VX, f_VX, z_VX⟩ := VX.open
          obtain ⟨s_VY, f_VY, z_VY⟩ := VY.open
          obtain ⟨s_VW, f_VW, z_VW⟩ := VW.open
          have Bo := B
          go_wp2_with fail
          refine (CB.out _ _ _ (HOT.out.kept B).rd hnc.out).mono ?_
          rintro e w412 ⟨c7, d7, rfl, O7, b412⟩
          clear s_VX f_VX z_VX s_VY f_VY z_VY s_VW f_VW z_VW
          have S412 := b412.size
          simp only [World.size_alloc] at S412
          replace VX := VX.kept b412
          replace VY := VY.kept b412
          replace VW := VW.kept b412
          replace O6 := O6.kept b412
          replace B := thenB B b412
          clear b412
          obtain ⟨s_VX, f_VX, z_VX⟩ := VX.open
          obtain ⟨s_VY, f_VY, z_VY⟩ := VY.open
          obtain ⟨s_VW, f_VW, z_VW⟩ := VW.open
          have Bo := B
          clear s_VX f_VX z_VX s_VY f_VY z_VY s_VW f_VW z_VW
          have HTW := Hid.mk VW.there
          have VF := VW.filled [.int .i64 kc, .int .i64 kk, .slice c7 kl d7] rfl
          have hWl := Hid.mk (fun b (hb : c7 = some b) => (O7.lt b hb).1)
          have AX := VX.apart (B := w411.heap.size) (by first | omega | (simp; omega)) 0 [.int .i64 kc, .int .i64 kk, .slice c7 kl d7]
          have AO := O7.apart (B := w411.heap.size) (by intro b hb; have := hWl.out b hb; first | omega | (simp at this; omega)) 0 [.int .i64 kc, .int .i64 kk, .slice c7 kl d7]
          have BF := belowCells B (show wr.heap.size ≤ w411.heap.size by first | omega | (simp; omega)) 0 [.int .i64 kc, .int .i64 kk, .slice c7 kl d7]
          have VL := VW.1
          obtain ⟨w9, hw9⟩ : ∃ w9, World.setCells w412 (w411.heap.size) 0 [.int .i64 kc, .int .i64 kk, .slice c7 kl d7] = w9 := ⟨_, rfl⟩
          rw [hw9] at VF AX AO BF
          have hsz9 : w9.heap.size = w412.heap.size := by rw [← hw9]; exact World.size_setCells _ _ _ _
          replace hw9 := Hid.mk hw9
          clear B Bo O6 VX VW O7
          have VX := AX
          have VW := VF
          have O7 := AO
          have B := BF
          clear AX VF AO BF
          clear VY
          obtain ⟨s_VX, f_VX, z_VX⟩ := VX.open
          obtain ⟨s_VW, f_VW, z_VW⟩ := VW.open
          have Bo := B
          clear s_VX f_VX z_VX s_VW f_VW z_VW
          have VR := HVR.out.kept B
          replace B := thenB B0 B
          obtain ⟨s_VX, f_VX, z_VX⟩ := VX.open
          obtain ⟨s_VW, f_VW, z_VW⟩ := VW.open
          obtain ⟨s_VR, f_VR, z_VR⟩ := VR.open
          have Bo := B
          clear s_VX f_VX z_VX s_VW f_VW z_VW s_VR f_VR z_VR
          have VF := Hid.mk (VR.filled [.int .i64 kc, .int .i64 0, .slice none 0 0] rfl)
          have HT := Hid.mk VR.there
          have BR := belowCells B (show w.heap.size ≤ w.heap.size by (first | omega | (simp; done) | (simp; omega))) 0 [.int .i64 kc, .int .i64 0, .slice none 0 0]
          replace BR := Hid.mk BR
          obtain ⟨s_VX, f_VX, z_VX⟩ := VX.open
          obtain ⟨s_VW, f_VW, z_VW⟩ := VW.open
          obtain ⟨s_VR, f_VR, z_VR⟩ := VR.open
          go_wp2_with (first | (refine wpList_stroke w9 rfl 28 _ _ rfl (w411.heap.size) 0 #[.int .i64 kc, .int .i64 kk, .slice c7 kl d7] rfl rfl HTW.out (by kernel_rfl) (by kernel_rfl) hw9.out ?_) | refine wpList_store_mid rfl 28 _ _ rfl (w.heap.size) 0 #[.int .i64 kc, .int .i64 0, .slice none 0 0] rfl rfl HT.out (by kernel_rfl) (by kernel_rfl) ?_)
          refine bodyPost_ret (v := .agg #[.int .i64 kc, .int .i64 0, .slice none 0 0]) (results_row Tryd.results28 _ _ (w.heap.size) [.int .i64 kc, .int .i64 0, .slice none 0 0] _ rfl VF.out Tryd.underlying28 rfl (by kernel_rfl)) rfl (MoveAt.bad HS.out HC.out rfl BR.out)
    · obtain rfl : k = l := by omega
      have hMM := hdr.out.1
      rw [mvR_end fr zs pl tb k (by rw [HK.out]; exact Nat.le_refl _)] at hMM
      have HM := Hid.mk hMM
      have pm := tab_cell O (i := m) (by omega)
      have hm2 : (m : Int) < (m : Int) + 1 := by omega
      clear hMM hdr
      have B := B0
      obtain ⟨s_VR, f_VR, z_VR⟩ := VR.open
      have Bo := B
      clear s_VR f_VR z_VR
      have VF := Hid.mk (VR.filled [.int .i64 0, .int .i64 (pl m), .slice c1 L d1] rfl)
      have HT := Hid.mk VR.there
      have BR := belowCells B (show w.heap.size ≤ w.heap.size by (first | omega | (simp; done) | (simp; omega))) 0 [.int .i64 0, .int .i64 (pl m), .slice c1 L d1]
      replace BR := Hid.mk BR
      have HO := Hid.mk (OT.apart (B := w.heap.size) (fun b hb e => (hCQ.out b hb).2 e) 0 [.int .i64 0, .int .i64 (pl m), .slice c1 L d1])
      obtain ⟨s_VR, f_VR, z_VR⟩ := VR.open
      go_wp2_with (refine wpList_store_mid rfl 28 _ _ rfl (w.heap.size) 0 #[.int .i64 0, .int .i64 (pl m), .slice c1 L d1] rfl rfl HT.out (by kernel_rfl) (by kernel_rfl) ?_)
      refine bodyPost_ret (v := .agg #[.int .i64 0, .int .i64 (pl m), .slice c1 L d1]) (results_row Tryd.results28 _ _ (w.heap.size) [.int .i64 0, .int .i64 (pl m), .slice c1 L d1] _ rfl VF.out Tryd.underlying28 rfl (by kernel_rfl)) rfl (MoveAt.good HM.out hL.out rfl HO.out BR.out)

end Go.Proofs.YthjaehcfakjemaaDoor

/- MoveTerm: the model. -/
namespace Go.Proofs.YthjaehcfakjemaaDoor
open Go.RowKit

set_option maxRecDepth 20000 in
set_option maxHeartbeats 4000000 in
theorem specMoveTerm_ok (a : Option Addr) (n ca : Nat) (fr : List T4) (q : Int) (b : Option Addr) (nb cb : Nat) (tb : List T4) (w : World) (ha : RdTerm w a fr) (hn : fr.length = n) (hx : n ≤ 1048576) (hca : n ≤ ca) (hlow : Hid (∀ b : Addr, a = some b → b.block < w.heap.size)) (hb : RdTerm w b tb) (hnb : tb.length = nb) (hxb : nb ≤ 1048576) (hcb : nb ≤ cb) (hcn : b = none → cb = 0) :
    Calls Tryd.prog 8 #[.slice a n ca, .int .i64 q, .slice b nb cb] w fun e w' => ∃ c d, e = .returned (.agg #[.int .i64 (mvF fr q tb).c, .int .i64 (mvF fr q tb).k, .slice c (mvF fr q tb).l.length d]) ∧ OwnTerm w' w.heap.size c d (mvF fr q tb).l ∧ Below w.heap.size w w' := by
  have q1 := build_tr0'
  have CF := Hid.mk (fun w h => specTermsFault_ok a n ca fr w h hn (by unfold maxLen; omega) hca)
  have CG := Hid.mk (fun w h => specTermsFault_ok b nb cb tb w h hnb (by unfold maxLen; omega) hcb)
  have CA := Hid.mk (fun w => l5At_ok a n ca q w (by unfold maxLen; omega))
  have HW := mvF_ways fr q tb
  rw [hn] at HW
  rcases HW with ⟨h1, hr⟩ | ⟨h1, h2, hr⟩ | ⟨h1, h2, h3, hr⟩ | ⟨h1, h2, h3, hr⟩
  · have h2 : (tfC fr != 0) = true := by simp [h1]
    rw [hr]
    clear hr h1
    generalize tfC fr = kk at *
    go_enter Tryd.func8, Tryd.ntmps8
    have B := Below.refl w.heap.size w
    replace ha := ha.kept (belowA w (.cells #[.int .i64 0, .int .i64 0, .slice none 0 0] 28))
    replace hb := hb.kept (belowA w (.cells #[.int .i64 0, .int .i64 0, .slice none 0 0] 28))
    replace B := thenB B (belowA w (.cells #[.int .i64 0, .int .i64 0, .slice none 0 0] 28))
    have VR := V.new w [.int .i64 0, .int .i64 0, .slice none 0 0] 28
    obtain ⟨s_VR, f_VR, z_VR⟩ := VR.open
    have Bo := B
    go_wp2_with fail
    refine (CF.out _ ha).mono ?_
    rintro e w1 ⟨rfl, b1⟩
    clear s_VR f_VR z_VR
    have S1 := b1.size
    simp only [World.size_alloc] at S1
    replace VR := VR.kept b1
    replace ha := ha.kept b1
    replace hb := hb.kept b1
    replace B := thenB B b1
    clear b1
    obtain ⟨s_VR, f_VR, z_VR⟩ := VR.open
    have Bo := B
    clear s_VR f_VR z_VR
    have VF := Hid.mk (VR.filled [.int .i64 kk, .int .i64 0, .slice none 0 0] rfl)
    have HT := Hid.mk VR.there
    have BR := belowCells B (show w.heap.size ≤ w.heap.size by (first | omega | (simp; done) | (simp; omega))) 0 [.int .i64 kk, .int .i64 0, .slice none 0 0]
    replace BR := Hid.mk BR
    obtain ⟨s_VR, f_VR, z_VR⟩ := VR.open
    go_wp2_with (refine wpList_store_mid rfl 28 _ _ rfl (w.heap.size) 0 #[.int .i64 kk, .int .i64 0, .slice none 0 0] rfl rfl HT.out (by kernel_rfl) (by kernel_rfl) ?_)
    refine bodyPost_ret (v := .agg #[.int .i64 kk, .int .i64 0, .slice none 0 0]) (results_row Tryd.results8 _ _ (w.heap.size) [.int .i64 kk, .int .i64 0, .slice none 0 0] _ rfl VF.out Tryd.underlying28 rfl (by kernel_rfl)) rfl ⟨none, 0, rfl, OwnTerm.none, BR.out⟩
  · have h3 : (tfC tb != 0) = true := by simp [h2]
    rw [hr]
    rw [h1] at CF
    clear hr h1 h2
    generalize tfC tb = kk at *
    go_enter Tryd.func8, Tryd.ntmps8
    have B := Below.refl w.heap.size w
    replace ha := ha.kept (belowA w (.cells #[.int .i64 0, .int .i64 0, .slice none 0 0] 28))
    replace hb := hb.kept (belowA w (.cells #[.int .i64 0, .int .i64 0, .slice none 0 0] 28))
    replace B := thenB B (belowA w (.cells #[.int .i64 0, .int .i64 0, .slice none 0 0] 28))
    have VR := V.new w [.int .i64 0, .int .i64 0, .slice none 0 0] 28
    obtain ⟨s_VR, f_VR, z_VR⟩ := VR.open
    have Bo := B
    go_wp2_with fail
    refine (CF.out _ ha).mono ?_
    rintro e w21 ⟨rfl, b21⟩
    clear s_VR f_VR z_VR
    have S21 := b21.size
    simp only [World.size_alloc] at S21
    replace VR := VR.kept b21
    replace ha := ha.kept b21
    replace hb := hb.kept b21
    replace B := thenB B b21
    clear b21
    obtain ⟨s_VR, f_VR, z_VR⟩ := VR.open
    have Bo := B
    go_wp2_with fail
    refine (CG.out _ hb).mono ?_
    rintro e w22 ⟨rfl, b22⟩
    clear s_VR f_VR z_VR
    have S22 := b22.size
    replace VR := VR.kept b22
    replace ha := ha.kept b22
    replace hb := hb.kept b22
    replace B := thenB B b22
    clear b22
    obtain ⟨s_VR, f_VR, z_VR⟩ := VR.open
    have Bo := B
    clear s_VR f_VR z_VR
    have VF := Hid.mk (VR.filled [.int .i64 kk, .int .i64 0, .slice none 0 0] rfl)
    have HT := Hid.mk VR.there
    have BR := belowCells B (show w.heap.size ≤ w.heap.size by (first | omega | (simp; done) | (simp; omega))) 0 [.int .i64 kk, .int .i64 0, .slice none 0 0]
    replace BR := Hid.mk BR
    obtain ⟨s_VR, f_VR, z_VR⟩ := VR.open
    go_wp2_with (refine wpList_store_mid rfl 28 _ _ rfl (w.heap.size) 0 #[.int .i64 kk, .int .i64 0, .slice none 0 0] rfl rfl HT.out (by kernel_rfl) (by kernel_rfl) ?_)
    refine bodyPost_ret (v := .agg #[.int .i64 kk, .int .i64 0, .slice none 0 0]) (results_row Tryd.results8 _ _ (w.heap.size) [.int .i64 kk, .int .i64 0, .slice none 0 0] _ rfl VF.out Tryd.underlying28 rfl (by kernel_rfl)) rfl ⟨none, 0, rfl, OwnTerm.none, BR.out⟩
  · rw [hr]
    rw [h1] at CF
    rw [h2] at CG
    rw [h3] at CA
    clear hr h1 h2 h3
    go_enter Tryd.func8, Tryd.ntmps8
    have B := Below.refl w.heap.size w
    replace ha := ha.kept (belowA w (.cells #[.int .i64 0, .int .i64 0, .slice none 0 0] 28))
    replace hb := hb.kept (belowA w (.cells #[.int .i64 0, .int .i64 0, .slice none 0 0] 28))
    replace B := thenB B (belowA w (.cells #[.int .i64 0, .int .i64 0, .slice none 0 0] 28))
    have VR := V.new w [.int .i64 0, .int .i64 0, .slice none 0 0] 28
    obtain ⟨s_VR, f_VR, z_VR⟩ := VR.open
    have Bo := B
    go_wp2_with fail
    refine (CF.out _ ha).mono ?_
    rintro e w41 ⟨rfl, b41⟩
    clear s_VR f_VR z_VR
    have S41 := b41.size
    simp only [World.size_alloc] at S41
    replace VR := VR.kept b41
    replace ha := ha.kept b41
    replace hb := hb.kept b41
    replace B := thenB B b41
    clear b41
    obtain ⟨s_VR, f_VR, z_VR⟩ := VR.open
    have Bo := B
    go_wp2_with fail
    refine (CG.out _ hb).mono ?_
    rintro e w42 ⟨rfl, b42⟩
    clear s_VR f_VR z_VR
    have S42 := b42.size
    replace VR := VR.kept b42
    replace ha := ha.kept b42
    replace hb := hb.kept b42
    replace B := thenB B b42
    clear b42
    obtain ⟨s_VR, f_VR, z_VR⟩ := VR.open
    have Bo := B
    go_wp2_with fail
    refine (CA.out _).mono ?_
    rintro e wq ⟨rfl, rfl⟩
    clear s_VR f_VR z_VR
    have VF := Hid.mk (VR.filled [.int .i64 3, .int .i64 0, .slice none 0 0] rfl)
    have HT := Hid.mk VR.there
    have BR := belowCells B (show w.heap.size ≤ w.heap.size by (first | omega | (simp; done) | (simp; omega))) 0 [.int .i64 3, .int .i64 0, .slice none 0 0]
    replace BR := Hid.mk BR
    obtain ⟨s_VR, f_VR, z_VR⟩ := VR.open
    go_wp2_with (refine wpList_store_mid rfl 28 _ _ rfl (w.heap.size) 0 #[.int .i64 3, .int .i64 0, .slice none 0 0] rfl rfl HT.out (by kernel_rfl) (by kernel_rfl) ?_)
    refine bodyPost_ret (v := .agg #[.int .i64 3, .int .i64 0, .slice none 0 0]) (results_row Tryd.results8 _ _ (w.heap.size) [.int .i64 3, .int .i64 0, .slice none 0 0] _ rfl VF.out Tryd.underlying28 rfl (by kernel_rfl)) rfl ⟨none, 0, rfl, OwnTerm.none, BR.out⟩
  · rw [hr]
    have HV := h1
    have hl4 := (tfC_zero h2).1
    obtain ⟨hq0, hq1⟩ := btw_iff.1 h3
    obtain ⟨m, rfl⟩ : ∃ m : Nat, q = (m : Int) := ⟨q.toNat, by omega⟩
    have hm : m < n := by omega
    obtain ⟨M, hM⟩ : ∃ M, mvR fr (prL fr m) (fun _ => 0) tb = M := ⟨_, rfl⟩
    have CM := Hid.mk (fun w ha hb hl => l5Move_ok a n ca fr m b nb cb tb w ha hn HV hm hl hb hnb (by omega) hcn M hM)
    have hP := mvP_ways fr (m : Int) tb
    rw [Int.toNat_natCast, hM] at hP
    replace hM := Hid.mk hM
    have hE : mvP fr m tb = ⟨M.c, if M.c = 0 then M.pl m else 0, if M.c = 0 then M.tb else []⟩ := by
      rcases hP with ⟨hc, hr⟩ | ⟨hc, hr⟩
      · rw [hr, if_pos hc, if_pos hc, hc]
      · rw [hr, if_neg hc, if_neg hc]
    rw [hE]
    rw [h1] at CF
    rw [h2] at CG
    rw [h3] at CA
    unfold MoveAt at CM
    generalize (if M.c = 0 then M.pl m else 0) = kk at *
    generalize (if M.c = 0 then M.tb else []) = ls at *
    generalize M.c = kc at *
    obtain ⟨kl, hkl⟩ : ∃ l, ls.length = l := ⟨_, rfl⟩
    simp only
    rw [hkl] at CM ⊢
    clear hr h1 h2 h3 hq0 hq1 HV hP hE
    go_enter Tryd.func8, Tryd.ntmps8
    have B := Below.refl w.heap.size w
    replace ha := ha.kept (belowA w (.cells #[.int .i64 0, .int .i64 0, .slice none 0 0] 28))
    replace hb := hb.kept (belowA w (.cells #[.int .i64 0, .int .i64 0, .slice none 0 0] 28))
    replace B := thenB B (belowA w (.cells #[.int .i64 0, .int .i64 0, .slice none 0 0] 28))
    have VR := V.new w [.int .i64 0, .int .i64 0, .slice none 0 0] 28
    obtain ⟨s_VR, f_VR, z_VR⟩ := VR.open
    have Bo := B
    go_wp2_with fail
    refine (CF.out _ ha).mono ?_
    rintro e w61 ⟨rfl, b61⟩
    clear s_VR f_VR z_VR
    have S61 := b61.size
    simp only [World.size_alloc] at S61
    replace VR := VR.kept b61
    replace ha := ha.kept b61
    replace hb := hb.kept b61
    replace B := thenB B b61
    clear b61
    obtain ⟨s_VR, f_VR, z_VR⟩ := VR.open
    have Bo := B
    go_wp2_with fail
    refine (CG.out _ hb).mono ?_
    rintro e w62 ⟨rfl, b62⟩
    clear s_VR f_VR z_VR
    have S62 := b62.size
    replace VR := VR.kept b62
    replace ha := ha.kept b62
    replace hb := hb.kept b62
    replace B := thenB B b62
    clear b62
    obtain ⟨s_VR, f_VR, z_VR⟩ := VR.open
    have Bo := B
    go_wp2_with fail
    refine (CA.out _).mono ?_
    rintro e wq ⟨rfl, rfl⟩
    go_wp2_with fail
    refine (CM.out _ ha hb (Hid.mk (fun b' hb' => by have := hlow.out b' hb'; have := B.size; omega))).mono ?_
    rintro e w63 ⟨c, d, rfl, O, b63⟩
    clear s_VR f_VR z_VR
    have S63 := b63.size
    replace VR := VR.kept b63
    replace ha := ha.kept b63
    replace hb := hb.kept b63
    replace B := thenB B b63
    clear b63
    obtain ⟨s_VR, f_VR, z_VR⟩ := VR.open
    have Bo := B
    have OL := Hid.mk (fun b hb => (O.lt b hb).1)
    clear s_VR f_VR z_VR
    have VF := Hid.mk (VR.filled [.int .i64 kc, .int .i64 kk, .slice c kl d] rfl)
    have HT := Hid.mk VR.there
    have BR := belowCells B (show w.heap.size ≤ w.heap.size by (first | omega | (simp; done) | (simp; omega))) 0 [.int .i64 kc, .int .i64 kk, .slice c kl d]
    replace BR := Hid.mk BR
    have HO := Hid.mk ((O.mono (show w.heap.size ≤ _ by first | omega | (simp; done) | (simp; omega))).apart (B := w.heap.size) (by intro b hb; have := OL.out b hb; first | omega | (simp at this; omega)) 0 [.int .i64 kc, .int .i64 kk, .slice c kl d])
    obtain ⟨s_VR, f_VR, z_VR⟩ := VR.open
    go_wp2_with (refine wpList_store_mid rfl 28 _ _ rfl (w.heap.size) 0 #[.int .i64 kc, .int .i64 kk, .slice c kl d] rfl rfl HT.out (by kernel_rfl) (by kernel_rfl) ?_)
    refine bodyPost_ret (v := .agg #[.int .i64 kc, .int .i64 kk, .slice c kl d]) (results_row Tryd.results8 _ _ (w.heap.size) [.int .i64 kc, .int .i64 kk, .slice c kl d] _ rfl VF.out Tryd.underlying28 rfl (by kernel_rfl)) rfl ⟨c, d, rfl, HO.out, BR.out⟩

end Go.Proofs.YthjaehcfakjemaaDoor
