/- MoveTerm: the program. -/
import Derived.Test.YtfldgeokigcokaaGreatMvC
import Derived.Test.YtfldgeokigcokaaGreatTmT
import Derived.Test.YtfldgeokigcokaaGreatTmW
namespace Go.Proofs.YtfldgeokigcokaaGreat
open Go.RowKit

theorem mvP_ways (fr : List T4) (q : Int) (tb : List T4) : ((mvR fr (prL fr q.toNat) (fun _ => 0) tb).c = 0 ∧ mvP fr q tb = ⟨0, (mvR fr (prL fr q.toNat) (fun _ => 0) tb).pl q, (mvR fr (prL fr q.toNat) (fun _ => 0) tb).tb⟩) ∨ ((mvR fr (prL fr q.toNat) (fun _ => 0) tb).c ≠ 0 ∧ mvP fr q tb = ⟨(mvR fr (prL fr q.toNat) (fun _ => 0) tb).c, 0, []⟩) := by
  unfold mvP
  by_cases h : (mvR fr (prL fr q.toNat) (fun _ => 0) tb).c = 0
  · exact .inl ⟨h, by rw [if_pos h]⟩
  · exact .inr ⟨h, by rw [if_neg h]⟩

set_option maxRecDepth 20000 in
set_option maxHeartbeats 4000000 in
theorem implMoveTerm_ok (a : Option Addr) (n ca : Nat) (fr : List T4) (q : Int) (b : Option Addr) (nb cb : Nat) (tb : List T4) (w : World) (ha : RdTerm w a fr) (hn : fr.length = n) (hx : n ≤ 1048576) (hok : ∀ t ∈ fr, okT t) (hb : RdTerm w b tb) (hnb : tb.length = nb) (hxb : nb ≤ 1048576) (hokb : ∀ t ∈ tb, okT t) :
    Calls Tryz.prog 22 #[.slice a n ca, .int .i64 q, .slice b nb cb] w fun e w' => ∃ c d, e = .returned (.agg #[.int .i64 (mvF fr q tb).c, .int .i64 (mvF fr q tb).k, .slice c (mvF fr q tb).l.length d]) ∧ OwnTerm w' w.heap.size c d (mvF fr q tb).l ∧ Below w.heap.size w w' := by
  have q1 := build_tr0'
  have HW := mvF_ways fr q tb
  rw [hn] at HW
  rcases HW with ⟨h1, hr⟩ | ⟨h1, h2, hr⟩ | ⟨h1, h2, h3, hr⟩ | ⟨h1, h2, h3, hr⟩
  · have h2 : (tfC fr != 0) = true := by simp [h1]
    have CB := Hid.mk (fun w h => bookOf_no a n ca fr w h hn (by unfold maxLen; omega) hok h1)
    rw [hr]
    clear hr h1
    generalize tfC fr = kk at *
    go_enter Tryz.func22, Tryz.ntmps22
    have B := Below.refl w.heap.size w
    replace ha := ha.kept (belowA w (.cells #[.int .i64 0, .int .i64 0, .slice none 0 0] 28))
    replace hb := hb.kept (belowA w (.cells #[.int .i64 0, .int .i64 0, .slice none 0 0] 28))
    replace B := thenB B (belowA w (.cells #[.int .i64 0, .int .i64 0, .slice none 0 0] 28))
    have VR := V.new w [.int .i64 0, .int .i64 0, .slice none 0 0] 28
    obtain ⟨s_VR, f_VR, z_VR⟩ := VR.open
    have Bo := B
    go_wp2_with fail
    refine (CB.out _ ha).mono ?_
    rintro e w1 ⟨rfl, b1⟩
    clear s_VR f_VR z_VR
    have S1 := b1.size
    simp only [World.size_alloc] at S1
    replace VR := VR.kept b1
    replace ha := ha.kept b1
    replace hb := hb.kept b1
    replace B := thenB B b1
    clear b1
    obtain ⟨s_VR, f_VR, z_VR⟩ := VR.open
    have Bo := B
    clear s_VR f_VR z_VR
    have VF := Hid.mk (VR.filled [.int .i64 kk, .int .i64 0, .slice none 0 0] rfl)
    have HT := Hid.mk VR.there
    have BR := belowCells B (show w.heap.size ≤ w.heap.size by (first | omega | (simp; done) | (simp; omega))) 0 [.int .i64 kk, .int .i64 0, .slice none 0 0]
    replace BR := Hid.mk BR
    obtain ⟨s_VR, f_VR, z_VR⟩ := VR.open
    go_wp2_with (refine wpList_store_mid rfl 28 _ _ rfl (w.heap.size) 0 #[.int .i64 kk, .int .i64 0, .slice none 0 0] rfl rfl HT.out (by kernel_rfl) (by kernel_rfl) ?_)
    refine bodyPost_ret (v := .agg #[.int .i64 kk, .int .i64 0, .slice none 0 0]) (results_row Tryz.results22 _ _ (w.heap.size) [.int .i64 kk, .int .i64 0, .slice none 0 0] _ rfl VF.out Tryz.underlying28 rfl (by kernel_rfl)) rfl ⟨none, 0, rfl, OwnTerm.none, BR.out⟩
  · have h3 : (tfC tb != 0) = true := by simp [h2]
    have CB := Hid.mk (fun w h => bookOf_yes a n ca fr w h hn (by unfold maxLen; omega) hok h1)
    have CB2 := Hid.mk (fun w h => bookOf_no b nb cb tb w h hnb (by unfold maxLen; omega) hokb h2)
    rw [hr]
    clear hr h1 h2
    generalize tfC tb = kk at *
    go_enter Tryz.func22, Tryz.ntmps22
    have B := Below.refl w.heap.size w
    replace ha := ha.kept (belowA w (.cells #[.int .i64 0, .int .i64 0, .slice none 0 0] 28))
    replace hb := hb.kept (belowA w (.cells #[.int .i64 0, .int .i64 0, .slice none 0 0] 28))
    replace B := thenB B (belowA w (.cells #[.int .i64 0, .int .i64 0, .slice none 0 0] 28))
    have VR := V.new w [.int .i64 0, .int .i64 0, .slice none 0 0] 28
    obtain ⟨s_VR, f_VR, z_VR⟩ := VR.open
    have Bo := B
    go_wp2_with fail
    refine (CB.out _ ha).mono ?_
    rintro e w11 ⟨p, g, c0, d0, rfl, H, b11⟩
    clear s_VR f_VR z_VR
    have S11 := b11.size
    simp only [World.size_alloc] at S11
    replace VR := VR.kept b11
    replace ha := ha.kept b11
    replace hb := hb.kept b11
    replace B := thenB B b11
    clear b11
    obtain ⟨s_VR, f_VR, z_VR⟩ := VR.open
    have Bo := B
    go_wp2_with fail
    refine (CB2.out _ hb).mono ?_
    rintro e w12 ⟨rfl, b12⟩
    clear s_VR f_VR z_VR
    have S12 := b12.size
    replace VR := VR.kept b12
    replace ha := ha.kept b12
    replace hb := hb.kept b12
    replace H := H.kept b12
    replace B := thenB B b12
    clear b12
    obtain ⟨s_VR, f_VR, z_VR⟩ := VR.open
    have Bo := B
    clear s_VR f_VR z_VR
    have VF := Hid.mk (VR.filled [.int .i64 kk, .int .i64 0, .slice none 0 0] rfl)
    have HT := Hid.mk VR.there
    have BR := belowCells B (show w.heap.size ≤ w.heap.size by (first | omega | (simp; done) | (simp; omega))) 0 [.int .i64 kk, .int .i64 0, .slice none 0 0]
    replace BR := Hid.mk BR
    obtain ⟨s_VR, f_VR, z_VR⟩ := VR.open
    go_wp2_with (refine wpList_store_mid rfl 28 _ _ rfl (w.heap.size) 0 #[.int .i64 kk, .int .i64 0, .slice none 0 0] rfl rfl HT.out (by kernel_rfl) (by kernel_rfl) ?_)
    refine bodyPost_ret (v := .agg #[.int .i64 kk, .int .i64 0, .slice none 0 0]) (results_row Tryz.results22 _ _ (w.heap.size) [.int .i64 kk, .int .i64 0, .slice none 0 0] _ rfl VF.out Tryz.underlying28 rfl (by kernel_rfl)) rfl ⟨none, 0, rfl, OwnTerm.none, BR.out⟩
  · rw [hr]
    have CB := Hid.mk (fun w h => bookOf_yes a n ca fr w h hn (by unfold maxLen; omega) hok h1)
    have CB2 := Hid.mk (fun w h => bookOf_yes b nb cb tb w h hnb (by unfold maxLen; omega) hokb h2)
    have CA := Hid.mk (fun w c0 d0 c1 d1 h => arePlaces_ok c0 n d0 c1 1 d1 [q] w h rfl (by unfold maxLen; omega) (by unfold maxLen; omega))
    rw [plsOk_one, h3] at CA
    clear hr h1 h2 h3
    go_enter Tryz.func22, Tryz.ntmps22
    have B := Below.refl w.heap.size w
    replace ha := ha.kept (belowA w (.cells #[.int .i64 0, .int .i64 0, .slice none 0 0] 28))
    replace hb := hb.kept (belowA w (.cells #[.int .i64 0, .int .i64 0, .slice none 0 0] 28))
    replace B := thenB B (belowA w (.cells #[.int .i64 0, .int .i64 0, .slice none 0 0] 28))
    have VR := V.new w [.int .i64 0, .int .i64 0, .slice none 0 0] 28
    obtain ⟨s_VR, f_VR, z_VR⟩ := VR.open
    have Bo := B
    go_wp2_with fail
    refine (CB.out _ ha).mono ?_
    rintro e w21 ⟨p, g, c0, d0, rfl, H, b21⟩
    clear s_VR f_VR z_VR
    have S21 := b21.size
    simp only [World.size_alloc] at S21
    replace VR := VR.kept b21
    replace ha := ha.kept b21
    replace hb := hb.kept b21
    replace B := thenB B b21
    clear b21
    obtain ⟨s_VR, f_VR, z_VR⟩ := VR.open
    have Bo := B
    have HLT1 := Hid.mk H.lt
    have hvr := Hid.mk VR.1
    go_wp2_with fail
    refine (CB2.out _ hb).mono ?_
    rintro e w22 ⟨p2, g2, c2, d2, rfl, H2, b22⟩
    clear s_VR f_VR z_VR
    have S22 := b22.size
    replace VR := VR.kept b22
    replace ha := ha.kept b22
    replace hb := hb.kept b22
    replace H := H.kept b22
    replace B := thenB B b22
    clear b22
    obtain ⟨s_VR, f_VR, z_VR⟩ := VR.open
    have Bo := B
    have HLT2 := Hid.mk H2.lt
    have VP := H.v
    rw [hn] at VP
    clear s_VR f_VR z_VR
    obtain ⟨s_VR, f_VR, z_VR⟩ := VR.open
    obtain ⟨s_VP, f_VP, z_VP⟩ := VP.open
    have Bo := B
    have hR1 := (OwnI.lit w22 [q] [.int .i64 q] rfl (by unfold maxLen; simp)).rd
    go_wp2_with fail
    refine (CA.out _ _ _ _ _ hR1).mono ?_
    rintro e wq ⟨rfl, rfl⟩
    clear s_VR f_VR z_VR s_VP f_VP z_VP
    replace VR := VR.kept (belowA w22 (.cells #[.int .i64 q] 2))
    replace VP := VP.kept (belowA w22 (.cells #[.int .i64 q] 2))
    replace ha := ha.kept (belowA w22 (.cells #[.int .i64 q] 2))
    replace hb := hb.kept (belowA w22 (.cells #[.int .i64 q] 2))
    replace H := H.kept (belowA w22 (.cells #[.int .i64 q] 2))
    replace H2 := H2.kept (belowA w22 (.cells #[.int .i64 q] 2))
    replace B := thenB B (belowA w22 (.cells #[.int .i64 q] 2))
    obtain ⟨s_VR, f_VR, z_VR⟩ := VR.open
    obtain ⟨s_VP, f_VP, z_VP⟩ := VP.open
    have Bo := B
    clear s_VR f_VR z_VR s_VP f_VP z_VP
    have VF := Hid.mk (VR.filled [.int .i64 3, .int .i64 0, .slice none 0 0] rfl)
    have HT := Hid.mk VR.there
    have BR := belowCells B (show w.heap.size ≤ w.heap.size by (first | omega | (simp; done) | (simp; omega))) 0 [.int .i64 3, .int .i64 0, .slice none 0 0]
    replace BR := Hid.mk BR
    obtain ⟨s_VR, f_VR, z_VR⟩ := VR.open
    obtain ⟨s_VP, f_VP, z_VP⟩ := VP.open
    go_wp2_with (refine wpList_store_mid rfl 28 _ _ rfl (w.heap.size) 0 #[.int .i64 3, .int .i64 0, .slice none 0 0] rfl rfl HT.out (by kernel_rfl) (by kernel_rfl) ?_)
    refine bodyPost_ret (v := .agg #[.int .i64 3, .int .i64 0, .slice none 0 0]) (results_row Tryz.results22 _ _ (w.heap.size) [.int .i64 3, .int .i64 0, .slice none 0 0] _ rfl VF.out Tryz.underlying28 rfl (by kernel_rfl)) rfl ⟨none, 0, rfl, OwnTerm.none, BR.out⟩
  · rw [hr]
    have CB := Hid.mk (fun w h => bookOf_yes a n ca fr w h hn (by unfold maxLen; omega) hok h1)
    have CB2 := Hid.mk (fun w h => bookOf_yes b nb cb tb w h hnb (by unfold maxLen; omega) hokb h2)
    have CA := Hid.mk (fun w c0 d0 c1 d1 h => arePlaces_ok c0 n d0 c1 1 d1 [q] w h rfl (by unfold maxLen; omega) (by unfold maxLen; omega))
    rw [plsOk_one, h3] at CA
    have HV := h1
    have hl4 := (tfC_zero h2).1
    obtain ⟨hq0, hq1⟩ := btw_iff.1 h3
    obtain ⟨m, rfl⟩ : ∃ m : Nat, q = (m : Int) := ⟨q.toNat, by omega⟩
    have hm : m < n := by omega
    have CT := Hid.mk (fun base p g c d base' ps gs cs ds M hM w H Hs hd => takeOver_ok base p g c d tb base' ps gs cs ds fr n m w H Hs hn HV hok hm hl4 hd M hM)
    obtain ⟨M, hM⟩ : ∃ M, mvR fr (prL fr m) (fun _ => 0) tb = M := ⟨_, rfl⟩
    have hP := mvP_ways fr (m : Int) tb
    rw [Int.toNat_natCast, hM] at hP
    replace hM := Hid.mk hM
    clear hr h1 h2 h3 hq0 hq1 HV
    rcases hP with ⟨hc, hr⟩ | ⟨hc, hr⟩
    · rw [hr]
      obtain ⟨kl, hkl⟩ : ∃ l, M.tb.length = l := ⟨_, rfl⟩
      rw [hkl]
      replace hkl := Hid.mk hkl
      obtain ⟨kk, hkk⟩ : ∃ k, M.pl m = k := ⟨_, rfl⟩
      replace CT : Hid _ := CT
      rw [hkk]
      have hif : (if M.c = 0 then M.pl m else 0) = kk := by rw [if_pos hc, hkk]
      clear hkk hr
      go_enter Tryz.func22, Tryz.ntmps22
      have B := Below.refl w.heap.size w
      replace ha := ha.kept (belowA w (.cells #[.int .i64 0, .int .i64 0, .slice none 0 0] 28))
      replace hb := hb.kept (belowA w (.cells #[.int .i64 0, .int .i64 0, .slice none 0 0] 28))
      replace B := thenB B (belowA w (.cells #[.int .i64 0, .int .i64 0, .slice none 0 0] 28))
      have VR := V.new w [.int .i64 0, .int .i64 0, .slice none 0 0] 28
      obtain ⟨s_VR, f_VR, z_VR⟩ := VR.open
      have Bo := B
      go_wp2_with fail
      refine (CB.out _ ha).mono ?_
      rintro e w31 ⟨p, g, c0, d0, rfl, H, b31⟩
      clear s_VR f_VR z_VR
      have S31 := b31.size
      simp only [World.size_alloc] at S31
      replace VR := VR.kept b31
      replace ha := ha.kept b31
      replace hb := hb.kept b31
      replace B := thenB B b31
      clear b31
      obtain ⟨s_VR, f_VR, z_VR⟩ := VR.open
      have Bo := B
      have HLT1 := Hid.mk H.lt
      have hvr := Hid.mk VR.1
      go_wp2_with fail
      refine (CB2.out _ hb).mono ?_
      rintro e w32 ⟨p2, g2, c2, d2, rfl, H2, b32⟩
      clear s_VR f_VR z_VR
      have S32 := b32.size
      replace VR := VR.kept b32
      replace ha := ha.kept b32
      replace hb := hb.kept b32
      replace H := H.kept b32
      replace B := thenB B b32
      clear b32
      obtain ⟨s_VR, f_VR, z_VR⟩ := VR.open
      have Bo := B
      have HLT2 := Hid.mk H2.lt
      have VP := H.v
      rw [hn] at VP
      clear s_VR f_VR z_VR
      obtain ⟨s_VR, f_VR, z_VR⟩ := VR.open
      obtain ⟨s_VP, f_VP, z_VP⟩ := VP.open
      have Bo := B
      have hR1 := (OwnI.lit w32 [(m : Int)] [.int .i64 m] rfl (by unfold maxLen; simp)).rd
      go_wp2_with fail
      refine (CA.out _ _ _ _ _ hR1).mono ?_
      rintro e wq ⟨rfl, rfl⟩
      clear s_VR f_VR z_VR s_VP f_VP z_VP
      replace VR := VR.kept (belowA w32 (.cells #[.int .i64 m] 2))
      replace VP := VP.kept (belowA w32 (.cells #[.int .i64 m] 2))
      replace ha := ha.kept (belowA w32 (.cells #[.int .i64 m] 2))
      replace hb := hb.kept (belowA w32 (.cells #[.int .i64 m] 2))
      replace H := H.kept (belowA w32 (.cells #[.int .i64 m] 2))
      replace H2 := H2.kept (belowA w32 (.cells #[.int .i64 m] 2))
      replace B := thenB B (belowA w32 (.cells #[.int .i64 m] 2))
      obtain ⟨s_VR, f_VR, z_VR⟩ := VR.open
      obtain ⟨s_VP, f_VP, z_VP⟩ := VP.open
      have Bo := B
      go_wp2_with fail
      refine (CT.out _ p2 g2 c2 d2 _ p g c0 d0 M hM.out _ H2 H (fun k hk e => by have h1 := (HLT2.out k hk).1; have h2 := (HLT1.out k e).2; omega)).mono ?_
      rintro e w9 ⟨c, d, rfl, H9, S9, -⟩
      rw [hif, hc]
      clear s_VR f_VR z_VR s_VP f_VP z_VP
      have hvb := hvr.out
      have VRN : Hid (¬ BkX p2 g2 c2 w.heap.size) := Hid.mk (fun e => by have := (HLT2.out _ e).1; (try simp at *); omega)
      replace VR := VR.sm S9 VRN.out
      have B9 := S9.below' B (by have := B.size; omega) (fun j hj => by have := (HLT2.out j hj).1; have := hvr.out; omega)
      clear S9 H H2 VP ha hb B Bo hR1
      have B := B9
      clear B9
      have VP := H9.v
      rw [hkl.out] at VP
      have CN := Hid.mk (fun w h => answer_yes p2 g2 c kl d kk w h)
      obtain ⟨s_VR, f_VR, z_VR⟩ := VR.open
      have Bo := B
      go_wp2_with fail
      refine (CN.out _ VP).mono ?_
      rintro e w33 ⟨rfl, b33⟩
      clear s_VR f_VR z_VR
      have S33 := b33.size
      replace VR := VR.kept b33
      replace H9 := H9.kept b33
      replace B := thenB B b33
      clear b33
      obtain ⟨s_VR, f_VR, z_VR⟩ := VR.open
      have Bo := B
      have OL := Hid.mk (fun b hb => (H9.o.lt b hb).1)
      have hQW := hvr.out
      clear s_VR f_VR z_VR
      have VF := Hid.mk (VR.filled [.int .i64 0, .int .i64 kk, .slice c kl d] rfl)
      have HT := Hid.mk VR.there
      have BR := belowCells B (show w.heap.size ≤ w.heap.size by (first | omega | (simp; done) | (simp; omega))) 0 [.int .i64 0, .int .i64 kk, .slice c kl d]
      replace BR := Hid.mk BR
      have HO := Hid.mk ((H9.o.mono (show w.heap.size ≤ _ by first | omega | (simp; done) | (simp; omega))).apart (B := w.heap.size) (by intro b hb; have := OL.out b hb; first | omega | (simp at this; omega)) 0 [.int .i64 0, .int .i64 kk, .slice c kl d])
      obtain ⟨s_VR, f_VR, z_VR⟩ := VR.open
      go_wp2_with (refine wpList_store_mid rfl 28 _ _ rfl (w.heap.size) 0 #[.int .i64 0, .int .i64 kk, .slice c kl d] rfl rfl HT.out (by kernel_rfl) (by kernel_rfl) ?_)
      refine bodyPost_ret (v := .agg #[.int .i64 0, .int .i64 kk, .slice c kl d]) (results_row Tryz.results22 _ _ (w.heap.size) [.int .i64 0, .int .i64 kk, .slice c kl d] _ rfl VF.out Tryz.underlying28 rfl (by kernel_rfl)) rfl ⟨c, d, rfl, HO.out, BR.out⟩
    · rw [hr]
      have HC := Hid.mk hc
      have hif : (if M.c = 0 then M.pl m else 0) = 0 := by rw [if_neg hc]
      obtain ⟨kc, hkc⟩ : ∃ k, M.c = k := ⟨_, rfl⟩
      rw [hkc] at HC ⊢
      clear hr hc
      go_enter Tryz.func22, Tryz.ntmps22
      have B := Below.refl w.heap.size w
      replace ha := ha.kept (belowA w (.cells #[.int .i64 0, .int .i64 0, .slice none 0 0] 28))
      replace hb := hb.kept (belowA w (.cells #[.int .i64 0, .int .i64 0, .slice none 0 0] 28))
      replace B := thenB B (belowA w (.cells #[.int .i64 0, .int .i64 0, .slice none 0 0] 28))
      have VR := V.new w [.int .i64 0, .int .i64 0, .slice none 0 0] 28
      obtain ⟨s_VR, f_VR, z_VR⟩ := VR.open
      have Bo := B
      go_wp2_with fail
      refine (CB.out _ ha).mono ?_
      rintro e w61 ⟨p, g, c0, d0, rfl, H, b61⟩
      clear s_VR f_VR z_VR
      have S61 := b61.size
      simp only [World.size_alloc] at S61
      replace VR := VR.kept b61
      replace ha := ha.kept b61
      replace hb := hb.kept b61
      replace B := thenB B b61
      clear b61
      obtain ⟨s_VR, f_VR, z_VR⟩ := VR.open
      have Bo := B
      have HLT1 := Hid.mk H.lt
      have hvr := Hid.mk VR.1
      go_wp2_with fail
      refine (CB2.out _ hb).mono ?_
      rintro e w62 ⟨p2, g2, c2, d2, rfl, H2, b62⟩
      clear s_VR f_VR z_VR
      have S62 := b62.size
      replace VR := VR.kept b62
      replace ha := ha.kept b62
      replace hb := hb.kept b62
      replace H := H.kept b62
      replace B := thenB B b62
      clear b62
      obtain ⟨s_VR, f_VR, z_VR⟩ := VR.open
      have Bo := B
      have HLT2 := Hid.mk H2.lt
      have VP := H.v
      rw [hn] at VP
      clear s_VR f_VR z_VR
      obtain ⟨s_VR, f_VR, z_VR⟩ := VR.open
      obtain ⟨s_VP, f_VP, z_VP⟩ := VP.open
      have Bo := B
      have hR1 := (OwnI.lit w62 [(m : Int)] [.int .i64 m] rfl (by unfold maxLen; simp)).rd
      go_wp2_with fail
      refine (CA.out _ _ _ _ _ hR1).mono ?_
      rintro e wq ⟨rfl, rfl⟩
      clear s_VR f_VR z_VR s_VP f_VP z_VP
      replace VR := VR.kept (belowA w62 (.cells #[.int .i64 m] 2))
      replace VP := VP.kept (belowA w62 (.cells #[.int .i64 m] 2))
      replace ha := ha.kept (belowA w62 (.cells #[.int .i64 m] 2))
      replace hb := hb.kept (belowA w62 (.cells #[.int .i64 m] 2))
      replace H := H.kept (belowA w62 (.cells #[.int .i64 m] 2))
      replace H2 := H2.kept (belowA w62 (.cells #[.int .i64 m] 2))
      replace B := thenB B (belowA w62 (.cells #[.int .i64 m] 2))
      obtain ⟨s_VR, f_VR, z_VR⟩ := VR.open
      obtain ⟨s_VP, f_VP, z_VP⟩ := VP.open
      have Bo := B
      go_wp2_with fail
      refine (CT.out _ p2 g2 c2 d2 _ p g c0 d0 M hM.out _ H2 H (fun k hk e => by have h1 := (HLT2.out k hk).1; have h2 := (HLT1.out k e).2; omega)).mono ?_
      rintro e w9 ⟨c, d, rfl, H9, S9, -⟩
      rw [hif, hkc]
      clear s_VR f_VR z_VR s_VP f_VP z_VP
      have hvb := hvr.out
      have VRN : Hid (¬ BkX p2 g2 c2 w.heap.size) := Hid.mk (fun e => by have := (HLT2.out _ e).1; (try simp at *); omega)
      replace VR := VR.sm S9 VRN.out
      have B9 := S9.below' B (by have := B.size; omega) (fun j hj => by have := (HLT2.out j hj).1; have := hvr.out; omega)
      clear S9 H H2 VP ha hb B Bo hR1
      have B := B9
      clear B9
      have VP := H9.v
      have CN := Hid.mk (fun w h => answer_no p2 g2 c M.tb.length d kc HC.out w h)
      have HC2 := HC.out
      obtain ⟨s_VR, f_VR, z_VR⟩ := VR.open
      have Bo := B
      go_wp2_with fail
      refine (CN.out _ VP).mono ?_
      rintro e w63 ⟨rfl, b63⟩
      clear s_VR f_VR z_VR
      have S63 := b63.size
      replace VR := VR.kept b63
      replace B := thenB B b63
      clear b63
      obtain ⟨s_VR, f_VR, z_VR⟩ := VR.open
      have Bo := B
      clear s_VR f_VR z_VR
      have VF := Hid.mk (VR.filled [.int .i64 kc, .int .i64 0, .slice none 0 0] rfl)
      have HT := Hid.mk VR.there
      have BR := belowCells B (show w.heap.size ≤ w.heap.size by (first | omega | (simp; done) | (simp; omega))) 0 [.int .i64 kc, .int .i64 0, .slice none 0 0]
      replace BR := Hid.mk BR
      obtain ⟨s_VR, f_VR, z_VR⟩ := VR.open
      go_wp2_with (refine wpList_store_mid rfl 28 _ _ rfl (w.heap.size) 0 #[.int .i64 kc, .int .i64 0, .slice none 0 0] rfl rfl HT.out (by kernel_rfl) (by kernel_rfl) ?_)
      refine bodyPost_ret (v := .agg #[.int .i64 kc, .int .i64 0, .slice none 0 0]) (results_row Tryz.results22 _ _ (w.heap.size) [.int .i64 kc, .int .i64 0, .slice none 0 0] _ rfl VF.out Tryz.underlying28 rfl (by kernel_rfl)) rfl ⟨none, 0, rfl, OwnTerm.none, BR.out⟩

end Go.Proofs.YtfldgeokigcokaaGreat
