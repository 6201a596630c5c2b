/- MoveTerm: the model. -/
import Derived.Test.YtedippfnlaiapaaMvE
import Derived.Test.YtedippfnlaiapaaMvD
namespace Go.Proofs.Ytedippfnlaiapaa
open Go.RowKit

set_option maxRecDepth 20000 in
set_option maxHeartbeats 4000000 in
theorem specMoveTerm_ok (a : Option Addr) (n ca : Nat) (fr : List T4) (q : Int) (b : Option Addr) (nb cb : Nat) (tb : List T4) (w : World) (ha : RdTerm w a fr) (hn : fr.length = n) (hx : n ≤ 1048576) (hca : n ≤ ca) (hlow : Hid (∀ b : Addr, a = some b → b.block < w.heap.size)) (hb : RdTerm w b tb) (hnb : tb.length = nb) (hxb : nb ≤ 1048576) (hcb : nb ≤ cb) (hcn : b = none → cb = 0) :
    Calls Try.prog 44 #[.slice a n ca, .int .i64 q, .slice b nb cb] w fun e w' => ∃ c d, e = .returned (.agg #[.int .i64 (mvF fr q tb).c, .int .i64 (mvF fr q tb).k, .slice c (mvF fr q tb).l.length d]) ∧ OwnTerm w' w.heap.size c d (mvF fr q tb).l ∧ Below w.heap.size w w' := by
  have q1 := build_tr0'
  have CF := Hid.mk (fun w h => specTermsFault_ok a n ca fr w h hn (by unfold maxLen; omega) hca)
  have CG := Hid.mk (fun w h => specTermsFault_ok b nb cb tb w h hnb (by unfold maxLen; omega) hcb)
  have CA := Hid.mk (fun w => l5At_ok a n ca q w (by unfold maxLen; omega))
  have HW := mvF_ways fr q tb
  rw [hn] at HW
  rcases HW with ⟨h1, hr⟩ | ⟨h1, h2, hr⟩ | ⟨h1, h2, h3, hr⟩ | ⟨h1, h2, h3, hr⟩
  · have h2 : (tfC fr != 0) = true := by simp [h1]
    rw [hr]
    clear hr h1
    generalize tfC fr = kk at *
    go_enter Try.func44, Try.ntmps44
    have B := Below.refl w.heap.size w
    replace ha := ha.kept (belowA w (.cells #[.int .i64 0, .int .i64 0, .slice none 0 0] 30))
    replace hb := hb.kept (belowA w (.cells #[.int .i64 0, .int .i64 0, .slice none 0 0] 30))
    replace B := thenB B (belowA w (.cells #[.int .i64 0, .int .i64 0, .slice none 0 0] 30))
    have VR := V.new w [.int .i64 0, .int .i64 0, .slice none 0 0] 30
    obtain ⟨s_VR, f_VR, z_VR⟩ := VR.open
    have Bo := B
    go_wp2_with fail
    refine (CF.out _ ha).mono ?_
    rintro e w1 ⟨rfl, b1⟩
    clear s_VR f_VR z_VR
    have S1 := b1.size
    simp only [World.size_alloc] at S1
    replace VR := VR.kept b1
    replace ha := ha.kept b1
    replace hb := hb.kept b1
    replace B := thenB B b1
    clear b1
    obtain ⟨s_VR, f_VR, z_VR⟩ := VR.open
    have Bo := B
    clear s_VR f_VR z_VR
    have VF := Hid.mk (VR.filled [.int .i64 kk, .int .i64 0, .slice none 0 0] rfl)
    have HT := Hid.mk VR.there
    have BR := belowCells B (show w.heap.size ≤ w.heap.size by (first | omega | (simp; done) | (simp; omega))) 0 [.int .i64 kk, .int .i64 0, .slice none 0 0]
    replace BR := Hid.mk BR
    obtain ⟨s_VR, f_VR, z_VR⟩ := VR.open
    go_wp2_with (refine wpList_store_mid rfl 30 _ _ rfl (w.heap.size) 0 #[.int .i64 kk, .int .i64 0, .slice none 0 0] rfl rfl HT.out (by kernel_rfl) (by kernel_rfl) ?_)
    refine bodyPost_ret (v := .agg #[.int .i64 kk, .int .i64 0, .slice none 0 0]) (results_row Try.results44 _ _ (w.heap.size) [.int .i64 kk, .int .i64 0, .slice none 0 0] _ rfl VF.out Try.underlying30 rfl (by kernel_rfl)) rfl ⟨none, 0, rfl, OwnTerm.none, BR.out⟩
  · have h3 : (tfC tb != 0) = true := by simp [h2]
    rw [hr]
    rw [h1] at CF
    clear hr h1 h2
    generalize tfC tb = kk at *
    go_enter Try.func44, Try.ntmps44
    have B := Below.refl w.heap.size w
    replace ha := ha.kept (belowA w (.cells #[.int .i64 0, .int .i64 0, .slice none 0 0] 30))
    replace hb := hb.kept (belowA w (.cells #[.int .i64 0, .int .i64 0, .slice none 0 0] 30))
    replace B := thenB B (belowA w (.cells #[.int .i64 0, .int .i64 0, .slice none 0 0] 30))
    have VR := V.new w [.int .i64 0, .int .i64 0, .slice none 0 0] 30
    obtain ⟨s_VR, f_VR, z_VR⟩ := VR.open
    have Bo := B
    go_wp2_with fail
    refine (CF.out _ ha).mono ?_
    rintro e w21 ⟨rfl, b21⟩
    clear s_VR f_VR z_VR
    have S21 := b21.size
    simp only [World.size_alloc] at S21
    replace VR := VR.kept b21
    replace ha := ha.kept b21
    replace hb := hb.kept b21
    replace B := thenB B b21
    clear b21
    obtain ⟨s_VR, f_VR, z_VR⟩ := VR.open
    have Bo := B
    go_wp2_with fail
    refine (CG.out _ hb).mono ?_
    rintro e w22 ⟨rfl, b22⟩
    clear s_VR f_VR z_VR
    have S22 := b22.size
    replace VR := VR.kept b22
    replace ha := ha.kept b22
    replace hb := hb.kept b22
    replace B := thenB B b22
    clear b22
    obtain ⟨s_VR, f_VR, z_VR⟩ := VR.open
    have Bo := B
    clear s_VR f_VR z_VR
    have VF := Hid.mk (VR.filled [.int .i64 kk, .int .i64 0, .slice none 0 0] rfl)
    have HT := Hid.mk VR.there
    have BR := belowCells B (show w.heap.size ≤ w.heap.size by (first | omega | (simp; done) | (simp; omega))) 0 [.int .i64 kk, .int .i64 0, .slice none 0 0]
    replace BR := Hid.mk BR
    obtain ⟨s_VR, f_VR, z_VR⟩ := VR.open
    go_wp2_with (refine wpList_store_mid rfl 30 _ _ rfl (w.heap.size) 0 #[.int .i64 kk, .int .i64 0, .slice none 0 0] rfl rfl HT.out (by kernel_rfl) (by kernel_rfl) ?_)
    refine bodyPost_ret (v := .agg #[.int .i64 kk, .int .i64 0, .slice none 0 0]) (results_row Try.results44 _ _ (w.heap.size) [.int .i64 kk, .int .i64 0, .slice none 0 0] _ rfl VF.out Try.underlying30 rfl (by kernel_rfl)) rfl ⟨none, 0, rfl, OwnTerm.none, BR.out⟩
  · rw [hr]
    rw [h1] at CF
    rw [h2] at CG
    rw [h3] at CA
    clear hr h1 h2 h3
    go_enter Try.func44, Try.ntmps44
    have B := Below.refl w.heap.size w
    replace ha := ha.kept (belowA w (.cells #[.int .i64 0, .int .i64 0, .slice none 0 0] 30))
    replace hb := hb.kept (belowA w (.cells #[.int .i64 0, .int .i64 0, .slice none 0 0] 30))
    replace B := thenB B (belowA w (.cells #[.int .i64 0, .int .i64 0, .slice none 0 0] 30))
    have VR := V.new w [.int .i64 0, .int .i64 0, .slice none 0 0] 30
    obtain ⟨s_VR, f_VR, z_VR⟩ := VR.open
    have Bo := B
    go_wp2_with fail
    refine (CF.out _ ha).mono ?_
    rintro e w41 ⟨rfl, b41⟩
    clear s_VR f_VR z_VR
    have S41 := b41.size
    simp only [World.size_alloc] at S41
    replace VR := VR.kept b41
    replace ha := ha.kept b41
    replace hb := hb.kept b41
    replace B := thenB B b41
    clear b41
    obtain ⟨s_VR, f_VR, z_VR⟩ := VR.open
    have Bo := B
    go_wp2_with fail
    refine (CG.out _ hb).mono ?_
    rintro e w42 ⟨rfl, b42⟩
    clear s_VR f_VR z_VR
    have S42 := b42.size
    replace VR := VR.kept b42
    replace ha := ha.kept b42
    replace hb := hb.kept b42
    replace B := thenB B b42
    clear b42
    obtain ⟨s_VR, f_VR, z_VR⟩ := VR.open
    have Bo := B
    go_wp2_with fail
    refine (CA.out _).mono ?_
    rintro e wq ⟨rfl, rfl⟩
    clear s_VR f_VR z_VR
    have VF := Hid.mk (VR.filled [.int .i64 3, .int .i64 0, .slice none 0 0] rfl)
    have HT := Hid.mk VR.there
    have BR := belowCells B (show w.heap.size ≤ w.heap.size by (first | omega | (simp; done) | (simp; omega))) 0 [.int .i64 3, .int .i64 0, .slice none 0 0]
    replace BR := Hid.mk BR
    obtain ⟨s_VR, f_VR, z_VR⟩ := VR.open
    go_wp2_with (refine wpList_store_mid rfl 30 _ _ rfl (w.heap.size) 0 #[.int .i64 3, .int .i64 0, .slice none 0 0] rfl rfl HT.out (by kernel_rfl) (by kernel_rfl) ?_)
    refine bodyPost_ret (v := .agg #[.int .i64 3, .int .i64 0, .slice none 0 0]) (results_row Try.results44 _ _ (w.heap.size) [.int .i64 3, .int .i64 0, .slice none 0 0] _ rfl VF.out Try.underlying30 rfl (by kernel_rfl)) rfl ⟨none, 0, rfl, OwnTerm.none, BR.out⟩
  · rw [hr]
    have HV := h1
    have hl4 := (tfC_zero h2).1
    obtain ⟨hq0, hq1⟩ := btw_iff.1 h3
    obtain ⟨m, rfl⟩ : ∃ m : Nat, q = (m : Int) := ⟨q.toNat, by omega⟩
    have hm : m < n := by omega
    obtain ⟨M, hM⟩ : ∃ M, mvR fr (prL fr m) (fun _ => 0) tb = M := ⟨_, rfl⟩
    have CM := Hid.mk (fun w ha hb hl => l5Move_ok a n ca fr m b nb cb tb w ha hn HV hm hl hb hnb (by omega) hcn M hM)
    have hP := mvP_ways fr (m : Int) tb
    rw [Int.toNat_natCast, hM] at hP
    replace hM := Hid.mk hM
    have hE : mvP fr m tb = ⟨M.c, if M.c = 0 then M.pl m else 0, if M.c = 0 then M.tb else []⟩ := by
      rcases hP with ⟨hc, hr⟩ | ⟨hc, hr⟩
      · rw [hr, if_pos hc, if_pos hc, hc]
      · rw [hr, if_neg hc, if_neg hc]
    rw [hE]
    rw [h1] at CF
    rw [h2] at CG
    rw [h3] at CA
    unfold MoveAt at CM
    generalize (if M.c = 0 then M.pl m else 0) = kk at *
    generalize (if M.c = 0 then M.tb else []) = ls at *
    generalize M.c = kc at *
    obtain ⟨kl, hkl⟩ : ∃ l, ls.length = l := ⟨_, rfl⟩
    simp only
    rw [hkl] at CM ⊢
    clear hr h1 h2 h3 hq0 hq1 HV hP hE
    go_enter Try.func44, Try.ntmps44
    have B := Below.refl w.heap.size w
    replace ha := ha.kept (belowA w (.cells #[.int .i64 0, .int .i64 0, .slice none 0 0] 30))
    replace hb := hb.kept (belowA w (.cells #[.int .i64 0, .int .i64 0, .slice none 0 0] 30))
    replace B := thenB B (belowA w (.cells #[.int .i64 0, .int .i64 0, .slice none 0 0] 30))
    have VR := V.new w [.int .i64 0, .int .i64 0, .slice none 0 0] 30
    obtain ⟨s_VR, f_VR, z_VR⟩ := VR.open
    have Bo := B
    go_wp2_with fail
    refine (CF.out _ ha).mono ?_
    rintro e w61 ⟨rfl, b61⟩
    clear s_VR f_VR z_VR
    have S61 := b61.size
    simp only [World.size_alloc] at S61
    replace VR := VR.kept b61
    replace ha := ha.kept b61
    replace hb := hb.kept b61
    replace B := thenB B b61
    clear b61
    obtain ⟨s_VR, f_VR, z_VR⟩ := VR.open
    have Bo := B
    go_wp2_with fail
    refine (CG.out _ hb).mono ?_
    rintro e w62 ⟨rfl, b62⟩
    clear s_VR f_VR z_VR
    have S62 := b62.size
    replace VR := VR.kept b62
    replace ha := ha.kept b62
    replace hb := hb.kept b62
    replace B := thenB B b62
    clear b62
    obtain ⟨s_VR, f_VR, z_VR⟩ := VR.open
    have Bo := B
    go_wp2_with fail
    refine (CA.out _).mono ?_
    rintro e wq ⟨rfl, rfl⟩
    go_wp2_with fail
    refine (CM.out _ ha hb (Hid.mk (fun b' hb' => by have := hlow.out b' hb'; have := B.size; omega))).mono ?_
    rintro e w63 ⟨c, d, rfl, O, b63⟩
    clear s_VR f_VR z_VR
    have S63 := b63.size
    replace VR := VR.kept b63
    replace ha := ha.kept b63
    replace hb := hb.kept b63
    replace B := thenB B b63
    clear b63
    obtain ⟨s_VR, f_VR, z_VR⟩ := VR.open
    have Bo := B
    have OL := Hid.mk (fun b hb => (O.lt b hb).1)
    clear s_VR f_VR z_VR
    have VF := Hid.mk (VR.filled [.int .i64 kc, .int .i64 kk, .slice c kl d] rfl)
    have HT := Hid.mk VR.there
    have BR := belowCells B (show w.heap.size ≤ w.heap.size by (first | omega | (simp; done) | (simp; omega))) 0 [.int .i64 kc, .int .i64 kk, .slice c kl d]
    replace BR := Hid.mk BR
    have HO := Hid.mk ((O.mono (show w.heap.size ≤ _ by first | omega | (simp; done) | (simp; omega))).apart (B := w.heap.size) (by intro b hb; have := OL.out b hb; first | omega | (simp at this; omega)) 0 [.int .i64 kc, .int .i64 kk, .slice c kl d])
    obtain ⟨s_VR, f_VR, z_VR⟩ := VR.open
    go_wp2_with (refine wpList_store_mid rfl 30 _ _ rfl (w.heap.size) 0 #[.int .i64 kc, .int .i64 kk, .slice c kl d] rfl rfl HT.out (by kernel_rfl) (by kernel_rfl) ?_)
    refine bodyPost_ret (v := .agg #[.int .i64 kc, .int .i64 kk, .slice c kl d]) (results_row Try.results44 _ _ (w.heap.size) [.int .i64 kc, .int .i64 kk, .slice c kl d] _ rfl VF.out Try.underlying30 rfl (by kernel_rfl)) rfl ⟨c, d, rfl, HO.out, BR.out⟩

end Go.Proofs.Ytedippfnlaiapaa
