/- TakeSeq of the program; l10Take, SeenIn, TakeSeq of the model. -/
import Derived.Test.YtkpdbdcfimdnjaaWnD
import Derived.Deep.DeepCutAuto
namespace Go.Proofs.Ytkpdbdcfimdnjaa
open Go.RowKit

theorem ts_ways (x : Wn) (s : Int) : (¬ wF x = 0 ∧ tsC x s = wF x ∧ tsR x s = (wF x, 0, ⟨0, 0⟩)) ∨ (wF x = 0 ∧ tsC x s = tkC x s ∧ tsR x s = tkR x s) := by
  by_cases h : wF x = 0
  · exact .inr ⟨h, by simp [tsC, h], by simp [tsR, tkR, tsC, h]⟩
  · exact .inl ⟨h, by simp [tsC, h], by simp [tsR, tsC, h]⟩

theorem tkR_no {x : Wn} {s : Int} (h : ¬ tkC x s = 0) : tkR x s = (tkC x s, 0, ⟨0, 0⟩) := by simp [tkR, h]

theorem tkR_yes {x : Wn} {s : Int} (h : tkC x s = 0) : tkR x s = (0, s, nxW x s) := by simp [tkR, h]

theorem tsR_no {x : Wn} {s : Int} (h : ¬ tsC x s = 0) : tsR x s = (tsC x s, 0, ⟨0, 0⟩) := by simp [tsR, h]

theorem tsR_yes {x : Wn} {s : Int} (h : tsC x s = 0) : tsR x s = (0, s, nxW x s) := by simp [tsR, h]

theorem ts_yes {x : Wn} {s : Int} (h : tsC x s = 0) : wF x = 0 ∧ tkC x s = 0 := by
  rcases ts_ways x s with ⟨h1, h2, _⟩ | ⟨h1, h2, _⟩
  · rw [h2] at h; exact absurd h h1
  · exact ⟨h1, by rw [← h2]; exact h⟩

set_option maxRecDepth 20000 in
set_option maxHeartbeats 4000000 in
theorem implTake_ok (x : Wn) (s : Int) (hs : -9223372036854775808 ≤ s ∧ s ≤ 9223372036854775807) (w : World) :
    Calls Try.prog 18 #[.agg #[.int .i64 x.t, .int .i64 x.b], .int .i64 s] w fun e w' => e = .returned (.agg #[.int .i64 (tsR x s).1, .int .i64 (tsR x s).2.1, .int .i64 (tsR x s).2.2.t, .int .i64 (tsR x s).2.2.b]) ∧ Below w.heap.size w w' := by
  have CF := Hid.mk (fun w => takeFault_ok x s hs w)
  by_cases h0 : tsC x s = 0
  · obtain ⟨h1, h2⟩ := ts_yes h0
    obtain ⟨r1, r2, r3, _⟩ := tkC_ok.mp h2
    have CW := Hid.mk (fun w => withTaken_ok x (wF_ok.mp h1).1 s r1 r2 r3 w)
    rw [tsR_yes h0]
    simp only [h0] at CF
    generalize nxW x s = y at *
    clear h0 h1 h2 r1 r2 r3
    go_enter Try.func18, Try.ntmps18
    have B := Below.refl w.heap.size w
    have Bo := B
    replace B := thenB B (belowA w (.cells #[.int .i64 x.t, .int .i64 x.b] 25))
    have VA := V.new w [.int .i64 x.t, .int .i64 x.b] 25
    replace VA := VA.kept (belowA (w.alloc (.cells #[.int .i64 x.t, .int .i64 x.b] 25)) (.cells #[.int .i64 0, .int .i64 0, .int .i64 0, .int .i64 0] 35))
    replace B := thenB B (belowA (w.alloc (.cells #[.int .i64 x.t, .int .i64 x.b] 25)) (.cells #[.int .i64 0, .int .i64 0, .int .i64 0, .int .i64 0] 35))
    have VR : V ((w.alloc (.cells #[.int .i64 x.t, .int .i64 x.b] 25)).alloc (.cells #[.int .i64 0, .int .i64 0, .int .i64 0, .int .i64 0] 35)) (w.heap.size + 1) [.int .i64 0, .int .i64 0, .int .i64 0, .int .i64 0] := V.newAt _ _ _ _ (by simp)
    obtain ⟨s_VA, f_VA, z_VA⟩ := VA.open
    obtain ⟨s_VR, f_VR, z_VR⟩ := VR.open
    have Bo := B
    go_wp2_with fail
    refine (CF.out _).mono ?_
    rintro e w1 ⟨rfl, b1⟩
    clear s_VA f_VA z_VA s_VR f_VR z_VR
    have S1 := b1.size
    simp only [World.size_alloc] at S1
    replace VA := VA.kept b1
    replace VR := VR.kept b1
    replace B := thenB B b1
    clear b1
    obtain ⟨s_VA, f_VA, z_VA⟩ := VA.open
    obtain ⟨s_VR, f_VR, z_VR⟩ := VR.open
    have Bo := B
    go_wp2_with fail
    refine (CW.out _).mono ?_
    rintro e w2 ⟨rfl, b2⟩
    clear s_VA f_VA z_VA s_VR f_VR z_VR
    have S2 := b2.size
    replace VA := VA.kept b2
    replace VR := VR.kept b2
    replace B := thenB B b2
    clear b2
    obtain ⟨s_VA, f_VA, z_VA⟩ := VA.open
    obtain ⟨s_VR, f_VR, z_VR⟩ := VR.open
    have Bo := B
    clear s_VA f_VA z_VA s_VR f_VR z_VR
    have VF := Hid.mk (VR.filled [.int .i64 0, .int .i64 s, .int .i64 y.t, .int .i64 y.b] rfl)
    have BR := belowCells B (show w.heap.size ≤ w.heap.size + 1 by (first | omega | (simp; done) | (simp; omega))) 0 [.int .i64 0, .int .i64 s, .int .i64 y.t, .int .i64 y.b]
    have HT := Hid.mk VR.there
    replace BR := Hid.mk BR
    obtain ⟨s_VA, f_VA, z_VA⟩ := VA.open
    obtain ⟨s_VR, f_VR, z_VR⟩ := VR.open
    go_wp2_with (refine wpList_store_mid rfl 35 _ _ rfl (w.heap.size + 1) 0 #[.int .i64 0, .int .i64 s, .int .i64 y.t, .int .i64 y.b] rfl rfl HT.out (by kernel_rfl) (by kernel_rfl) ?_)
    refine bodyPost_ret (v := .agg #[.int .i64 0, .int .i64 s, .int .i64 y.t, .int .i64 y.b]) (results_row Try.results18 _ _ (w.heap.size + 1) [.int .i64 0, .int .i64 s, .int .i64 y.t, .int .i64 y.b] _ rfl VF.out Try.underlying35 rfl (by kernel_rfl)) rfl ⟨rfl, BR.out⟩
  · have hne : (tsC x s != 0) = true := by simp [h0]
    rw [tsR_no h0]
    generalize tsC x s = k at *
    clear h0
    go_enter Try.func18, Try.ntmps18
    have B := Below.refl w.heap.size w
    have Bo := B
    replace B := thenB B (belowA w (.cells #[.int .i64 x.t, .int .i64 x.b] 25))
    have VA := V.new w [.int .i64 x.t, .int .i64 x.b] 25
    replace VA := VA.kept (belowA (w.alloc (.cells #[.int .i64 x.t, .int .i64 x.b] 25)) (.cells #[.int .i64 0, .int .i64 0, .int .i64 0, .int .i64 0] 35))
    replace B := thenB B (belowA (w.alloc (.cells #[.int .i64 x.t, .int .i64 x.b] 25)) (.cells #[.int .i64 0, .int .i64 0, .int .i64 0, .int .i64 0] 35))
    have VR : V ((w.alloc (.cells #[.int .i64 x.t, .int .i64 x.b] 25)).alloc (.cells #[.int .i64 0, .int .i64 0, .int .i64 0, .int .i64 0] 35)) (w.heap.size + 1) [.int .i64 0, .int .i64 0, .int .i64 0, .int .i64 0] := V.newAt _ _ _ _ (by simp)
    obtain ⟨s_VA, f_VA, z_VA⟩ := VA.open
    obtain ⟨s_VR, f_VR, z_VR⟩ := VR.open
    have Bo := B
    go_wp2_with fail
    refine (CF.out _).mono ?_
    rintro e w1 ⟨rfl, b1⟩
    clear s_VA f_VA z_VA s_VR f_VR z_VR
    have S1 := b1.size
    simp only [World.size_alloc] at S1
    replace VA := VA.kept b1
    replace VR := VR.kept b1
    replace B := thenB B b1
    clear b1
    obtain ⟨s_VA, f_VA, z_VA⟩ := VA.open
    obtain ⟨s_VR, f_VR, z_VR⟩ := VR.open
    have Bo := B
    clear s_VA f_VA z_VA s_VR f_VR z_VR
    have VF := Hid.mk (VR.filled [.int .i64 k, .int .i64 0, .int .i64 0, .int .i64 0] rfl)
    have BR := belowCells B (show w.heap.size ≤ w.heap.size + 1 by (first | omega | (simp; done) | (simp; omega))) 0 [.int .i64 k, .int .i64 0, .int .i64 0, .int .i64 0]
    have HT := Hid.mk VR.there
    replace BR := Hid.mk BR
    obtain ⟨s_VA, f_VA, z_VA⟩ := VA.open
    obtain ⟨s_VR, f_VR, z_VR⟩ := VR.open
    go_wp2_with (refine wpList_store_mid rfl 35 _ _ rfl (w.heap.size + 1) 0 #[.int .i64 k, .int .i64 0, .int .i64 0, .int .i64 0] rfl rfl HT.out (by kernel_rfl) (by kernel_rfl) ?_)
    refine bodyPost_ret (v := .agg #[.int .i64 k, .int .i64 0, .int .i64 0, .int .i64 0]) (results_row Try.results18 _ _ (w.heap.size + 1) [.int .i64 k, .int .i64 0, .int .i64 0, .int .i64 0] _ rfl VF.out Try.underlying35 rfl (by kernel_rfl)) rfl ⟨rfl, BR.out⟩

set_option maxRecDepth 20000 in
set_option maxHeartbeats 4000000 in
theorem l10Take_ok (x : Wn) (hi : inW x) (s : Int) (hs : -9223372036854775808 ≤ s ∧ s ≤ 9223372036854775807) (w : World) :
    Calls Try.prog 44 #[.agg #[.int .i64 x.t, .int .i64 x.b], .int .i64 s] w fun e w' => e = .returned (.agg #[.int .i64 (tkR x s).1, .int .i64 (tkR x s).2.1, .int .i64 (tkR x s).2.2.t, .int .i64 (tkR x s).2.2.b]) ∧ Below w.heap.size w w' := by
  have CB := Hid.mk (l1In_ok s 1 1099511627776)
  have CO := Hid.mk (fun w => l10Old_ok x hi s w)
  rcases tk_ways x s with ⟨h1, e⟩ | ⟨h1, h2, e⟩ | ⟨h1, h2, h3, e⟩ | ⟨h1, h2, h3, e⟩
  · rw [tkR_no (by rw [e]; decide), e]
    have hb : btw s 1 1099511627776 = false := by cases h : btw s 1 1099511627776; rfl; exact absurd (btw_iff.1 h) h1
    simp only [hb] at CB
    clear h1 e hb
    go_enter Try.func44, Try.ntmps44
    have B := Below.refl w.heap.size w
    have Bo := B
    replace B := thenB B (belowA w (.cells #[.int .i64 x.t, .int .i64 x.b] 25))
    have VA := V.new w [.int .i64 x.t, .int .i64 x.b] 25
    replace VA := VA.kept (belowA (w.alloc (.cells #[.int .i64 x.t, .int .i64 x.b] 25)) (.cells #[.int .i64 0, .int .i64 0, .int .i64 0, .int .i64 0] 35))
    replace B := thenB B (belowA (w.alloc (.cells #[.int .i64 x.t, .int .i64 x.b] 25)) (.cells #[.int .i64 0, .int .i64 0, .int .i64 0, .int .i64 0] 35))
    have VR : V ((w.alloc (.cells #[.int .i64 x.t, .int .i64 x.b] 25)).alloc (.cells #[.int .i64 0, .int .i64 0, .int .i64 0, .int .i64 0] 35)) (w.heap.size + 1) [.int .i64 0, .int .i64 0, .int .i64 0, .int .i64 0] := V.newAt _ _ _ _ (by simp)
    obtain ⟨s_VA, f_VA, z_VA⟩ := VA.open
    obtain ⟨s_VR, f_VR, z_VR⟩ := VR.open
    have Bo := B
    go_wp2_with fail
    refine (CB.out _).mono ?_
    rintro e wq ⟨rfl, rfl⟩
    clear s_VA f_VA z_VA s_VR f_VR z_VR
    have VF := Hid.mk (VR.filled [.int .i64 3, .int .i64 0, .int .i64 0, .int .i64 0] rfl)
    have BR := belowCells B (show w.heap.size ≤ w.heap.size + 1 by (first | omega | (simp; done) | (simp; omega))) 0 [.int .i64 3, .int .i64 0, .int .i64 0, .int .i64 0]
    have HT := Hid.mk VR.there
    replace BR := Hid.mk BR
    obtain ⟨s_VA, f_VA, z_VA⟩ := VA.open
    obtain ⟨s_VR, f_VR, z_VR⟩ := VR.open
    go_wp2_with (refine wpList_store_mid rfl 35 _ _ rfl (w.heap.size + 1) 0 #[.int .i64 3, .int .i64 0, .int .i64 0, .int .i64 0] rfl rfl HT.out (by kernel_rfl) (by kernel_rfl) ?_)
    refine bodyPost_ret (v := .agg #[.int .i64 3, .int .i64 0, .int .i64 0, .int .i64 0]) (results_row Try.results44 _ _ (w.heap.size + 1) [.int .i64 3, .int .i64 0, .int .i64 0, .int .i64 0] _ rfl VF.out Try.underlying35 rfl (by kernel_rfl)) rfl ⟨rfl, BR.out⟩
  · rw [tkR_no (by rw [e]; decide), e]
    have hb : btw s 1 1099511627776 = true := btw_iff.2 h1
    simp only [hb] at CB
    unfold frW at h2
    have d1 : decide (s ≤ x.t - 32) = true := by simp; omega
    simp only [d1] at CO
    clear h1 e hb h2 d1
    go_enter Try.func44, Try.ntmps44
    have B := Below.refl w.heap.size w
    have Bo := B
    replace B := thenB B (belowA w (.cells #[.int .i64 x.t, .int .i64 x.b] 25))
    have VA := V.new w [.int .i64 x.t, .int .i64 x.b] 25
    replace VA := VA.kept (belowA (w.alloc (.cells #[.int .i64 x.t, .int .i64 x.b] 25)) (.cells #[.int .i64 0, .int .i64 0, .int .i64 0, .int .i64 0] 35))
    replace B := thenB B (belowA (w.alloc (.cells #[.int .i64 x.t, .int .i64 x.b] 25)) (.cells #[.int .i64 0, .int .i64 0, .int .i64 0, .int .i64 0] 35))
    have VR : V ((w.alloc (.cells #[.int .i64 x.t, .int .i64 x.b] 25)).alloc (.cells #[.int .i64 0, .int .i64 0, .int .i64 0, .int .i64 0] 35)) (w.heap.size + 1) [.int .i64 0, .int .i64 0, .int .i64 0, .int .i64 0] := V.newAt _ _ _ _ (by simp)
    obtain ⟨s_VA, f_VA, z_VA⟩ := VA.open
    obtain ⟨s_VR, f_VR, z_VR⟩ := VR.open
    have Bo := B
    go_wp2_with fail
    refine (CB.out _).mono ?_
    rintro e wq ⟨rfl, rfl⟩
    go_wp2_with fail
    refine (CO.out _).mono ?_
    rintro e w1 ⟨rfl, b1⟩
    clear s_VA f_VA z_VA s_VR f_VR z_VR
    have S1 := b1.size
    simp only [World.size_alloc] at S1
    replace VA := VA.kept b1
    replace VR := VR.kept b1
    replace B := thenB B b1
    clear b1
    obtain ⟨s_VA, f_VA, z_VA⟩ := VA.open
    obtain ⟨s_VR, f_VR, z_VR⟩ := VR.open
    have Bo := B
    clear s_VA f_VA z_VA s_VR f_VR z_VR
    have VF := Hid.mk (VR.filled [.int .i64 10, .int .i64 0, .int .i64 0, .int .i64 0] rfl)
    have BR := belowCells B (show w.heap.size ≤ w.heap.size + 1 by (first | omega | (simp; done) | (simp; omega))) 0 [.int .i64 10, .int .i64 0, .int .i64 0, .int .i64 0]
    have HT := Hid.mk VR.there
    replace BR := Hid.mk BR
    obtain ⟨s_VA, f_VA, z_VA⟩ := VA.open
    obtain ⟨s_VR, f_VR, z_VR⟩ := VR.open
    go_wp2_with (refine wpList_store_mid rfl 35 _ _ rfl (w.heap.size + 1) 0 #[.int .i64 10, .int .i64 0, .int .i64 0, .int .i64 0] rfl rfl HT.out (by kernel_rfl) (by kernel_rfl) ?_)
    refine bodyPost_ret (v := .agg #[.int .i64 10, .int .i64 0, .int .i64 0, .int .i64 0]) (results_row Try.results44 _ _ (w.heap.size + 1) [.int .i64 10, .int .i64 0, .int .i64 0, .int .i64 0] _ rfl VF.out Try.underlying35 rfl (by kernel_rfl)) rfl ⟨rfl, BR.out⟩
  · rw [tkR_no (by rw [e]; decide), e]
    have hb : btw s 1 1099511627776 = true := btw_iff.2 h1
    simp only [hb] at CB
    unfold frW at h2
    have d1 : decide (s ≤ x.t - 32) = false := by simp; omega
    simp only [d1] at CO
    have CW := Hid.mk (fun w => l10Had_ok x hi s (by omega) w)
    simp only [h3] at CW
    clear h1 e hb h2 d1 h3
    go_enter Try.func44, Try.ntmps44
    have B := Below.refl w.heap.size w
    have Bo := B
    replace B := thenB B (belowA w (.cells #[.int .i64 x.t, .int .i64 x.b] 25))
    have VA := V.new w [.int .i64 x.t, .int .i64 x.b] 25
    replace VA := VA.kept (belowA (w.alloc (.cells #[.int .i64 x.t, .int .i64 x.b] 25)) (.cells #[.int .i64 0, .int .i64 0, .int .i64 0, .int .i64 0] 35))
    replace B := thenB B (belowA (w.alloc (.cells #[.int .i64 x.t, .int .i64 x.b] 25)) (.cells #[.int .i64 0, .int .i64 0, .int .i64 0, .int .i64 0] 35))
    have VR : V ((w.alloc (.cells #[.int .i64 x.t, .int .i64 x.b] 25)).alloc (.cells #[.int .i64 0, .int .i64 0, .int .i64 0, .int .i64 0] 35)) (w.heap.size + 1) [.int .i64 0, .int .i64 0, .int .i64 0, .int .i64 0] := V.newAt _ _ _ _ (by simp)
    obtain ⟨s_VA, f_VA, z_VA⟩ := VA.open
    obtain ⟨s_VR, f_VR, z_VR⟩ := VR.open
    have Bo := B
    go_wp2_with fail
    refine (CB.out _).mono ?_
    rintro e wq ⟨rfl, rfl⟩
    go_wp2_with fail
    refine (CO.out _).mono ?_
    rintro e w1 ⟨rfl, b1⟩
    clear s_VA f_VA z_VA s_VR f_VR z_VR
    have S1 := b1.size
    simp only [World.size_alloc] at S1
    replace VA := VA.kept b1
    replace VR := VR.kept b1
    replace B := thenB B b1
    clear b1
    obtain ⟨s_VA, f_VA, z_VA⟩ := VA.open
    obtain ⟨s_VR, f_VR, z_VR⟩ := VR.open
    have Bo := B
    go_wp2_with fail
    refine (CW.out _).mono ?_
    rintro e w2 ⟨rfl, b2⟩
    clear s_VA f_VA z_VA s_VR f_VR z_VR
    have S2 := b2.size
    replace VA := VA.kept b2
    replace VR := VR.kept b2
    replace B := thenB B b2
    clear b2
    obtain ⟨s_VA, f_VA, z_VA⟩ := VA.open
    obtain ⟨s_VR, f_VR, z_VR⟩ := VR.open
    have Bo := B
    clear s_VA f_VA z_VA s_VR f_VR z_VR
    have VF := Hid.mk (VR.filled [.int .i64 7, .int .i64 0, .int .i64 0, .int .i64 0] rfl)
    have BR := belowCells B (show w.heap.size ≤ w.heap.size + 1 by (first | omega | (simp; done) | (simp; omega))) 0 [.int .i64 7, .int .i64 0, .int .i64 0, .int .i64 0]
    have HT := Hid.mk VR.there
    replace BR := Hid.mk BR
    obtain ⟨s_VA, f_VA, z_VA⟩ := VA.open
    obtain ⟨s_VR, f_VR, z_VR⟩ := VR.open
    go_wp2_with (refine wpList_store_mid rfl 35 _ _ rfl (w.heap.size + 1) 0 #[.int .i64 7, .int .i64 0, .int .i64 0, .int .i64 0] rfl rfl HT.out (by kernel_rfl) (by kernel_rfl) ?_)
    refine bodyPost_ret (v := .agg #[.int .i64 7, .int .i64 0, .int .i64 0, .int .i64 0]) (results_row Try.results44 _ _ (w.heap.size + 1) [.int .i64 7, .int .i64 0, .int .i64 0, .int .i64 0] _ rfl VF.out Try.underlying35 rfl (by kernel_rfl)) rfl ⟨rfl, BR.out⟩
  · rw [tkR_yes e]
    have hb : btw s 1 1099511627776 = true := btw_iff.2 h1
    simp only [hb] at CB
    unfold frW at h2
    have d1 : decide (s ≤ x.t - 32) = false := by simp; omega
    simp only [d1] at CO
    have CW := Hid.mk (fun w => l10Had_ok x hi s (by omega) w)
    simp only [h3] at CW
    clear e hb d1 h3
    obtain ⟨i1, i2, i3, i4⟩ := hi
    obtain ⟨b, hbb⟩ := Int.eq_ofNat_of_zero_le i3
    by_cases h : s ≤ x.t
    · have d1 : decide (s ≤ x.t) = true := by simp [h]
      have ee : nxW x s = ⟨x.t, ((x.b.toNat ||| 2 ^ (x.t - s).toNat : Nat) : Int)⟩ := by unfold nxW; rw [if_neg (by omega)]
      rw [ee]
      clear ee
      have hn : 0 ≤ x.t - s := by omega
      have hn2 : x.t - s ≤ 1099511627776 := by omega
      have hle : (x.t - s).toNat ≤ 31 := by omega
      have hS : Op.shift .shl .i64 1 .u64 (x.t - s) = pure (.int .i64 ((2 ^ (x.t - s).toNat : Nat) : Int)) := by
        have h9 := shift_shl_any .i64 .u64 1 (x.t - s) hn
        rw [show IntKind.i64.bits = 64 from rfl, shl1 hle] at h9
        exact h9
      have hp : 2 ^ (x.t - s).toNat ≤ 2 ^ 31 := Nat.pow_le_pow_right (by omega) hle
      generalize 2 ^ (x.t - s).toNat = p at *
      have hO : bits .or .i64 x.b (p : Int) = ((x.b.toNat ||| p : Nat) : Int) := by rw [hbb, Int.toNat_natCast]; exact or64 b p (by omega) (by omega)
      generalize x.b.toNat ||| p = r at *
      clear h h2 hle h1 hbb
      go_enter Try.func44, Try.ntmps44
      have B := Below.refl w.heap.size w
      have Bo := B
      replace B := thenB B (belowA w (.cells #[.int .i64 x.t, .int .i64 x.b] 25))
      have VA := V.new w [.int .i64 x.t, .int .i64 x.b] 25
      replace VA := VA.kept (belowA (w.alloc (.cells #[.int .i64 x.t, .int .i64 x.b] 25)) (.cells #[.int .i64 0, .int .i64 0, .int .i64 0, .int .i64 0] 35))
      replace B := thenB B (belowA (w.alloc (.cells #[.int .i64 x.t, .int .i64 x.b] 25)) (.cells #[.int .i64 0, .int .i64 0, .int .i64 0, .int .i64 0] 35))
      have VR : V ((w.alloc (.cells #[.int .i64 x.t, .int .i64 x.b] 25)).alloc (.cells #[.int .i64 0, .int .i64 0, .int .i64 0, .int .i64 0] 35)) (w.heap.size + 1) [.int .i64 0, .int .i64 0, .int .i64 0, .int .i64 0] := V.newAt _ _ _ _ (by simp)
      obtain ⟨s_VA, f_VA, z_VA⟩ := VA.open
      obtain ⟨s_VR, f_VR, z_VR⟩ := VR.open
      have Bo := B
      go_wp2_with fail
      refine (CB.out _).mono ?_
      rintro e wq ⟨rfl, rfl⟩
      go_wp2_with fail
      refine (CO.out _).mono ?_
      rintro e w1 ⟨rfl, b1⟩
      clear s_VA f_VA z_VA s_VR f_VR z_VR
      have S1 := b1.size
      simp only [World.size_alloc] at S1
      replace VA := VA.kept b1
      replace VR := VR.kept b1
      replace B := thenB B b1
      clear b1
      obtain ⟨s_VA, f_VA, z_VA⟩ := VA.open
      obtain ⟨s_VR, f_VR, z_VR⟩ := VR.open
      have Bo := B
      go_wp2_with fail
      refine (CW.out _).mono ?_
      rintro e w2 ⟨rfl, b2⟩
      clear s_VA f_VA z_VA s_VR f_VR z_VR
      have S2 := b2.size
      replace VA := VA.kept b2
      replace VR := VR.kept b2
      replace B := thenB B b2
      clear b2
      obtain ⟨s_VA, f_VA, z_VA⟩ := VA.open
      obtain ⟨s_VR, f_VR, z_VR⟩ := VR.open
      have Bo := B
      clear s_VA f_VA z_VA s_VR f_VR z_VR
      have VF := Hid.mk (VR.filled [.int .i64 0, .int .i64 s, .int .i64 x.t, .int .i64 (r : Int)] rfl)
      have BR := belowCells B (show w.heap.size ≤ w.heap.size + 1 by (first | omega | (simp; done) | (simp; omega))) 0 [.int .i64 0, .int .i64 s, .int .i64 x.t, .int .i64 (r : Int)]
      have HT := Hid.mk VR.there
      replace BR := Hid.mk BR
      obtain ⟨s_VA, f_VA, z_VA⟩ := VA.open
      obtain ⟨s_VR, f_VR, z_VR⟩ := VR.open
      go_wp2_with (refine wpList_store_mid rfl 35 _ _ rfl (w.heap.size + 1) 0 #[.int .i64 0, .int .i64 s, .int .i64 x.t, .int .i64 (r : Int)] rfl rfl HT.out (by kernel_rfl) (by kernel_rfl) ?_)
      refine bodyPost_ret (v := .agg #[.int .i64 0, .int .i64 s, .int .i64 x.t, .int .i64 (r : Int)]) (results_row Try.results44 _ _ (w.heap.size + 1) [.int .i64 0, .int .i64 s, .int .i64 x.t, .int .i64 (r : Int)] _ rfl VF.out Try.underlying35 rfl (by kernel_rfl)) rfl ⟨rfl, BR.out⟩
    · have d1 : decide (s ≤ x.t) = false := by simp; omega
      have ee : nxW x s = ⟨s, ((x.b.toNat * 2 ^ (s - x.t).toNat % 4294967296 ||| 1 : Nat) : Int)⟩ := by unfold nxW; rw [if_pos (by omega)]
      rw [ee]
      clear ee
      have hn : 0 ≤ s - x.t := by omega
      have hn2 : s - x.t ≤ 1099511627776 := by omega
      by_cases hf : s - x.t < 32
      · have d2 : decide (s - x.t < 32) = true := by simp [hf]
        have hle : (s - x.t).toNat ≤ 31 := by omega
        have hsh := shlI i3 i4 hle
        have hS : Op.shift .shl .i64 x.b .u64 (s - x.t) = pure (.int .i64 ((x.b.toNat * 2 ^ (s - x.t).toNat : Nat) : Int)) := by
          have h9 := shift_shl_any .i64 .u64 x.b (s - x.t) hn
          rw [show IntKind.i64.bits = 64 from rfl, hsh.1] at h9
          exact h9
        have hq := hsh.2
        clear hsh
        generalize x.b.toNat * 2 ^ (s - x.t).toNat = q at *
        have hO : bits .or .i64 (q : Int) 1 = ((q ||| 1 : Nat) : Int) := orBig' q (by omega)
        have hA : bits .and .i64 ((q ||| 1 : Nat) : Int) 4294967295 = (((q ||| 1) % 4294967296 : Nat) : Int) := andBig' _ (Nat.or_lt_two_pow (n := 63) (by omega) (by decide))
        rw [or1_mod] at hA
        generalize q ||| 1 = r at *
        generalize q % 4294967296 ||| 1 = v at *
        clear h h2 hle h1 hbb hf hq
        go_enter Try.func44, Try.ntmps44
        have B := Below.refl w.heap.size w
        have Bo := B
        replace B := thenB B (belowA w (.cells #[.int .i64 x.t, .int .i64 x.b] 25))
        have VA := V.new w [.int .i64 x.t, .int .i64 x.b] 25
        replace VA := VA.kept (belowA (w.alloc (.cells #[.int .i64 x.t, .int .i64 x.b] 25)) (.cells #[.int .i64 0, .int .i64 0, .int .i64 0, .int .i64 0] 35))
        replace B := thenB B (belowA (w.alloc (.cells #[.int .i64 x.t, .int .i64 x.b] 25)) (.cells #[.int .i64 0, .int .i64 0, .int .i64 0, .int .i64 0] 35))
        have VR : V ((w.alloc (.cells #[.int .i64 x.t, .int .i64 x.b] 25)).alloc (.cells #[.int .i64 0, .int .i64 0, .int .i64 0, .int .i64 0] 35)) (w.heap.size + 1) [.int .i64 0, .int .i64 0, .int .i64 0, .int .i64 0] := V.newAt _ _ _ _ (by simp)
        obtain ⟨s_VA, f_VA, z_VA⟩ := VA.open
        obtain ⟨s_VR, f_VR, z_VR⟩ := VR.open
        have Bo := B
        go_wp2_with fail
        refine (CB.out _).mono ?_
        rintro e wq ⟨rfl, rfl⟩
        go_wp2_with fail
        refine (CO.out _).mono ?_
        rintro e w1 ⟨rfl, b1⟩
        clear s_VA f_VA z_VA s_VR f_VR z_VR
        have S1 := b1.size
        simp only [World.size_alloc] at S1
        replace VA := VA.kept b1
        replace VR := VR.kept b1
        replace B := thenB B b1
        clear b1
        obtain ⟨s_VA, f_VA, z_VA⟩ := VA.open
        obtain ⟨s_VR, f_VR, z_VR⟩ := VR.open
        have Bo := B
        go_wp2_with fail
        refine (CW.out _).mono ?_
        rintro e w2 ⟨rfl, b2⟩
        clear s_VA f_VA z_VA s_VR f_VR z_VR
        have S2 := b2.size
        replace VA := VA.kept b2
        replace VR := VR.kept b2
        replace B := thenB B b2
        clear b2
        obtain ⟨s_VA, f_VA, z_VA⟩ := VA.open
        obtain ⟨s_VR, f_VR, z_VR⟩ := VR.open
        have Bo := B
        clear s_VA f_VA z_VA s_VR f_VR z_VR
        have VF := Hid.mk (VR.filled [.int .i64 0, .int .i64 s, .int .i64 s, .int .i64 (v : Int)] rfl)
        have BR := belowCells B (show w.heap.size ≤ w.heap.size + 1 by (first | omega | (simp; done) | (simp; omega))) 0 [.int .i64 0, .int .i64 s, .int .i64 s, .int .i64 (v : Int)]
        have HT := Hid.mk VR.there
        replace BR := Hid.mk BR
        obtain ⟨s_VA, f_VA, z_VA⟩ := VA.open
        obtain ⟨s_VR, f_VR, z_VR⟩ := VR.open
        go_wp2_with (refine wpList_store_mid rfl 35 _ _ rfl (w.heap.size + 1) 0 #[.int .i64 0, .int .i64 s, .int .i64 s, .int .i64 (v : Int)] rfl rfl HT.out (by kernel_rfl) (by kernel_rfl) ?_)
        refine bodyPost_ret (v := .agg #[.int .i64 0, .int .i64 s, .int .i64 s, .int .i64 (v : Int)]) (results_row Try.results44 _ _ (w.heap.size + 1) [.int .i64 0, .int .i64 s, .int .i64 s, .int .i64 (v : Int)] _ rfl VF.out Try.underlying35 rfl (by kernel_rfl)) rfl ⟨rfl, BR.out⟩
      · have d2 : decide (s - x.t < 32) = false := by simp; omega
        rw [far_zero x.b.toNat (show 32 ≤ (s - x.t).toNat by omega)]
        rw [show (((0 ||| 1 : Nat)) : Int) = 1 from rfl]
        clear h h2 h1 hbb hf
        go_enter Try.func44, Try.ntmps44
        have B := Below.refl w.heap.size w
        have Bo := B
        replace B := thenB B (belowA w (.cells #[.int .i64 x.t, .int .i64 x.b] 25))
        have VA := V.new w [.int .i64 x.t, .int .i64 x.b] 25
        replace VA := VA.kept (belowA (w.alloc (.cells #[.int .i64 x.t, .int .i64 x.b] 25)) (.cells #[.int .i64 0, .int .i64 0, .int .i64 0, .int .i64 0] 35))
        replace B := thenB B (belowA (w.alloc (.cells #[.int .i64 x.t, .int .i64 x.b] 25)) (.cells #[.int .i64 0, .int .i64 0, .int .i64 0, .int .i64 0] 35))
        have VR : V ((w.alloc (.cells #[.int .i64 x.t, .int .i64 x.b] 25)).alloc (.cells #[.int .i64 0, .int .i64 0, .int .i64 0, .int .i64 0] 35)) (w.heap.size + 1) [.int .i64 0, .int .i64 0, .int .i64 0, .int .i64 0] := V.newAt _ _ _ _ (by simp)
        obtain ⟨s_VA, f_VA, z_VA⟩ := VA.open
        obtain ⟨s_VR, f_VR, z_VR⟩ := VR.open
        have Bo := B
        go_wp2_with fail
        refine (CB.out _).mono ?_
        rintro e wq ⟨rfl, rfl⟩
        go_wp2_with fail
        refine (CO.out _).mono ?_
        rintro e w1 ⟨rfl, b1⟩
        clear s_VA f_VA z_VA s_VR f_VR z_VR
        have S1 := b1.size
        simp only [World.size_alloc] at S1
        replace VA := VA.kept b1
        replace VR := VR.kept b1
        replace B := thenB B b1
        clear b1
        obtain ⟨s_VA, f_VA, z_VA⟩ := VA.open
        obtain ⟨s_VR, f_VR, z_VR⟩ := VR.open
        have Bo := B
        go_wp2_with fail
        refine (CW.out _).mono ?_
        rintro e w2 ⟨rfl, b2⟩
        clear s_VA f_VA z_VA s_VR f_VR z_VR
        have S2 := b2.size
        replace VA := VA.kept b2
        replace VR := VR.kept b2
        replace B := thenB B b2
        clear b2
        obtain ⟨s_VA, f_VA, z_VA⟩ := VA.open
        obtain ⟨s_VR, f_VR, z_VR⟩ := VR.open
        have Bo := B
        clear s_VA f_VA z_VA s_VR f_VR z_VR
        have VF := Hid.mk (VR.filled [.int .i64 0, .int .i64 s, .int .i64 s, .int .i64 1] rfl)
        have BR := belowCells B (show w.heap.size ≤ w.heap.size + 1 by (first | omega | (simp; done) | (simp; omega))) 0 [.int .i64 0, .int .i64 s, .int .i64 s, .int .i64 1]
        have HT := Hid.mk VR.there
        replace BR := Hid.mk BR
        obtain ⟨s_VA, f_VA, z_VA⟩ := VA.open
        obtain ⟨s_VR, f_VR, z_VR⟩ := VR.open
        go_wp2_with (refine wpList_store_mid rfl 35 _ _ rfl (w.heap.size + 1) 0 #[.int .i64 0, .int .i64 s, .int .i64 s, .int .i64 1] rfl rfl HT.out (by kernel_rfl) (by kernel_rfl) ?_)
        refine bodyPost_ret (v := .agg #[.int .i64 0, .int .i64 s, .int .i64 s, .int .i64 1]) (results_row Try.results44 _ _ (w.heap.size + 1) [.int .i64 0, .int .i64 s, .int .i64 s, .int .i64 1] _ rfl VF.out Try.underlying35 rfl (by kernel_rfl)) rfl ⟨rfl, BR.out⟩

set_option maxRecDepth 20000 in
set_option maxHeartbeats 4000000 in
theorem specTake_ok (x : Wn) (s : Int) (hs : -9223372036854775808 ≤ s ∧ s ≤ 9223372036854775807) (w : World) :
    Calls Try.prog 23 #[.agg #[.int .i64 x.t, .int .i64 x.b], .int .i64 s] w fun e w' => e = .returned (.agg #[.int .i64 (tsR x s).1, .int .i64 (tsR x s).2.1, .int .i64 (tsR x s).2.2.t, .int .i64 (tsR x s).2.2.b]) ∧ Below w.heap.size w w' := by
  have CF := Hid.mk (fun w => specWF_ok x w)
  rcases ts_ways x s with ⟨h0, _, e⟩ | ⟨h0, _, e⟩
  · have hne : (wF x != 0) = true := by simp [h0]
    rw [e]
    clear e h0
    generalize wF x = k at *
    go_enter Try.func23, Try.ntmps23
    have B := Below.refl w.heap.size w
    have Bo := B
    replace B := thenB B (belowA w (.cells #[.int .i64 x.t, .int .i64 x.b] 25))
    have VA := V.new w [.int .i64 x.t, .int .i64 x.b] 25
    replace VA := VA.kept (belowA (w.alloc (.cells #[.int .i64 x.t, .int .i64 x.b] 25)) (.cells #[.int .i64 0, .int .i64 0, .int .i64 0, .int .i64 0] 35))
    replace B := thenB B (belowA (w.alloc (.cells #[.int .i64 x.t, .int .i64 x.b] 25)) (.cells #[.int .i64 0, .int .i64 0, .int .i64 0, .int .i64 0] 35))
    have VR : V ((w.alloc (.cells #[.int .i64 x.t, .int .i64 x.b] 25)).alloc (.cells #[.int .i64 0, .int .i64 0, .int .i64 0, .int .i64 0] 35)) (w.heap.size + 1) [.int .i64 0, .int .i64 0, .int .i64 0, .int .i64 0] := V.newAt _ _ _ _ (by simp)
    obtain ⟨s_VA, f_VA, z_VA⟩ := VA.open
    obtain ⟨s_VR, f_VR, z_VR⟩ := VR.open
    have Bo := B
    go_wp2_with fail
    refine (CF.out _).mono ?_
    rintro e w1 ⟨rfl, b1⟩
    clear s_VA f_VA z_VA s_VR f_VR z_VR
    have S1 := b1.size
    simp only [World.size_alloc] at S1
    replace VA := VA.kept b1
    replace VR := VR.kept b1
    replace B := thenB B b1
    clear b1
    obtain ⟨s_VA, f_VA, z_VA⟩ := VA.open
    obtain ⟨s_VR, f_VR, z_VR⟩ := VR.open
    have Bo := B
    clear s_VA f_VA z_VA s_VR f_VR z_VR
    have VF := Hid.mk (VR.filled [.int .i64 k, .int .i64 0, .int .i64 0, .int .i64 0] rfl)
    have BR := belowCells B (show w.heap.size ≤ w.heap.size + 1 by (first | omega | (simp; done) | (simp; omega))) 0 [.int .i64 k, .int .i64 0, .int .i64 0, .int .i64 0]
    have HT := Hid.mk VR.there
    replace BR := Hid.mk BR
    obtain ⟨s_VA, f_VA, z_VA⟩ := VA.open
    obtain ⟨s_VR, f_VR, z_VR⟩ := VR.open
    go_wp2_with (refine wpList_store_mid rfl 35 _ _ rfl (w.heap.size + 1) 0 #[.int .i64 k, .int .i64 0, .int .i64 0, .int .i64 0] rfl rfl HT.out (by kernel_rfl) (by kernel_rfl) ?_)
    refine bodyPost_ret (v := .agg #[.int .i64 k, .int .i64 0, .int .i64 0, .int .i64 0]) (results_row Try.results23 _ _ (w.heap.size + 1) [.int .i64 k, .int .i64 0, .int .i64 0, .int .i64 0] _ rfl VF.out Try.underlying35 rfl (by kernel_rfl)) rfl ⟨rfl, BR.out⟩
  · have CT := Hid.mk (fun w => l10Take_ok x (wF_ok.mp h0).1 s hs w)
    rw [e]
    simp only [h0] at CF
    clear e h0
    generalize tkR x s = P at *
    obtain ⟨k, n, y⟩ := P
    simp only at CT ⊢
    go_enter Try.func23, Try.ntmps23
    have B := Below.refl w.heap.size w
    have Bo := B
    replace B := thenB B (belowA w (.cells #[.int .i64 x.t, .int .i64 x.b] 25))
    have VA := V.new w [.int .i64 x.t, .int .i64 x.b] 25
    replace VA := VA.kept (belowA (w.alloc (.cells #[.int .i64 x.t, .int .i64 x.b] 25)) (.cells #[.int .i64 0, .int .i64 0, .int .i64 0, .int .i64 0] 35))
    replace B := thenB B (belowA (w.alloc (.cells #[.int .i64 x.t, .int .i64 x.b] 25)) (.cells #[.int .i64 0, .int .i64 0, .int .i64 0, .int .i64 0] 35))
    have VR : V ((w.alloc (.cells #[.int .i64 x.t, .int .i64 x.b] 25)).alloc (.cells #[.int .i64 0, .int .i64 0, .int .i64 0, .int .i64 0] 35)) (w.heap.size + 1) [.int .i64 0, .int .i64 0, .int .i64 0, .int .i64 0] := V.newAt _ _ _ _ (by simp)
    obtain ⟨s_VA, f_VA, z_VA⟩ := VA.open
    obtain ⟨s_VR, f_VR, z_VR⟩ := VR.open
    have Bo := B
    go_wp2_with fail
    refine (CF.out _).mono ?_
    rintro e w1 ⟨rfl, b1⟩
    clear s_VA f_VA z_VA s_VR f_VR z_VR
    have S1 := b1.size
    simp only [World.size_alloc] at S1
    replace VA := VA.kept b1
    replace VR := VR.kept b1
    replace B := thenB B b1
    clear b1
    obtain ⟨s_VA, f_VA, z_VA⟩ := VA.open
    obtain ⟨s_VR, f_VR, z_VR⟩ := VR.open
    have Bo := B
    go_wp2_with fail
    refine (CT.out _).mono ?_
    rintro e w2 ⟨rfl, b2⟩
    clear s_VA f_VA z_VA s_VR f_VR z_VR
    have S2 := b2.size
    replace VA := VA.kept b2
    replace VR := VR.kept b2
    replace B := thenB B b2
    clear b2
    obtain ⟨s_VA, f_VA, z_VA⟩ := VA.open
    obtain ⟨s_VR, f_VR, z_VR⟩ := VR.open
    have Bo := B
    clear s_VA f_VA z_VA s_VR f_VR z_VR
    have VF := Hid.mk (VR.filled [.int .i64 k, .int .i64 n, .int .i64 y.t, .int .i64 y.b] rfl)
    have BR := belowCells B (show w.heap.size ≤ w.heap.size + 1 by (first | omega | (simp; done) | (simp; omega))) 0 [.int .i64 k, .int .i64 n, .int .i64 y.t, .int .i64 y.b]
    have HT := Hid.mk VR.there
    replace BR := Hid.mk BR
    obtain ⟨s_VA, f_VA, z_VA⟩ := VA.open
    obtain ⟨s_VR, f_VR, z_VR⟩ := VR.open
    go_wp2_with (refine wpList_store_mid rfl 35 _ _ rfl (w.heap.size + 1) 0 #[.int .i64 k, .int .i64 n, .int .i64 y.t, .int .i64 y.b] rfl rfl HT.out (by kernel_rfl) (by kernel_rfl) ?_)
    refine bodyPost_ret (v := .agg #[.int .i64 k, .int .i64 n, .int .i64 y.t, .int .i64 y.b]) (results_row Try.results23 _ _ (w.heap.size + 1) [.int .i64 k, .int .i64 n, .int .i64 y.t, .int .i64 y.b] _ rfl VF.out Try.underlying35 rfl (by kernel_rfl)) rfl ⟨rfl, BR.out⟩

set_option maxRecDepth 20000 in
set_option maxHeartbeats 4000000 in
theorem specSeen_ok (x : Wn) (s : Int) (hs : -9223372036854775808 ≤ s ∧ s ≤ 9223372036854775807) (w : World) :
    Calls Try.prog 28 #[.agg #[.int .i64 x.t, .int .i64 x.b], .int .i64 s] w fun e w' => e = .returned (.bool (seenW x s)) ∧ Below w.heap.size w w' := by
  have CF := Hid.mk (fun w => specWF_ok x w)
  by_cases h0 : wF x = 0
  · have hi := (wF_ok.mp h0).1
    have CO := Hid.mk (fun w => l10Old_ok x hi s w)
    simp only [h0] at CF
    by_cases h1 : s < 1
    · have d1 : decide (s < 1) = true := by simp [h1]
      rw [show seenW x s = true by simp only [seenW, Bool.or_eq_true, decide_eq_true_eq]; exact .inl (.inr (by unfold frW; omega))]
      clear h1 h0
      go_enter Try.func28, Try.ntmps28
      have B := Below.refl w.heap.size w
      have Bo := B
      replace B := thenB B (belowA w (.cells #[.int .i64 x.t, .int .i64 x.b] 25))
      have VA := V.new w [.int .i64 x.t, .int .i64 x.b] 25
      obtain ⟨s_VA, f_VA, z_VA⟩ := VA.open
      have Bo := B
      go_wp2_with fail
      refine (CF.out _).mono ?_
      rintro e w1 ⟨rfl, b1⟩
      clear s_VA f_VA z_VA
      have S1 := b1.size
      simp only [World.size_alloc] at S1
      replace VA := VA.kept b1
      replace B := thenB B b1
      clear b1
      obtain ⟨s_VA, f_VA, z_VA⟩ := VA.open
      have Bo := B
      go_wp2
      go_ret
      exact ⟨rfl, Bo⟩
    · have d1 : decide (s < 1) = false := by simp; omega
      by_cases h2 : s ≤ x.t - 32
      · have d2 : decide (s ≤ x.t - 32) = true := by simp [h2]
        simp only [d2] at CO
        rw [show seenW x s = true by simp only [seenW, Bool.or_eq_true, decide_eq_true_eq]; exact .inl (.inr (by unfold frW; omega))]
        clear h1 h0 h2 d2
        go_enter Try.func28, Try.ntmps28
        have B := Below.refl w.heap.size w
        have Bo := B
        replace B := thenB B (belowA w (.cells #[.int .i64 x.t, .int .i64 x.b] 25))
        have VA := V.new w [.int .i64 x.t, .int .i64 x.b] 25
        obtain ⟨s_VA, f_VA, z_VA⟩ := VA.open
        have Bo := B
        go_wp2_with fail
        refine (CF.out _).mono ?_
        rintro e w1 ⟨rfl, b1⟩
        clear s_VA f_VA z_VA
        have S1 := b1.size
        simp only [World.size_alloc] at S1
        replace VA := VA.kept b1
        replace B := thenB B b1
        clear b1
        obtain ⟨s_VA, f_VA, z_VA⟩ := VA.open
        have Bo := B
        go_wp2_with fail
        refine (CO.out _).mono ?_
        rintro e w2 ⟨rfl, b2⟩
        clear s_VA f_VA z_VA
        have S2 := b2.size
        replace VA := VA.kept b2
        replace B := thenB B b2
        clear b2
        obtain ⟨s_VA, f_VA, z_VA⟩ := VA.open
        have Bo := B
        go_wp2
        go_ret
        exact ⟨rfl, Bo⟩
      · have d2 : decide (s ≤ x.t - 32) = false := by simp; omega
        simp only [d2] at CO
        have CW := Hid.mk (fun w => l10Had_ok x hi s (by omega) w)
        rw [show seenW x s = had x s by simp only [seenW, h0]; rw [show decide (s < frW x) = false by simp; unfold frW; omega]; simp]
        clear h1 h0 h2 d2
        go_enter Try.func28, Try.ntmps28
        have B := Below.refl w.heap.size w
        have Bo := B
        replace B := thenB B (belowA w (.cells #[.int .i64 x.t, .int .i64 x.b] 25))
        have VA := V.new w [.int .i64 x.t, .int .i64 x.b] 25
        obtain ⟨s_VA, f_VA, z_VA⟩ := VA.open
        have Bo := B
        go_wp2_with fail
        refine (CF.out _).mono ?_
        rintro e w1 ⟨rfl, b1⟩
        clear s_VA f_VA z_VA
        have S1 := b1.size
        simp only [World.size_alloc] at S1
        replace VA := VA.kept b1
        replace B := thenB B b1
        clear b1
        obtain ⟨s_VA, f_VA, z_VA⟩ := VA.open
        have Bo := B
        go_wp2_with fail
        refine (CO.out _).mono ?_
        rintro e w2 ⟨rfl, b2⟩
        clear s_VA f_VA z_VA
        have S2 := b2.size
        replace VA := VA.kept b2
        replace B := thenB B b2
        clear b2
        obtain ⟨s_VA, f_VA, z_VA⟩ := VA.open
        have Bo := B
        go_wp2_with fail
        refine (CW.out _).mono ?_
        rintro e w3 ⟨rfl, b3⟩
        clear s_VA f_VA z_VA
        have S3 := b3.size
        replace VA := VA.kept b3
        replace B := thenB B b3
        clear b3
        obtain ⟨s_VA, f_VA, z_VA⟩ := VA.open
        have Bo := B
        go_wp2
        go_ret
        exact ⟨rfl, Bo⟩
  · have hne : (wF x != 0) = true := by simp [h0]
    rw [show seenW x s = true by simp [seenW, h0]]
    generalize wF x = k at *
    clear h0
    go_enter Try.func28, Try.ntmps28
    have B := Below.refl w.heap.size w
    have Bo := B
    replace B := thenB B (belowA w (.cells #[.int .i64 x.t, .int .i64 x.b] 25))
    have VA := V.new w [.int .i64 x.t, .int .i64 x.b] 25
    obtain ⟨s_VA, f_VA, z_VA⟩ := VA.open
    have Bo := B
    go_wp2_with fail
    refine (CF.out _).mono ?_
    rintro e w1 ⟨rfl, b1⟩
    clear s_VA f_VA z_VA
    have S1 := b1.size
    simp only [World.size_alloc] at S1
    replace VA := VA.kept b1
    replace B := thenB B b1
    clear b1
    obtain ⟨s_VA, f_VA, z_VA⟩ := VA.open
    have Bo := B
    go_wp2
    go_ret
    exact ⟨rfl, Bo⟩

end Go.Proofs.Ytkpdbdcfimdnjaa
