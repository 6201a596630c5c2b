/- PutNames of the program. -/
import Derived.Test.YthkmoabkeblbjaaKzF
import Derived.Test.YthkmoabkeblbjaaKyJ
namespace Go.Proofs.Ythkmoabkeblbjaa
open Go.RowKit

theorem mkV_some (m : Mk) {zs : List Int} (h : zs ≠ []) : mkV m zs = mkW m zs := by
  have hl := mkNs_count m zs
  unfold mkV mkW
  cases h2 : (mkNs m zs).2 with
  | nil => rw [h2] at hl; cases zs with
    | nil => exact absurd rfl h
    | cons _ _ => simp at hl
  | cons x r => rfl

theorem pn_told (xs : List T4) (zs : List Int) (h1 : tfC xs = 0) (h2 : (zs.all fun z => btw z 0 9999) = true) : pnR xs zs = ⟨(mkV ⟨xs, 0⟩ zs).1.c, okV (mkV ⟨xs, 0⟩ zs).1 (mkV ⟨xs, 0⟩ zs).2, okL (mkV ⟨xs, 0⟩ zs).1⟩ := by
  rcases pn_ways xs zs with ⟨h3, _⟩ | ⟨_, h3, _⟩ | ⟨_, _, rfl, e⟩ | ⟨_, _, h3, h4, e⟩ | ⟨_, _, h3, h4, e⟩
  · exact absurd h1 h3
  · rw [h2] at h3; cases h3
  · rw [e]
    show put xs ⟨1, 0, 0, 0⟩ = ⟨(mkPut ⟨xs, 0⟩ ⟨1, 0, 0, 0⟩).c, okV (mkPut ⟨xs, 0⟩ ⟨1, 0, 0, 0⟩) (mkAt ⟨xs, 0⟩ ⟨1, 0, 0, 0⟩), okL (mkPut ⟨xs, 0⟩ ⟨1, 0, 0, 0⟩)⟩
    have c1 := mkPut_c (m := ⟨xs, 0⟩) rfl ⟨1, 0, 0, 0⟩
    have c2 := mkAt_good (m := ⟨xs, 0⟩) rfl ⟨1, 0, 0, 0⟩
    have c3 := mkPut_l (m := ⟨xs, 0⟩) rfl (t := ⟨1, 0, 0, 0⟩)
    simp only at c1 c2 c3
    unfold okV okL
    rw [c1, c2]
    by_cases h : (put xs ⟨1, 0, 0, 0⟩).c = 0
    · rw [if_pos h, if_pos h, c3 h]
    · rw [if_neg h, if_neg h]
      exact put_bad h
  · have e2 : mkV ⟨xs, 0⟩ zs = mkW ⟨xs, 0⟩ zs := mkV_some _ h3
    rw [e, e2]
    unfold okV okL
    rw [if_neg h4, if_neg h4]
  · have e2 : mkV ⟨xs, 0⟩ zs = mkW ⟨xs, 0⟩ zs := mkV_some _ h3
    rw [e, e2]
    unfold okV okL
    rw [if_pos h4, if_pos h4, h4]

set_option maxRecDepth 20000 in
set_option maxHeartbeats 4000000 in
theorem implPutNames_ok (a : Option Addr) (n ca : Nat) (xs : List T4) (cc : Option Addr) (m dd : Nat) (zs : List Int) (w : World) (ha : RdTerm w a xs) (hn : xs.length = n) (hx : n ≤ 1048576) (hok : ∀ t ∈ xs, okT t) (hR : Rd .i64 w cc zs) (hm : zs.length = m) (hmx : m ≤ 1048576) (HLW : Hid (∀ b : Addr, cc = some b → b.block < w.heap.size)) :
    Calls Try.prog 57 #[.slice a n ca, .slice cc m dd] w fun e w' => ∃ c d, e = .returned (.agg #[.int .i64 (pnR xs zs).c, .int .i64 (pnR xs zs).k, .slice c (pnR xs zs).l.length d]) ∧ OwnTerm w' w.heap.size c d (pnR xs zs).l ∧ Below w.heap.size w w' := by
  have q1 := build_tr0'
  by_cases hc : mkC xs [] zs = 0
  rotate_left
  · have CB := Hid.mk (fun w h hs => makerOf_no a n ca xs none 0 0 [] cc m dd zs w h hn hx hok (.inl rfl) rfl (by omega) hs hm hmx hc)
    have e : pnR xs zs = ⟨mkC xs [] zs, 0, []⟩ := by
      rcases mkC_ways xs [] zs with ⟨h1, e⟩ | ⟨h1, h2, e⟩ | ⟨h1, h2, h3, e⟩ | ⟨h1, h2, h3, e⟩
      · rw [e]; rcases pn_ways xs zs with ⟨_, e2⟩ | ⟨h9, _⟩ | ⟨h9, _⟩ | ⟨h9, _⟩ | ⟨h9, _⟩ <;> first | exact e2 | exact absurd h9 h1
      · exact absurd h2 (by unfold plsOk; simp)
      · rw [e]; rcases pn_ways xs zs with ⟨h9, _⟩ | ⟨_, _, e2⟩ | ⟨_, h9, _⟩ | ⟨_, h9, _⟩ | ⟨_, h9, _⟩ <;> first | exact e2 | exact absurd h1 h9 | (unfold nmsOk at h3; rw [h9] at h3; cases h3)
      · exact absurd e hc
    rw [e]
    have h0 : (mkC xs [] zs != 0) = true := by simp [hc]
    clear e hc hok
    generalize mkC xs [] zs = kk at *
    go_enter Try.func57, Try.ntmps57
    have B := Below.refl w.heap.size w
    replace ha := ha.kept (belowA w (.cells #[.int .i64 0, .int .i64 0, .slice none 0 0] 33))
    replace hR := hR.kept (belowA w (.cells #[.int .i64 0, .int .i64 0, .slice none 0 0] 33))
    replace B := thenB B (belowA w (.cells #[.int .i64 0, .int .i64 0, .slice none 0 0] 33))
    have VR := V.new w [.int .i64 0, .int .i64 0, .slice none 0 0] 33
    obtain ⟨s_VR, f_VR, z_VR⟩ := VR.open
    have Bo := B
    go_wp2_with fail
    refine (CB.out _ ha hR).mono ?_
    rintro e w1 ⟨rfl, b1⟩
    clear s_VR f_VR z_VR
    have S1 := b1.size
    simp only [World.size_alloc] at S1
    replace VR := VR.kept b1
    replace ha := ha.kept b1
    replace hR := hR.kept b1
    replace B := thenB B b1
    clear b1
    obtain ⟨s_VR, f_VR, z_VR⟩ := VR.open
    have Bo := B
    clear s_VR f_VR z_VR
    obtain ⟨s_VR, f_VR, z_VR⟩ := VR.open
    have Bo := B
    clear s_VR f_VR z_VR
    have VF := Hid.mk (VR.filled [.int .i64 kk, .int .i64 0, .slice none 0 0] rfl)
    have HT := Hid.mk VR.there
    have BR := belowCells B (show w.heap.size ≤ w.heap.size by (first | omega | (simp; done) | (simp; omega))) 0 [.int .i64 kk, .int .i64 0, .slice none 0 0]
    replace BR := Hid.mk BR
    obtain ⟨s_VR, f_VR, z_VR⟩ := VR.open
    go_wp2_with (refine wpList_store_mid rfl 33 _ _ rfl (w.heap.size) 0 #[.int .i64 kk, .int .i64 0, .slice none 0 0] rfl rfl HT.out (by kernel_rfl) (by kernel_rfl) ?_)
    refine bodyPost_ret (v := .agg #[.int .i64 kk, .int .i64 0, .slice none 0 0]) (results_row Try.results57 _ _ (w.heap.size) [.int .i64 kk, .int .i64 0, .slice none 0 0] _ rfl VF.out Try.underlying33 rfl (by kernel_rfl)) rfl ⟨none, 0, rfl, OwnTerm.none, BR.out⟩
  · have CB := Hid.mk (fun w h hs => makerOf_yes a n ca xs none 0 0 [] cc m dd zs w h hn hx hok (.inl rfl) rfl (by omega) hs hm hmx hc)
    obtain ⟨h1, _, h3⟩ := mkC_zero hc
    have hoks : ∀ z ∈ zs, okI z := fun z hz => by
      unfold nmsOk at h3
      rw [List.all_eq_true] at h3
      have := btw_iff.1 (h3 z hz)
      exact okI_of (by omega) (by omega)
    rw [pn_told xs zs h1 h3]
    have CN := Hid.mk (fun b0 Q Of w h hr hcc => names_ok b0 Q Of ⟨xs, 0⟩ cc m dd zs w h hr hm hmx hoks hcc)
    generalize mkV ⟨xs, 0⟩ zs = P at *
    obtain ⟨m1, v1⟩ := P
    simp only at CN ⊢
    clear hc h3 hoks hok
    go_enter Try.func57, Try.ntmps57
    have B := Below.refl w.heap.size w
    replace ha := ha.kept (belowA w (.cells #[.int .i64 0, .int .i64 0, .slice none 0 0] 33))
    replace hR := hR.kept (belowA w (.cells #[.int .i64 0, .int .i64 0, .slice none 0 0] 33))
    replace B := thenB B (belowA w (.cells #[.int .i64 0, .int .i64 0, .slice none 0 0] 33))
    have VR := V.new w [.int .i64 0, .int .i64 0, .slice none 0 0] 33
    obtain ⟨s_VR, f_VR, z_VR⟩ := VR.open
    have Bo := B
    go_wp2_with fail
    refine (CB.out _ ha hR).mono ?_
    rintro e w21 ⟨Q, p, g, c, d, rfl, VQ, H, hQ, hnQ, b21⟩
    clear s_VR f_VR z_VR
    have S21 := b21.size
    simp only [World.size_alloc] at S21
    replace VR := VR.kept b21
    replace ha := ha.kept b21
    replace hR := hR.kept b21
    replace B := thenB B b21
    clear b21
    obtain ⟨s_VR, f_VR, z_VR⟩ := VR.open
    have Bo := B
    have M := MP.made (w0 := w.alloc (.cells #[.int .i64 0, .int .i64 0, .slice none 0 0] 33)) VQ H hQ hnQ h1
    have HVR := Hid.mk (show w.heap.size < (w.alloc (.cells #[.int .i64 0, .int .i64 0, .slice none 0 0] 33)).heap.size by simp only [World.size_alloc]; omega)
    have HW0 := Hid.mk (show w.heap.size ≤ (w.alloc (.cells #[.int .i64 0, .int .i64 0, .slice none 0 0] 33)).heap.size by simp only [World.size_alloc]; omega)
    have HWB := Hid.mk (show w.heap.size ≤ w21.heap.size by have := B.size; omega)
    have HCC : Hid (∀ b : Addr, cc = some b → b.block < (w.alloc (.cells #[.int .i64 0, .int .i64 0, .slice none 0 0] 33)).heap.size) := Hid.mk (fun b hb => by have := HLW.out b hb; have := HW0.out; omega)
    clear VQ H hQ hnQ ha Bo
    generalize hW0 : (w.alloc (.cells #[.int .i64 0, .int .i64 0, .slice none 0 0] 33)).heap.size = W0 at *
    clear s_VR f_VR z_VR
    go_wp2_with fail
    refine (CN.out _ _ _ _ M hR HCC.out).mono ?_
    rintro e wz ⟨u1, rfl, hU1, U1, Mn, Sn⟩
    have VRn := VR.sm Sn (fun e => e HVR.out)
    have Bn := Sn.below' B HWB.out (fun j hj => by have := HW0.out; omega)
    clear M VR B Sn hR
    have M := Mn
    have VR := VRn
    have B := Bn
    clear Mn VRn Bn
    have HOW := HW0
    have TT := told_ok _ _ _ m1 v1 u1 _ M U1
    replace TT := Hid.mk TT
    obtain ⟨s_VR, f_VR, z_VR⟩ := VR.open
    have Bo := B
    go_wp2_with fail
    refine (TT.out).mono ?_
    rintro e w22 ⟨c9, d9, rfl, O, b22⟩
    clear s_VR f_VR z_VR
    have S22 := b22.size
    replace VR := VR.kept b22
    replace B := thenB B b22
    clear b22
    obtain ⟨s_VR, f_VR, z_VR⟩ := VR.open
    have Bo := B
    have OL := Hid.mk (fun b hb => (O.lt b hb).1)
    obtain ⟨kl, hkl⟩ : ∃ q, (okL m1).length = q := ⟨_, rfl⟩
    rw [hkl]
    replace hkl := Hid.mk hkl
    clear M TT
    clear s_VR f_VR z_VR
    have VF := Hid.mk (VR.filled [.int .i64 (m1).c, .int .i64 (okV m1 v1), .slice c9 kl d9] rfl)
    have HT := Hid.mk VR.there
    have BR := belowCells B (show w.heap.size ≤ w.heap.size by (first | omega | (simp; done) | (simp; omega))) 0 [.int .i64 (m1).c, .int .i64 (okV m1 v1), .slice c9 kl d9]
    replace BR := Hid.mk BR
    have hb1 := HVR.out
    have HO := Hid.mk ((O.mono HOW.out).apart (B := w.heap.size) (by intro b hb; have := OL.out b hb; first | omega | (simp at this; omega)) 0 [.int .i64 (m1).c, .int .i64 (okV m1 v1), .slice c9 kl d9])
    obtain ⟨s_VR, f_VR, z_VR⟩ := VR.open
    go_wp2_with (refine wpList_store_mid rfl 33 _ _ rfl (w.heap.size) 0 #[.int .i64 (m1).c, .int .i64 (okV m1 v1), .slice c9 kl d9] rfl rfl HT.out (by kernel_rfl) (by kernel_rfl) ?_)
    refine bodyPost_ret (v := .agg #[.int .i64 (m1).c, .int .i64 (okV m1 v1), .slice c9 kl d9]) (results_row Try.results57 _ _ (w.heap.size) [.int .i64 (m1).c, .int .i64 (okV m1 v1), .slice c9 kl d9] _ rfl VF.out Try.underlying33 rfl (by kernel_rfl)) rfl ⟨c9, d9, by rw [hkl.out], HO.out, BR.out⟩

end Go.Proofs.Ythkmoabkeblbjaa
