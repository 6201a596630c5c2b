/- MakeChild of the program. -/
import Derived.Test.YthkmoabkeblbjaaKzG
import Derived.Test.YthkmoabkeblbjaaKyF
namespace Go.Proofs.Ythkmoabkeblbjaa
open Go.RowKit

theorem build_pr1 (k : Int) (w : World) : (Instr.build 67 #[(0, .int .i64 k)]).run Try.prog w = .ok (.agg #[.int .i64 k, .int .i64 0, .int .i64 0, .slice none 0 0]) w := run_build w 67 _ _ (by kernel_rfl)
theorem build_pr3 (u v : Int) (c : Option Addr) (n d : Nat) (w : World) : (Instr.build 67 #[(1, .int .i64 u), (2, .int .i64 v), (3, .slice c n d)]).run Try.prog w = .ok (.agg #[.int .i64 0, .int .i64 u, .int .i64 v, .slice c n d]) w := run_build w 67 _ _ (by kernel_rfl)

set_option maxRecDepth 20000 in
set_option maxHeartbeats 8000000 in
theorem implMakeChild_ok (a : Option Addr) (n ca : Nat) (xs : List T4) (down ni nr si sr : Int) (w : World) (ha : RdTerm w a xs) (hn : xs.length = n) (hx : n ≤ 1048576) (hok : ∀ t ∈ xs, okT t) :
    Calls Try.prog 44 #[.slice a n ca, .int .i64 down, .int .i64 ni, .int .i64 nr, .int .i64 si, .int .i64 sr] w fun e w' => ∃ c d, e = .returned (.agg #[.int .i64 (mcR xs down ni nr si sr).c, .int .i64 (mcR xs down ni nr si sr).o, .int .i64 (mcR xs down ni nr si sr).b, .slice c (mcR xs down ni nr si sr).l.length d]) ∧ OwnTerm w' w.heap.size c d (mcR xs down ni nr si sr).l ∧ Below w.heap.size w w' := by
  have q1 := build_pr1
  have q2 := build_pr3
  by_cases hc : mkC xs [down, ni, nr] [si, sr] = 0
  rotate_left
  · have CB := Hid.mk (fun b b2 w h hz hs => makerOf_no a n ca xs b 3 3 [down, ni, nr] b2 2 2 [si, sr] w h hn hx hok hz rfl (by omega) hs rfl (by omega) hc)
    have e : mcR xs down ni nr si sr = ⟨mkC xs [down, ni, nr] [si, sr], 0, 0, []⟩ := by
      have hb : nmsOk [si, sr] = (btw si 0 9999 && btw sr 0 9999) := by simp [nmsOk]
      unfold mkC at hc ⊢
      rw [hb] at hc ⊢
      rcases mc_ways xs down ni nr si sr with ⟨h1, e2⟩ | ⟨h1, h2, e2⟩ | ⟨h1, h2, h3, e2⟩ | ⟨h1, h2, h3, _, e2⟩ | ⟨h1, h2, h3, _, e2⟩
      · rw [e2, if_neg h1]
      · rw [e2, if_pos h1, h2]; rfl
      · rw [e2, if_pos h1, h2, h3]; rfl
      · rw [if_pos h1, h2, h3] at hc; exact absurd rfl hc
      · rw [if_pos h1, h2, h3] at hc; exact absurd rfl hc
    rw [e]
    have h0 : (mkC xs [down, ni, nr] [si, sr] != 0) = true := by simp [hc]
    clear e hc hok
    generalize mkC xs [down, ni, nr] [si, sr] = kk at *
    go_enter Try.func44, Try.ntmps44
    have B := Below.refl w.heap.size w
    replace ha := ha.kept (belowA w (.cells #[.int .i64 0, .int .i64 0, .int .i64 0, .slice none 0 0] 67))
    replace B := thenB B (belowA w (.cells #[.int .i64 0, .int .i64 0, .int .i64 0, .slice none 0 0] 67))
    have VR := V.new w [.int .i64 0, .int .i64 0, .int .i64 0, .slice none 0 0] 67
    obtain ⟨s_VR, f_VR, z_VR⟩ := VR.open
    have Bo := B
    clear s_VR f_VR z_VR
    have RP0 := Rd.litI (w.alloc (.cells #[.int .i64 0, .int .i64 0, .int .i64 0, .slice none 0 0] 67)) [down, ni, nr]
    simp only [World.size_alloc] at RP0
    replace VR := VR.kept (belowA (w.alloc (.cells #[.int .i64 0, .int .i64 0, .int .i64 0, .slice none 0 0] 67)) (.cells #[.int .i64 down, .int .i64 ni, .int .i64 nr] 2))
    replace ha := ha.kept (belowA (w.alloc (.cells #[.int .i64 0, .int .i64 0, .int .i64 0, .slice none 0 0] 67)) (.cells #[.int .i64 down, .int .i64 ni, .int .i64 nr] 2))
    replace B := thenB B (belowA (w.alloc (.cells #[.int .i64 0, .int .i64 0, .int .i64 0, .slice none 0 0] 67)) (.cells #[.int .i64 down, .int .i64 ni, .int .i64 nr] 2))
    have RP1 := Rd.litI ((w.alloc (.cells #[.int .i64 0, .int .i64 0, .int .i64 0, .slice none 0 0] 67)).alloc (.cells #[.int .i64 down, .int .i64 ni, .int .i64 nr] 2)) [si, sr]
    simp only [World.size_alloc] at RP1
    replace VR := VR.kept (belowA ((w.alloc (.cells #[.int .i64 0, .int .i64 0, .int .i64 0, .slice none 0 0] 67)).alloc (.cells #[.int .i64 down, .int .i64 ni, .int .i64 nr] 2)) (.cells #[.int .i64 si, .int .i64 sr] 2))
    replace ha := ha.kept (belowA ((w.alloc (.cells #[.int .i64 0, .int .i64 0, .int .i64 0, .slice none 0 0] 67)).alloc (.cells #[.int .i64 down, .int .i64 ni, .int .i64 nr] 2)) (.cells #[.int .i64 si, .int .i64 sr] 2))
    replace B := thenB B (belowA ((w.alloc (.cells #[.int .i64 0, .int .i64 0, .int .i64 0, .slice none 0 0] 67)).alloc (.cells #[.int .i64 down, .int .i64 ni, .int .i64 nr] 2)) (.cells #[.int .i64 si, .int .i64 sr] 2))
    replace RP0 := RP0.kept (belowA ((w.alloc (.cells #[.int .i64 0, .int .i64 0, .int .i64 0, .slice none 0 0] 67)).alloc (.cells #[.int .i64 down, .int .i64 ni, .int .i64 nr] 2)) (.cells #[.int .i64 si, .int .i64 sr] 2))
    obtain ⟨s_VR, f_VR, z_VR⟩ := VR.open
    go_wp2_with fail
    refine (CB.out _ _ _ ha RP0 RP1).mono ?_
    rintro e w1 ⟨rfl, b1⟩
    clear s_VR f_VR z_VR
    have S1 := b1.size
    simp only [World.size_alloc] at S1
    replace VR := VR.kept b1
    replace ha := ha.kept b1
    replace B := thenB B b1
    clear b1 RP0 RP1
    obtain ⟨s_VR, f_VR, z_VR⟩ := VR.open
    have Bo := B
    clear s_VR f_VR z_VR
    have VF := Hid.mk (VR.filled [.int .i64 kk, .int .i64 0, .int .i64 0, .slice none 0 0] rfl)
    have HT := Hid.mk VR.there
    have BR := belowCells B (show w.heap.size ≤ w.heap.size by (first | omega | (simp; done) | (simp; omega))) 0 [.int .i64 kk, .int .i64 0, .int .i64 0, .slice none 0 0]
    replace BR := Hid.mk BR
    obtain ⟨s_VR, f_VR, z_VR⟩ := VR.open
    go_wp2_with (refine wpList_store_mid rfl 67 _ _ rfl (w.heap.size) 0 #[.int .i64 kk, .int .i64 0, .int .i64 0, .slice none 0 0] rfl rfl HT.out (by kernel_rfl) (by kernel_rfl) ?_)
    refine bodyPost_ret (v := .agg #[.int .i64 kk, .int .i64 0, .int .i64 0, .slice none 0 0]) (results_row Try.results44 _ _ (w.heap.size) [.int .i64 kk, .int .i64 0, .int .i64 0, .slice none 0 0] _ rfl VF.out Try.underlying67 rfl (by kernel_rfl)) rfl ⟨none, 0, rfl, OwnTerm.none, BR.out⟩
  · have CB := Hid.mk (fun b b2 w h hz hs => makerOf_yes a n ca xs b 3 3 [down, ni, nr] b2 2 2 [si, sr] w h hn hx hok hz rfl (by omega) hs rfl (by omega) hc)
    obtain ⟨h1, h2, h3⟩ := mkC_zero hc
    have hb : btw si 0 9999 = true ∧ btw sr 0 9999 = true := by simpa [nmsOk] using h3
    have hq : aqC xs [down, ni, nr] = 0 := by
      unfold mkC at hc
      by_cases h : aqC xs [down, ni, nr] = 0
      · exact h
      · rw [if_neg h] at hc; exact hc
    have rD := Hid.mk (okP h1 (h2 down (by simp)))
    have rI := Hid.mk (okP h1 (h2 ni (by simp)))
    have rR := Hid.mk (okP h1 (h2 nr (by simp)))
    have rA : Hid (okI si) := Hid.mk (by have := btw_iff.1 hb.1; exact okI_of (by omega) (by omega))
    have rB : Hid (okI sr) := Hid.mk (by have := btw_iff.1 hb.2; exact okI_of (by omega) (by omega))
    have r4 : Hid (okI 4) := Hid.mk (okI_of (by decide) (by decide))
    have r5 : Hid (okI 5) := Hid.mk (okI_of (by decide) (by decide))
    have HWY := mc_ways xs down ni nr si sr
    obtain ⟨P1, e1⟩ : ∃ P, mkV ⟨xs, 0⟩ [4, si, sr] = P := ⟨_, rfl⟩
    have N1 := Hid.mk (fun (h : P1.1.c = 0) => mkV_mono (m := ⟨xs, 0⟩) (show (mkV ⟨xs, 0⟩ [4, si, sr]).1.c = 0 by rw [e1]; exact h))
    obtain ⟨m1, v1⟩ := P1
    simp only at N1
    obtain ⟨P2, e2⟩ : ∃ P, mkE m1 [ni, nr, v1] = P := ⟨_, rfl⟩
    have N2 := Hid.mk (fun (h : P2.1.c = 0) => mkE_mono (m := m1) (show (mkE m1 [ni, nr, v1]).1.c = 0 by rw [e2]; exact h))
    obtain ⟨m2, v2⟩ := P2
    simp only at N2
    obtain ⟨P3, e3⟩ : ∃ P, mk2 m2 4 down v2 = P := ⟨_, rfl⟩
    have N3 := Hid.mk (fun (h : P3.1.c = 0) => mk2_mono (o := 4) (a := down) (b := v2) (m := m2) (show (mk2 m2 4 down v2).1.c = 0 by rw [e3]; exact h))
    obtain ⟨m3, v3⟩ := P3
    simp only at N3
    obtain ⟨P4, e4⟩ : ∃ P, mkV m3 [5, si, sr] = P := ⟨_, rfl⟩
    have N4 := Hid.mk (fun (h : P4.1.c = 0) => mkV_mono (m := m3) (show (mkV m3 [5, si, sr]).1.c = 0 by rw [e4]; exact h))
    obtain ⟨m4, v4⟩ := P4
    simp only at N4
    obtain ⟨P5, e5⟩ : ∃ P, mkE m4 [ni, nr, v4] = P := ⟨_, rfl⟩
    have N5 := Hid.mk (fun (h : P5.1.c = 0) => mkE_mono (m := m4) (show (mkE m4 [ni, nr, v4]).1.c = 0 by rw [e5]; exact h))
    obtain ⟨m5, v5⟩ := P5
    simp only at N5
    obtain ⟨P6, e6⟩ : ∃ P, mk2 m5 4 down v5 = P := ⟨_, rfl⟩
    have N6 := Hid.mk (fun (h : P6.1.c = 0) => mk2_mono (o := 4) (a := down) (b := v5) (m := m5) (show (mk2 m5 4 down v5).1.c = 0 by rw [e6]; exact h))
    obtain ⟨m6, v6⟩ := P6
    simp only at N6
    have E1 : chK ⟨xs, 0⟩ 4 down ni nr si sr = (m3, v3) := by
      rw [← e3]
      have a1 : m1 = (mkV ⟨xs, 0⟩ [4, si, sr]).1 := by rw [e1]
      have b1 : v1 = (mkV ⟨xs, 0⟩ [4, si, sr]).2 := by rw [e1]
      have a2 : m2 = (mkE m1 [ni, nr, v1]).1 := by rw [e2]
      have b2 : v2 = (mkE m1 [ni, nr, v1]).2 := by rw [e2]
      rw [b2, a2, b1, a1]
      rfl
    have E2 : chK m3 5 down ni nr si sr = (m6, v6) := by
      rw [← e6]
      have a4 : m4 = (mkV m3 [5, si, sr]).1 := by rw [e4]
      have b4 : v4 = (mkV m3 [5, si, sr]).2 := by rw [e4]
      have a5 : m5 = (mkE m4 [ni, nr, v4]).1 := by rw [e5]
      have b5 : v5 = (mkE m4 [ni, nr, v4]).2 := by rw [e5]
      rw [b5, a5, b4, a4]
      rfl
    rw [E1] at HWY
    simp only at HWY
    rw [E2] at HWY
    simp only at HWY
    have HR : (m6.c ≠ 0 ∧ mcR xs down ni nr si sr = ⟨m6.c, 0, 0, []⟩) ∨ (m6.c = 0 ∧ mcR xs down ni nr si sr = ⟨0, v3, v6, m6.l⟩) := by
      rcases HWY with ⟨h, _⟩ | ⟨_, h, _⟩ | ⟨_, _, h, _⟩ | ⟨_, _, _, h, e⟩ | ⟨_, _, _, h, e⟩
      · exact absurd hq h
      · rw [hb.1] at h; cases h
      · rw [hb.2] at h; cases h
      · exact .inl ⟨h, e⟩
      · exact .inr ⟨h, e⟩
    clear HWY E1 E2 hc h2 h3 hb hq hok
    have E1 := Hid.mk e1
    have E2 := Hid.mk e2
    have E3 := Hid.mk e3
    have E4 := Hid.mk e4
    have E5 := Hid.mk e5
    have E6 := Hid.mk e6
    clear e1 e2 e3 e4 e5 e6
    obtain ⟨l6, c6⟩ := m6
    simp only at HR N6
    rcases HR with ⟨hz, er⟩ | ⟨rfl, er⟩
    · rw [er]
      have hne : (c6 != 0) = true := by simp [hz]
      clear er hz
      go_enter Try.func44, Try.ntmps44
      have B := Below.refl w.heap.size w
      replace ha := ha.kept (belowA w (.cells #[.int .i64 0, .int .i64 0, .int .i64 0, .slice none 0 0] 67))
      replace B := thenB B (belowA w (.cells #[.int .i64 0, .int .i64 0, .int .i64 0, .slice none 0 0] 67))
      have VR := V.new w [.int .i64 0, .int .i64 0, .int .i64 0, .slice none 0 0] 67
      obtain ⟨s_VR, f_VR, z_VR⟩ := VR.open
      have Bo := B
      clear s_VR f_VR z_VR
      have RP0 := Rd.litI (w.alloc (.cells #[.int .i64 0, .int .i64 0, .int .i64 0, .slice none 0 0] 67)) [down, ni, nr]
      simp only [World.size_alloc] at RP0
      replace VR := VR.kept (belowA (w.alloc (.cells #[.int .i64 0, .int .i64 0, .int .i64 0, .slice none 0 0] 67)) (.cells #[.int .i64 down, .int .i64 ni, .int .i64 nr] 2))
      replace ha := ha.kept (belowA (w.alloc (.cells #[.int .i64 0, .int .i64 0, .int .i64 0, .slice none 0 0] 67)) (.cells #[.int .i64 down, .int .i64 ni, .int .i64 nr] 2))
      replace B := thenB B (belowA (w.alloc (.cells #[.int .i64 0, .int .i64 0, .int .i64 0, .slice none 0 0] 67)) (.cells #[.int .i64 down, .int .i64 ni, .int .i64 nr] 2))
      have RP1 := Rd.litI ((w.alloc (.cells #[.int .i64 0, .int .i64 0, .int .i64 0, .slice none 0 0] 67)).alloc (.cells #[.int .i64 down, .int .i64 ni, .int .i64 nr] 2)) [si, sr]
      simp only [World.size_alloc] at RP1
      replace VR := VR.kept (belowA ((w.alloc (.cells #[.int .i64 0, .int .i64 0, .int .i64 0, .slice none 0 0] 67)).alloc (.cells #[.int .i64 down, .int .i64 ni, .int .i64 nr] 2)) (.cells #[.int .i64 si, .int .i64 sr] 2))
      replace ha := ha.kept (belowA ((w.alloc (.cells #[.int .i64 0, .int .i64 0, .int .i64 0, .slice none 0 0] 67)).alloc (.cells #[.int .i64 down, .int .i64 ni, .int .i64 nr] 2)) (.cells #[.int .i64 si, .int .i64 sr] 2))
      replace B := thenB B (belowA ((w.alloc (.cells #[.int .i64 0, .int .i64 0, .int .i64 0, .slice none 0 0] 67)).alloc (.cells #[.int .i64 down, .int .i64 ni, .int .i64 nr] 2)) (.cells #[.int .i64 si, .int .i64 sr] 2))
      replace RP0 := RP0.kept (belowA ((w.alloc (.cells #[.int .i64 0, .int .i64 0, .int .i64 0, .slice none 0 0] 67)).alloc (.cells #[.int .i64 down, .int .i64 ni, .int .i64 nr] 2)) (.cells #[.int .i64 si, .int .i64 sr] 2))
      obtain ⟨s_VR, f_VR, z_VR⟩ := VR.open
      go_wp2_with fail
      refine (CB.out _ _ _ ha RP0 RP1).mono ?_
      rintro e w21 ⟨Q, p, g, c, d, rfl, VQ, H, hQ, hnQ, b21⟩
      clear s_VR f_VR z_VR
      have S21 := b21.size
      simp only [World.size_alloc] at S21
      replace VR := VR.kept b21
      replace ha := ha.kept b21
      replace B := thenB B b21
      clear b21 RP0 RP1
      have M := MP.made (w0 := ((w.alloc (.cells #[.int .i64 0, .int .i64 0, .int .i64 0, .slice none 0 0] 67)).alloc (.cells #[.int .i64 down, .int .i64 ni, .int .i64 nr] 2)).alloc (.cells #[.int .i64 si, .int .i64 sr] 2)) VQ H hQ hnQ h1
      have HVR := Hid.mk (show w.heap.size < (((w.alloc (.cells #[.int .i64 0, .int .i64 0, .int .i64 0, .slice none 0 0] 67)).alloc (.cells #[.int .i64 down, .int .i64 ni, .int .i64 nr] 2)).alloc (.cells #[.int .i64 si, .int .i64 sr] 2)).heap.size by simp only [World.size_alloc]; omega)
      have HW0 := Hid.mk (show w.heap.size ≤ (((w.alloc (.cells #[.int .i64 0, .int .i64 0, .int .i64 0, .slice none 0 0] 67)).alloc (.cells #[.int .i64 down, .int .i64 ni, .int .i64 nr] 2)).alloc (.cells #[.int .i64 si, .int .i64 sr] 2)).heap.size by simp only [World.size_alloc]; omega)
      have HWB := Hid.mk (show w.heap.size ≤ w21.heap.size by have := B.size; omega)
      clear VQ H hQ hnQ
      generalize (((w.alloc (.cells #[.int .i64 0, .int .i64 0, .int .i64 0, .slice none 0 0] 67)).alloc (.cells #[.int .i64 down, .int .i64 ni, .int .i64 nr] 2)).alloc (.cells #[.int .i64 si, .int .i64 sr] 2)).heap.size = W0 at *
      clear ha Bo
      go_wp2_with fail
      refine (names_lit _ _ _ _ [4, si, sr] _ M (by simp) (by intro z hz; simp only [List.mem_cons, List.not_mem_nil, or_false] at hz; (try rcases hz with rfl | rfl | rfl); all_goals first | exact r4.out | exact rA.out | exact rB.out)).mono ?_
      rintro e wz ⟨u1, rfl, hU1, U1, Mn, Sn⟩
      rw [E1.out] at U1 Mn
      simp only at U1 Mn
      have VRn := VR.sm Sn (fun e => e HVR.out)
      have Bn := Sn.below' B HWB.out (fun j hj => by have := HW0.out; omega)
      replace HWB := Hid.mk (Nat.le_trans HWB.out Sn.size)
      clear M VR B Sn
      have M := Mn
      have VR := VRn
      have B := Bn
      clear Mn VRn Bn
      replace hU1 := Hid.mk hU1
      replace U1 := Hid.mk U1
      go_wp2_with fail
      refine (list_lit _ _ _ _ [ni, nr, v1] [ni, nr, u1] _ M (by simp) (by intro z hz; simp only [List.mem_cons, List.not_mem_nil, or_false] at hz; rcases hz with rfl | rfl | rfl; all_goals first | exact rI.out | exact rR.out | exact hU1.out) (fun h => by rw [(fun h => U1.out h) h])).mono ?_
      rintro e wz ⟨u2, rfl, hU2, U2, Mn, Sn⟩
      rw [E2.out] at U2 Mn
      simp only at U2 Mn
      have VRn := VR.sm Sn (fun e => e HVR.out)
      have Bn := Sn.below' B HWB.out (fun j hj => by have := HW0.out; omega)
      replace HWB := Hid.mk (Nat.le_trans HWB.out Sn.size)
      clear M VR B Sn
      have M := Mn
      have VR := VRn
      have B := Bn
      clear Mn VRn Bn
      replace hU2 := Hid.mk hU2
      replace U2 := Hid.mk U2
      go_wp2_with fail
      refine (prf_ok _ _ _ _ down v2 down u2 _ M rD.out hU2.out (fun _ => rfl) (fun h => U2.out h)).mono ?_
      rintro e wz ⟨u3, rfl, hU3, U3, Mn, Sn⟩
      rw [E3.out] at U3 Mn
      simp only at U3 Mn
      have VRn := VR.sm Sn (fun e => e HVR.out)
      have Bn := Sn.below' B HWB.out (fun j hj => by have := HW0.out; omega)
      replace HWB := Hid.mk (Nat.le_trans HWB.out Sn.size)
      clear M VR B Sn
      have M := Mn
      have VR := VRn
      have B := Bn
      clear Mn VRn Bn
      replace hU3 := Hid.mk hU3
      replace U3 := Hid.mk U3
      go_wp2_with fail
      refine (names_lit _ _ _ _ [5, si, sr] _ M (by simp) (by intro z hz; simp only [List.mem_cons, List.not_mem_nil, or_false] at hz; (try rcases hz with rfl | rfl | rfl); all_goals first | exact r5.out | exact rA.out | exact rB.out)).mono ?_
      rintro e wz ⟨u4, rfl, hU4, U4, Mn, Sn⟩
      rw [E4.out] at U4 Mn
      simp only at U4 Mn
      have VRn := VR.sm Sn (fun e => e HVR.out)
      have Bn := Sn.below' B HWB.out (fun j hj => by have := HW0.out; omega)
      replace HWB := Hid.mk (Nat.le_trans HWB.out Sn.size)
      clear M VR B Sn
      have M := Mn
      have VR := VRn
      have B := Bn
      clear Mn VRn Bn
      replace hU4 := Hid.mk hU4
      replace U4 := Hid.mk U4
      go_wp2_with fail
      refine (list_lit _ _ _ _ [ni, nr, v4] [ni, nr, u4] _ M (by simp) (by intro z hz; simp only [List.mem_cons, List.not_mem_nil, or_false] at hz; rcases hz with rfl | rfl | rfl; all_goals first | exact rI.out | exact rR.out | exact hU4.out) (fun h => by rw [(fun h => U4.out h) h])).mono ?_
      rintro e wz ⟨u5, rfl, hU5, U5, Mn, Sn⟩
      rw [E5.out] at U5 Mn
      simp only at U5 Mn
      have VRn := VR.sm Sn (fun e => e HVR.out)
      have Bn := Sn.below' B HWB.out (fun j hj => by have := HW0.out; omega)
      replace HWB := Hid.mk (Nat.le_trans HWB.out Sn.size)
      clear M VR B Sn
      have M := Mn
      have VR := VRn
      have B := Bn
      clear Mn VRn Bn
      replace hU5 := Hid.mk hU5
      replace U5 := Hid.mk U5
      go_wp2_with fail
      refine (prf_ok _ _ _ _ down v5 down u5 _ M rD.out hU5.out (fun _ => rfl) (fun h => U5.out h)).mono ?_
      rintro e wz ⟨u6, rfl, hU6, U6, Mn, Sn⟩
      rw [E6.out] at U6 Mn
      simp only at U6 Mn
      have VRn := VR.sm Sn (fun e => e HVR.out)
      have Bn := Sn.below' B HWB.out (fun j hj => by have := HW0.out; omega)
      replace HWB := Hid.mk (Nat.le_trans HWB.out Sn.size)
      clear M VR B Sn
      have M := Mn
      have VR := VRn
      have B := Bn
      clear Mn VRn Bn
      replace hU6 := Hid.mk hU6
      replace U6 := Hid.mk U6
      obtain ⟨base, p, g, c, d, ys, VQ, H, hl, hxx, hbb, hbQ, hnb, ho⟩ := M
      simp only at hxx VQ
      clear H hxx ho hnb hl
      obtain ⟨s_VR, f_VR, z_VR⟩ := VR.open
      obtain ⟨s_VQ, f_VQ, z_VQ⟩ := VQ.open
      have Bo := B
      clear s_VR f_VR z_VR s_VQ f_VQ z_VQ
      have VF := Hid.mk (VR.filled [.int .i64 c6, .int .i64 0, .int .i64 0, .slice none 0 0] rfl)
      have HT := Hid.mk VR.there
      have BR := belowCells B (show w.heap.size ≤ w.heap.size by (first | omega | (simp; done) | (simp; omega))) 0 [.int .i64 c6, .int .i64 0, .int .i64 0, .slice none 0 0]
      replace BR := Hid.mk BR
      obtain ⟨s_VR, f_VR, z_VR⟩ := VR.open
      obtain ⟨s_VQ, f_VQ, z_VQ⟩ := VQ.open
      go_wp2_with (refine wpList_store_mid rfl 67 _ _ rfl (w.heap.size) 0 #[.int .i64 c6, .int .i64 0, .int .i64 0, .slice none 0 0] rfl rfl HT.out (by kernel_rfl) (by kernel_rfl) ?_)
      refine bodyPost_ret (v := .agg #[.int .i64 c6, .int .i64 0, .int .i64 0, .slice none 0 0]) (results_row Try.results44 _ _ (w.heap.size) [.int .i64 c6, .int .i64 0, .int .i64 0, .slice none 0 0] _ rfl VF.out Try.underlying67 rfl (by kernel_rfl)) rfl ⟨none, 0, rfl, OwnTerm.none, BR.out⟩
    · rw [er]
      clear er
      go_enter Try.func44, Try.ntmps44
      have B := Below.refl w.heap.size w
      replace ha := ha.kept (belowA w (.cells #[.int .i64 0, .int .i64 0, .int .i64 0, .slice none 0 0] 67))
      replace B := thenB B (belowA w (.cells #[.int .i64 0, .int .i64 0, .int .i64 0, .slice none 0 0] 67))
      have VR := V.new w [.int .i64 0, .int .i64 0, .int .i64 0, .slice none 0 0] 67
      obtain ⟨s_VR, f_VR, z_VR⟩ := VR.open
      have Bo := B
      clear s_VR f_VR z_VR
      have RP0 := Rd.litI (w.alloc (.cells #[.int .i64 0, .int .i64 0, .int .i64 0, .slice none 0 0] 67)) [down, ni, nr]
      simp only [World.size_alloc] at RP0
      replace VR := VR.kept (belowA (w.alloc (.cells #[.int .i64 0, .int .i64 0, .int .i64 0, .slice none 0 0] 67)) (.cells #[.int .i64 down, .int .i64 ni, .int .i64 nr] 2))
      replace ha := ha.kept (belowA (w.alloc (.cells #[.int .i64 0, .int .i64 0, .int .i64 0, .slice none 0 0] 67)) (.cells #[.int .i64 down, .int .i64 ni, .int .i64 nr] 2))
      replace B := thenB B (belowA (w.alloc (.cells #[.int .i64 0, .int .i64 0, .int .i64 0, .slice none 0 0] 67)) (.cells #[.int .i64 down, .int .i64 ni, .int .i64 nr] 2))
      have RP1 := Rd.litI ((w.alloc (.cells #[.int .i64 0, .int .i64 0, .int .i64 0, .slice none 0 0] 67)).alloc (.cells #[.int .i64 down, .int .i64 ni, .int .i64 nr] 2)) [si, sr]
      simp only [World.size_alloc] at RP1
      replace VR := VR.kept (belowA ((w.alloc (.cells #[.int .i64 0, .int .i64 0, .int .i64 0, .slice none 0 0] 67)).alloc (.cells #[.int .i64 down, .int .i64 ni, .int .i64 nr] 2)) (.cells #[.int .i64 si, .int .i64 sr] 2))
      replace ha := ha.kept (belowA ((w.alloc (.cells #[.int .i64 0, .int .i64 0, .int .i64 0, .slice none 0 0] 67)).alloc (.cells #[.int .i64 down, .int .i64 ni, .int .i64 nr] 2)) (.cells #[.int .i64 si, .int .i64 sr] 2))
      replace B := thenB B (belowA ((w.alloc (.cells #[.int .i64 0, .int .i64 0, .int .i64 0, .slice none 0 0] 67)).alloc (.cells #[.int .i64 down, .int .i64 ni, .int .i64 nr] 2)) (.cells #[.int .i64 si, .int .i64 sr] 2))
      replace RP0 := RP0.kept (belowA ((w.alloc (.cells #[.int .i64 0, .int .i64 0, .int .i64 0, .slice none 0 0] 67)).alloc (.cells #[.int .i64 down, .int .i64 ni, .int .i64 nr] 2)) (.cells #[.int .i64 si, .int .i64 sr] 2))
      obtain ⟨s_VR, f_VR, z_VR⟩ := VR.open
      go_wp2_with fail
      refine (CB.out _ _ _ ha RP0 RP1).mono ?_
      rintro e w61 ⟨Q, p, g, c, d, rfl, VQ, H, hQ, hnQ, b61⟩
      clear s_VR f_VR z_VR
      have S61 := b61.size
      simp only [World.size_alloc] at S61
      replace VR := VR.kept b61
      replace ha := ha.kept b61
      replace B := thenB B b61
      clear b61 RP0 RP1
      have M := MP.made (w0 := ((w.alloc (.cells #[.int .i64 0, .int .i64 0, .int .i64 0, .slice none 0 0] 67)).alloc (.cells #[.int .i64 down, .int .i64 ni, .int .i64 nr] 2)).alloc (.cells #[.int .i64 si, .int .i64 sr] 2)) VQ H hQ hnQ h1
      have HVR := Hid.mk (show w.heap.size < (((w.alloc (.cells #[.int .i64 0, .int .i64 0, .int .i64 0, .slice none 0 0] 67)).alloc (.cells #[.int .i64 down, .int .i64 ni, .int .i64 nr] 2)).alloc (.cells #[.int .i64 si, .int .i64 sr] 2)).heap.size by simp only [World.size_alloc]; omega)
      have HW0 := Hid.mk (show w.heap.size ≤ (((w.alloc (.cells #[.int .i64 0, .int .i64 0, .int .i64 0, .slice none 0 0] 67)).alloc (.cells #[.int .i64 down, .int .i64 ni, .int .i64 nr] 2)).alloc (.cells #[.int .i64 si, .int .i64 sr] 2)).heap.size by simp only [World.size_alloc]; omega)
      have HWB := Hid.mk (show w.heap.size ≤ w61.heap.size by have := B.size; omega)
      clear VQ H hQ hnQ
      generalize (((w.alloc (.cells #[.int .i64 0, .int .i64 0, .int .i64 0, .slice none 0 0] 67)).alloc (.cells #[.int .i64 down, .int .i64 ni, .int .i64 nr] 2)).alloc (.cells #[.int .i64 si, .int .i64 sr] 2)).heap.size = W0 at *
      clear ha Bo
      go_wp2_with fail
      refine (names_lit _ _ _ _ [4, si, sr] _ M (by simp) (by intro z hz; simp only [List.mem_cons, List.not_mem_nil, or_false] at hz; (try rcases hz with rfl | rfl | rfl); all_goals first | exact r4.out | exact rA.out | exact rB.out)).mono ?_
      rintro e wz ⟨u1, rfl, hU1, U1, Mn, Sn⟩
      rw [E1.out] at U1 Mn
      simp only at U1 Mn
      have VRn := VR.sm Sn (fun e => e HVR.out)
      have Bn := Sn.below' B HWB.out (fun j hj => by have := HW0.out; omega)
      replace HWB := Hid.mk (Nat.le_trans HWB.out Sn.size)
      clear M VR B Sn
      have M := Mn
      have VR := VRn
      have B := Bn
      clear Mn VRn Bn
      replace hU1 := Hid.mk hU1
      replace U1 := Hid.mk U1
      go_wp2_with fail
      refine (list_lit _ _ _ _ [ni, nr, v1] [ni, nr, u1] _ M (by simp) (by intro z hz; simp only [List.mem_cons, List.not_mem_nil, or_false] at hz; rcases hz with rfl | rfl | rfl; all_goals first | exact rI.out | exact rR.out | exact hU1.out) (fun h => by rw [(fun h => U1.out h) h])).mono ?_
      rintro e wz ⟨u2, rfl, hU2, U2, Mn, Sn⟩
      rw [E2.out] at U2 Mn
      simp only at U2 Mn
      have VRn := VR.sm Sn (fun e => e HVR.out)
      have Bn := Sn.below' B HWB.out (fun j hj => by have := HW0.out; omega)
      replace HWB := Hid.mk (Nat.le_trans HWB.out Sn.size)
      clear M VR B Sn
      have M := Mn
      have VR := VRn
      have B := Bn
      clear Mn VRn Bn
      replace hU2 := Hid.mk hU2
      replace U2 := Hid.mk U2
      go_wp2_with fail
      refine (prf_ok _ _ _ _ down v2 down u2 _ M rD.out hU2.out (fun _ => rfl) (fun h => U2.out h)).mono ?_
      rintro e wz ⟨u3, rfl, hU3, U3, Mn, Sn⟩
      rw [E3.out] at U3 Mn
      simp only at U3 Mn
      have VRn := VR.sm Sn (fun e => e HVR.out)
      have Bn := Sn.below' B HWB.out (fun j hj => by have := HW0.out; omega)
      replace HWB := Hid.mk (Nat.le_trans HWB.out Sn.size)
      clear M VR B Sn
      have M := Mn
      have VR := VRn
      have B := Bn
      clear Mn VRn Bn
      replace hU3 := Hid.mk hU3
      replace U3 := Hid.mk U3
      go_wp2_with fail
      refine (names_lit _ _ _ _ [5, si, sr] _ M (by simp) (by intro z hz; simp only [List.mem_cons, List.not_mem_nil, or_false] at hz; (try rcases hz with rfl | rfl | rfl); all_goals first | exact r5.out | exact rA.out | exact rB.out)).mono ?_
      rintro e wz ⟨u4, rfl, hU4, U4, Mn, Sn⟩
      rw [E4.out] at U4 Mn
      simp only at U4 Mn
      have VRn := VR.sm Sn (fun e => e HVR.out)
      have Bn := Sn.below' B HWB.out (fun j hj => by have := HW0.out; omega)
      replace HWB := Hid.mk (Nat.le_trans HWB.out Sn.size)
      clear M VR B Sn
      have M := Mn
      have VR := VRn
      have B := Bn
      clear Mn VRn Bn
      replace hU4 := Hid.mk hU4
      replace U4 := Hid.mk U4
      go_wp2_with fail
      refine (list_lit _ _ _ _ [ni, nr, v4] [ni, nr, u4] _ M (by simp) (by intro z hz; simp only [List.mem_cons, List.not_mem_nil, or_false] at hz; rcases hz with rfl | rfl | rfl; all_goals first | exact rI.out | exact rR.out | exact hU4.out) (fun h => by rw [(fun h => U4.out h) h])).mono ?_
      rintro e wz ⟨u5, rfl, hU5, U5, Mn, Sn⟩
      rw [E5.out] at U5 Mn
      simp only at U5 Mn
      have VRn := VR.sm Sn (fun e => e HVR.out)
      have Bn := Sn.below' B HWB.out (fun j hj => by have := HW0.out; omega)
      replace HWB := Hid.mk (Nat.le_trans HWB.out Sn.size)
      clear M VR B Sn
      have M := Mn
      have VR := VRn
      have B := Bn
      clear Mn VRn Bn
      replace hU5 := Hid.mk hU5
      replace U5 := Hid.mk U5
      go_wp2_with fail
      refine (prf_ok _ _ _ _ down v5 down u5 _ M rD.out hU5.out (fun _ => rfl) (fun h => U5.out h)).mono ?_
      rintro e wz ⟨u6, rfl, hU6, U6, Mn, Sn⟩
      rw [E6.out] at U6 Mn
      simp only at U6 Mn
      have VRn := VR.sm Sn (fun e => e HVR.out)
      have Bn := Sn.below' B HWB.out (fun j hj => by have := HW0.out; omega)
      replace HWB := Hid.mk (Nat.le_trans HWB.out Sn.size)
      clear M VR B Sn
      have M := Mn
      have VR := VRn
      have B := Bn
      clear Mn VRn Bn
      replace hU6 := Hid.mk hU6
      replace U6 := Hid.mk U6
      obtain ⟨base, p, g, c, d, ys, VQ, H, hl, hxx, hbb, hbQ, hnb, ho⟩ := M
      simp only at hxx VQ
      obtain rfl := hxx (by trivial)
      have o1 := U3.out (N4.out (N5.out (N6.out (by trivial))))
      have o2 := U6.out (by trivial)
      subst o1 o2
      obtain ⟨n6, hn6⟩ : ∃ q, ys.length = q := ⟨_, rfl⟩
      have VP := H.v
      rw [hn6] at VP
      have O := H.o
      have OL := Hid.mk (fun b hb => (O.lt b hb).1)
      have HOW := Hid.mk (Nat.le_trans HW0.out hbb)
      have hOb := Hid.mk (H.lt)
      clear H ho hnb hl
      obtain ⟨s_VR, f_VR, z_VR⟩ := VR.open
      obtain ⟨s_VQ, f_VQ, z_VQ⟩ := VQ.open
      obtain ⟨s_VP, f_VP, z_VP⟩ := VP.open
      have Bo := B
      clear s_VR f_VR z_VR s_VQ f_VQ z_VQ s_VP f_VP z_VP
      have VF := Hid.mk (VR.filled [.int .i64 0, .int .i64 u3, .int .i64 u6, .slice c n6 d] rfl)
      have HT := Hid.mk VR.there
      have BR := belowCells B (show w.heap.size ≤ w.heap.size by (first | omega | (simp; done) | (simp; omega))) 0 [.int .i64 0, .int .i64 u3, .int .i64 u6, .slice c n6 d]
      replace BR := Hid.mk BR
      have hb0 := HW0.out
      have hb1 := HVR.out
      have HO := Hid.mk ((O.mono HOW.out).apart (B := w.heap.size) (by intro b hb; have := OL.out b hb; first | omega | (simp at this; omega)) 0 [.int .i64 0, .int .i64 u3, .int .i64 u6, .slice c n6 d])
      obtain ⟨s_VR, f_VR, z_VR⟩ := VR.open
      obtain ⟨s_VQ, f_VQ, z_VQ⟩ := VQ.open
      obtain ⟨s_VP, f_VP, z_VP⟩ := VP.open
      go_wp2_with (refine wpList_store_mid rfl 67 _ _ rfl (w.heap.size) 0 #[.int .i64 0, .int .i64 u3, .int .i64 u6, .slice c n6 d] rfl rfl HT.out (by kernel_rfl) (by kernel_rfl) ?_)
      refine bodyPost_ret (v := .agg #[.int .i64 0, .int .i64 u3, .int .i64 u6, .slice c n6 d]) (results_row Try.results44 _ _ (w.heap.size) [.int .i64 0, .int .i64 u3, .int .i64 u6, .slice c n6 d] _ rfl VF.out Try.underlying67 rfl (by kernel_rfl)) rfl ⟨c, d, by rw [hn6], HO.out, BR.out⟩

end Go.Proofs.Ythkmoabkeblbjaa
