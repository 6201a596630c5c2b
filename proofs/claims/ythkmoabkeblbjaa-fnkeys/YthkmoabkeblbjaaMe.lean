/- Put together: KzF, KzG. -/
import Derived.Test.YthkmoabkeblbjaaMc

/- Names and lists from a literal. -/
namespace Go.Proofs.Ythkmoabkeblbjaa
open Go.RowKit

theorem mkE_mono {m : Mk} {zs : List Int} (h : (mkE m zs).1.c = 0) : m.c = 0 := by
  by_cases h1 : m.c = 0
  · exact h1
  · rw [mkE_bad h1] at h; exact absurd h h1

theorem mkV_mono {m : Mk} {ns : List Int} (h : (mkV m ns).1.c = 0) : m.c = 0 := mkNs_mono (mkE_mono h)

theorem names_lit (b0 Q : Nat) (Of : Nat → Prop) (m : Mk) (ns : List Int) (w : World) (h : MP w b0 Of Q m) (hn : ns.length ≤ 1048576) (hok : ∀ z ∈ ns, okI z) :
    Calls Try.prog 73 #[.pointer (some ⟨Q, 0, none⟩), .slice (some ⟨w.heap.size, 0, none⟩) ns.length ns.length] (w.alloc (.cells (ns.map (Value.int .i64)).toArray 2)) fun e w' => ∃ v, e = .returned (.int .i64 v) ∧ (0 ≤ v ∧ v ≤ 400) ∧ ((mkV m ns).1.c = 0 → v = (mkV m ns).2) ∧ MP w' b0 Of Q (mkV m ns).1 ∧ Sm (fun k => ¬ Of k) w w' := by
  have b := belowA w (.cells (ns.map (Value.int .i64)).toArray 2)
  have M := h.more b (Nat.le_refl _) (by rw [World.size_alloc]; omega)
  refine (names_ok b0 Q _ m _ ns.length ns.length ns _ M (Rd.litI w ns) rfl hn hok (fun q hq => by simp only [Option.some.injEq] at hq; subst hq; exact .inr rfl)).mono ?_
  rintro e w' ⟨v, he, hv, hve, M2, S⟩
  exact ⟨v, he, hv, hve, M2.less (fun k hk => .inl hk), (Sm.below (X := fun k => ¬ Of k) b).trans (S.wide (fun k hk h2 => hk (.inl h2)))⟩

theorem list_lit (b0 Q : Nat) (Of : Nat → Prop) (m : Mk) (zs zs' : List Int) (w : World) (h : MP w b0 Of Q m) (hn : zs'.length ≤ 1048576) (hz : ∀ z ∈ zs', 0 ≤ z ∧ z ≤ 400) (ez : m.c = 0 → zs' = zs) :
    Calls Try.prog 68 #[.pointer (some ⟨Q, 0, none⟩), .slice (some ⟨w.heap.size, 0, none⟩) zs'.length zs'.length] (w.alloc (.cells (zs'.map (Value.int .i64)).toArray 2)) fun e w' => ∃ v, e = .returned (.int .i64 v) ∧ (0 ≤ v ∧ v ≤ 400) ∧ ((mkE m zs).1.c = 0 → v = (mkE m zs).2) ∧ MP w' b0 Of Q (mkE m zs).1 ∧ Sm (fun k => ¬ Of k) w w' := by
  have b := belowA w (.cells (zs'.map (Value.int .i64)).toArray 2)
  have M := h.more b (Nat.le_refl _) (by rw [World.size_alloc]; omega)
  refine (list_ok b0 Q _ m _ zs'.length zs'.length zs zs' _ M (Rd.litI w zs') rfl (by unfold maxLen; omega) hz ez (fun q hq => by simp only [Option.some.injEq] at hq; subst hq; exact .inr rfl)).mono ?_
  rintro e w' ⟨v, he, hv, hve, M2, S⟩
  exact ⟨v, he, hv, hve, M2.less (fun k hk => .inl hk), (Sm.below (X := fun k => ¬ Of k) b).trans (S.wide (fun k hk h2 => hk (.inl h2)))⟩

end Go.Proofs.Ythkmoabkeblbjaa

/- MakeProof of the program. -/
namespace Go.Proofs.Ythkmoabkeblbjaa
open Go.RowKit

theorem mp_told (xs : List T4) (shared first nonce key id : Int) (h1 : aqC xs [shared, first, nonce, key] = 0) (h2 : btw id 0 9999 = true) : mpR xs shared first nonce key id = ⟨(prP ⟨xs, 0⟩ shared first nonce key id).1.c, okV (prP ⟨xs, 0⟩ shared first nonce key id).1 (prP ⟨xs, 0⟩ shared first nonce key id).2, okL (prP ⟨xs, 0⟩ shared first nonce key id).1⟩ := by
  unfold mpR
  rw [if_pos h1, if_pos h2]

theorem okP {xs : List T4} {z : Int} (h : tfC xs = 0) (h2 : 0 ≤ z ∧ z < xs.length) : 0 ≤ z ∧ z ≤ 400 := by
  have := (tfC_zero h).1
  omega

set_option maxRecDepth 20000 in
set_option maxHeartbeats 8000000 in
theorem implMakeProof_ok (a : Option Addr) (n ca : Nat) (xs : List T4) (shared first nonce key id : Int) (w : World) (ha : RdTerm w a xs) (hn : xs.length = n) (hx : n ≤ 1048576) (hok : ∀ t ∈ xs, okT t) :
    Calls Try.prog 25 #[.slice a n ca, .int .i64 shared, .int .i64 first, .int .i64 nonce, .int .i64 key, .int .i64 id] w fun e w' => ∃ c d, e = .returned (.agg #[.int .i64 (mpR xs shared first nonce key id).c, .int .i64 (mpR xs shared first nonce key id).k, .slice c (mpR xs shared first nonce key id).l.length d]) ∧ OwnTerm w' w.heap.size c d (mpR xs shared first nonce key id).l ∧ Below w.heap.size w w' := by
  have q1 := build_tr0'
  by_cases hc : mkC xs [shared, first, nonce, key] [id] = 0
  rotate_left
  · have CB := Hid.mk (fun b b2 w h hz hs => makerOf_no a n ca xs b 4 4 [shared, first, nonce, key] b2 1 1 [id] w h hn hx hok hz rfl (by omega) hs rfl (by omega) hc)
    have e : mpR xs shared first nonce key id = ⟨mkC xs [shared, first, nonce, key] [id], 0, []⟩ := by
      have hb : nmsOk [id] = btw id 0 9999 := by simp [nmsOk]
      unfold mkC at hc ⊢
      rw [hb] at hc ⊢
      rcases mp_ways xs shared first nonce key id with ⟨h1, e2⟩ | ⟨h1, h2, e2⟩ | ⟨h1, h2, h3, e2⟩ | ⟨h1, h2, h3, e2⟩
      · rw [e2, if_neg h1]
      · rw [e2, if_pos h1, h2]; rfl
      · rw [if_pos h1, if_pos h2] at hc; exact absurd rfl hc
      · rw [if_pos h1, if_pos h2] at hc; exact absurd rfl hc
    rw [e]
    have h0 : (mkC xs [shared, first, nonce, key] [id] != 0) = true := by simp [hc]
    clear e hc hok
    generalize mkC xs [shared, first, nonce, key] [id] = kk at *
    go_enter Try.func25, Try.ntmps25
    have B := Below.refl w.heap.size w
    replace ha := ha.kept (belowA w (.cells #[.int .i64 0, .int .i64 0, .slice none 0 0] 33))
    replace B := thenB B (belowA w (.cells #[.int .i64 0, .int .i64 0, .slice none 0 0] 33))
    have VR := V.new w [.int .i64 0, .int .i64 0, .slice none 0 0] 33
    obtain ⟨s_VR, f_VR, z_VR⟩ := VR.open
    have Bo := B
    clear s_VR f_VR z_VR
    have RP0 := Rd.litI (w.alloc (.cells #[.int .i64 0, .int .i64 0, .slice none 0 0] 33)) [shared, first, nonce, key]
    simp only [World.size_alloc] at RP0
    replace VR := VR.kept (belowA (w.alloc (.cells #[.int .i64 0, .int .i64 0, .slice none 0 0] 33)) (.cells #[.int .i64 shared, .int .i64 first, .int .i64 nonce, .int .i64 key] 2))
    replace ha := ha.kept (belowA (w.alloc (.cells #[.int .i64 0, .int .i64 0, .slice none 0 0] 33)) (.cells #[.int .i64 shared, .int .i64 first, .int .i64 nonce, .int .i64 key] 2))
    replace B := thenB B (belowA (w.alloc (.cells #[.int .i64 0, .int .i64 0, .slice none 0 0] 33)) (.cells #[.int .i64 shared, .int .i64 first, .int .i64 nonce, .int .i64 key] 2))
    have RP1 := Rd.litI ((w.alloc (.cells #[.int .i64 0, .int .i64 0, .slice none 0 0] 33)).alloc (.cells #[.int .i64 shared, .int .i64 first, .int .i64 nonce, .int .i64 key] 2)) [id]
    simp only [World.size_alloc] at RP1
    replace VR := VR.kept (belowA ((w.alloc (.cells #[.int .i64 0, .int .i64 0, .slice none 0 0] 33)).alloc (.cells #[.int .i64 shared, .int .i64 first, .int .i64 nonce, .int .i64 key] 2)) (.cells #[.int .i64 id] 2))
    replace ha := ha.kept (belowA ((w.alloc (.cells #[.int .i64 0, .int .i64 0, .slice none 0 0] 33)).alloc (.cells #[.int .i64 shared, .int .i64 first, .int .i64 nonce, .int .i64 key] 2)) (.cells #[.int .i64 id] 2))
    replace B := thenB B (belowA ((w.alloc (.cells #[.int .i64 0, .int .i64 0, .slice none 0 0] 33)).alloc (.cells #[.int .i64 shared, .int .i64 first, .int .i64 nonce, .int .i64 key] 2)) (.cells #[.int .i64 id] 2))
    replace RP0 := RP0.kept (belowA ((w.alloc (.cells #[.int .i64 0, .int .i64 0, .slice none 0 0] 33)).alloc (.cells #[.int .i64 shared, .int .i64 first, .int .i64 nonce, .int .i64 key] 2)) (.cells #[.int .i64 id] 2))
    obtain ⟨s_VR, f_VR, z_VR⟩ := VR.open
    go_wp2_with fail
    refine (CB.out _ _ _ ha RP0 RP1).mono ?_
    rintro e w1 ⟨rfl, b1⟩
    clear s_VR f_VR z_VR
    have S1 := b1.size
    simp only [World.size_alloc] at S1
    replace VR := VR.kept b1
    replace ha := ha.kept b1
    replace B := thenB B b1
    clear b1 RP0 RP1
    obtain ⟨s_VR, f_VR, z_VR⟩ := VR.open
    have Bo := B
    clear s_VR f_VR z_VR
    have VF := Hid.mk (VR.filled [.int .i64 kk, .int .i64 0, .slice none 0 0] rfl)
    have HT := Hid.mk VR.there
    have BR := belowCells B (show w.heap.size ≤ w.heap.size by (first | omega | (simp; done) | (simp; omega))) 0 [.int .i64 kk, .int .i64 0, .slice none 0 0]
    replace BR := Hid.mk BR
    obtain ⟨s_VR, f_VR, z_VR⟩ := VR.open
    go_wp2_with (refine wpList_store_mid rfl 33 _ _ rfl (w.heap.size) 0 #[.int .i64 kk, .int .i64 0, .slice none 0 0] rfl rfl HT.out (by kernel_rfl) (by kernel_rfl) ?_)
    refine bodyPost_ret (v := .agg #[.int .i64 kk, .int .i64 0, .slice none 0 0]) (results_row Try.results25 _ _ (w.heap.size) [.int .i64 kk, .int .i64 0, .slice none 0 0] _ rfl VF.out Try.underlying33 rfl (by kernel_rfl)) rfl ⟨none, 0, rfl, OwnTerm.none, BR.out⟩
  · have CB := Hid.mk (fun b b2 w h hz hs => makerOf_yes a n ca xs b 4 4 [shared, first, nonce, key] b2 1 1 [id] w h hn hx hok hz rfl (by omega) hs rfl (by omega) hc)
    obtain ⟨h1, h2, h3⟩ := mkC_zero hc
    have hb : btw id 0 9999 = true := by simpa [nmsOk] using h3
    have hq : aqC xs [shared, first, nonce, key] = 0 := by
      unfold mkC at hc
      by_cases h : aqC xs [shared, first, nonce, key] = 0
      · exact h
      · rw [if_neg h] at hc; exact hc
    rw [mp_told xs shared first nonce key id hq hb]
    have rS := Hid.mk (okP h1 (h2 shared (by simp)))
    have rF := Hid.mk (okP h1 (h2 first (by simp)))
    have rN := Hid.mk (okP h1 (h2 nonce (by simp)))
    have rK := Hid.mk (okP h1 (h2 key (by simp)))
    have rI : Hid (okI id) := Hid.mk (by have := btw_iff.1 hb; exact okI_of (by omega) (by omega))
    have r9 : Hid (okI 9) := Hid.mk (okI_of (by decide) (by decide))
    obtain ⟨P1, e1⟩ : ∃ P, mkV ⟨xs, 0⟩ [9] = P := ⟨_, rfl⟩
    have N1 := Hid.mk (fun (h : P1.1.c = 0) => mkV_mono (m := ⟨xs, 0⟩) (show (mkV ⟨xs, 0⟩ [9]).1.c = 0 by rw [e1]; exact h))
    obtain ⟨m1, v1⟩ := P1
    simp only at N1
    obtain ⟨P2, e2⟩ : ∃ P, mk2 m1 4 shared v1 = P := ⟨_, rfl⟩
    have N2 := Hid.mk (fun (h : P2.1.c = 0) => mk2_mono (o := 4) (a := shared) (b := v1) (m := m1) (show (mk2 m1 4 shared v1).1.c = 0 by rw [e2]; exact h))
    obtain ⟨m2, v2⟩ := P2
    simp only at N2
    obtain ⟨P3, e3⟩ : ∃ P, mkV m2 [id] = P := ⟨_, rfl⟩
    have N3 := Hid.mk (fun (h : P3.1.c = 0) => mkV_mono (m := m2) (show (mkV m2 [id]).1.c = 0 by rw [e3]; exact h))
    obtain ⟨m3, v3⟩ := P3
    simp only at N3
    obtain ⟨P4, e4⟩ : ∃ P, mk2 m3 4 key v3 = P := ⟨_, rfl⟩
    have N4 := Hid.mk (fun (h : P4.1.c = 0) => mk2_mono (o := 4) (a := key) (b := v3) (m := m3) (show (mk2 m3 4 key v3).1.c = 0 by rw [e4]; exact h))
    obtain ⟨m4, v4⟩ := P4
    simp only at N4
    obtain ⟨P5, e5⟩ : ∃ P, mkE m4 [first, nonce, v4] = P := ⟨_, rfl⟩
    have N5 := Hid.mk (fun (h : P5.1.c = 0) => mkE_mono (m := m4) (show (mkE m4 [first, nonce, v4]).1.c = 0 by rw [e5]; exact h))
    obtain ⟨m5, v5⟩ := P5
    simp only at N5
    obtain ⟨P6, e6⟩ : ∃ P, mk2 m5 4 v2 v5 = P := ⟨_, rfl⟩
    have N6 := Hid.mk (fun (h : P6.1.c = 0) => mk2_mono (o := 4) (a := v2) (b := v5) (m := m5) (show (mk2 m5 4 v2 v5).1.c = 0 by rw [e6]; exact h))
    obtain ⟨m6, v6⟩ := P6
    simp only at N6
    have EE : prP ⟨xs, 0⟩ shared first nonce key id = (m6, v6) := by
      rw [← e6, ← show (m5, v5).1 = m5 from rfl, ← show (m5, v5).2 = v5 from rfl, ← e5]
      have a1 : m1 = (mkV ⟨xs, 0⟩ [9]).1 := by rw [e1]
      have b1 : v1 = (mkV ⟨xs, 0⟩ [9]).2 := by rw [e1]
      have a2 : m2 = (mk2 m1 4 shared v1).1 := by rw [e2]
      have b2 : v2 = (mk2 m1 4 shared v1).2 := by rw [e2]
      have a3 : m3 = (mkV m2 [id]).1 := by rw [e3]
      have b3 : v3 = (mkV m2 [id]).2 := by rw [e3]
      have a4 : m4 = (mk2 m3 4 key v3).1 := by rw [e4]
      have b4 : v4 = (mk2 m3 4 key v3).2 := by rw [e4]
      rw [b4, a4, b3, a3, b2, a2, b1, a1]
      rfl
    rw [EE]
    clear EE hc h2 h3 hb hq hok
    have E1 := Hid.mk e1
    have E2 := Hid.mk e2
    have E3 := Hid.mk e3
    have E4 := Hid.mk e4
    have E5 := Hid.mk e5
    have E6 := Hid.mk e6
    clear e1 e2 e3 e4 e5 e6
    go_enter Try.func25, Try.ntmps25
    have B := Below.refl w.heap.size w
    replace ha := ha.kept (belowA w (.cells #[.int .i64 0, .int .i64 0, .slice none 0 0] 33))
    replace B := thenB B (belowA w (.cells #[.int .i64 0, .int .i64 0, .slice none 0 0] 33))
    have VR := V.new w [.int .i64 0, .int .i64 0, .slice none 0 0] 33
    obtain ⟨s_VR, f_VR, z_VR⟩ := VR.open
    have Bo := B
    clear s_VR f_VR z_VR
    have RP0 := Rd.litI (w.alloc (.cells #[.int .i64 0, .int .i64 0, .slice none 0 0] 33)) [shared, first, nonce, key]
    simp only [World.size_alloc] at RP0
    replace VR := VR.kept (belowA (w.alloc (.cells #[.int .i64 0, .int .i64 0, .slice none 0 0] 33)) (.cells #[.int .i64 shared, .int .i64 first, .int .i64 nonce, .int .i64 key] 2))
    replace ha := ha.kept (belowA (w.alloc (.cells #[.int .i64 0, .int .i64 0, .slice none 0 0] 33)) (.cells #[.int .i64 shared, .int .i64 first, .int .i64 nonce, .int .i64 key] 2))
    replace B := thenB B (belowA (w.alloc (.cells #[.int .i64 0, .int .i64 0, .slice none 0 0] 33)) (.cells #[.int .i64 shared, .int .i64 first, .int .i64 nonce, .int .i64 key] 2))
    have RP1 := Rd.litI ((w.alloc (.cells #[.int .i64 0, .int .i64 0, .slice none 0 0] 33)).alloc (.cells #[.int .i64 shared, .int .i64 first, .int .i64 nonce, .int .i64 key] 2)) [id]
    simp only [World.size_alloc] at RP1
    replace VR := VR.kept (belowA ((w.alloc (.cells #[.int .i64 0, .int .i64 0, .slice none 0 0] 33)).alloc (.cells #[.int .i64 shared, .int .i64 first, .int .i64 nonce, .int .i64 key] 2)) (.cells #[.int .i64 id] 2))
    replace ha := ha.kept (belowA ((w.alloc (.cells #[.int .i64 0, .int .i64 0, .slice none 0 0] 33)).alloc (.cells #[.int .i64 shared, .int .i64 first, .int .i64 nonce, .int .i64 key] 2)) (.cells #[.int .i64 id] 2))
    replace B := thenB B (belowA ((w.alloc (.cells #[.int .i64 0, .int .i64 0, .slice none 0 0] 33)).alloc (.cells #[.int .i64 shared, .int .i64 first, .int .i64 nonce, .int .i64 key] 2)) (.cells #[.int .i64 id] 2))
    replace RP0 := RP0.kept (belowA ((w.alloc (.cells #[.int .i64 0, .int .i64 0, .slice none 0 0] 33)).alloc (.cells #[.int .i64 shared, .int .i64 first, .int .i64 nonce, .int .i64 key] 2)) (.cells #[.int .i64 id] 2))
    obtain ⟨s_VR, f_VR, z_VR⟩ := VR.open
    go_wp2_with fail
    refine (CB.out _ _ _ ha RP0 RP1).mono ?_
    rintro e w21 ⟨Q, p, g, c, d, rfl, VQ, H, hQ, hnQ, b21⟩
    clear s_VR f_VR z_VR
    have S21 := b21.size
    simp only [World.size_alloc] at S21
    replace VR := VR.kept b21
    replace ha := ha.kept b21
    replace B := thenB B b21
    clear b21 RP0 RP1
    have M := MP.made (w0 := ((w.alloc (.cells #[.int .i64 0, .int .i64 0, .slice none 0 0] 33)).alloc (.cells #[.int .i64 shared, .int .i64 first, .int .i64 nonce, .int .i64 key] 2)).alloc (.cells #[.int .i64 id] 2)) VQ H hQ hnQ h1
    have HVR := Hid.mk (show w.heap.size < (((w.alloc (.cells #[.int .i64 0, .int .i64 0, .slice none 0 0] 33)).alloc (.cells #[.int .i64 shared, .int .i64 first, .int .i64 nonce, .int .i64 key] 2)).alloc (.cells #[.int .i64 id] 2)).heap.size by simp only [World.size_alloc]; omega)
    have HW0 := Hid.mk (show w.heap.size ≤ (((w.alloc (.cells #[.int .i64 0, .int .i64 0, .slice none 0 0] 33)).alloc (.cells #[.int .i64 shared, .int .i64 first, .int .i64 nonce, .int .i64 key] 2)).alloc (.cells #[.int .i64 id] 2)).heap.size by simp only [World.size_alloc]; omega)
    have HWB := Hid.mk (show w.heap.size ≤ w21.heap.size by have := B.size; omega)
    clear VQ H hQ hnQ
    generalize (((w.alloc (.cells #[.int .i64 0, .int .i64 0, .slice none 0 0] 33)).alloc (.cells #[.int .i64 shared, .int .i64 first, .int .i64 nonce, .int .i64 key] 2)).alloc (.cells #[.int .i64 id] 2)).heap.size = W0 at *
    clear ha Bo
    go_wp2_with fail
    refine (names_lit _ _ _ _ [9] _ M (by simp) (by intro z hz; rw [List.mem_singleton] at hz; subst hz; exact r9.out)).mono ?_
    rintro e wz ⟨u1, rfl, hU1, U1, Mn, Sn⟩
    rw [E1.out] at U1 Mn
    simp only at U1 Mn
    have VRn := VR.sm Sn (fun e => e HVR.out)
    have Bn := Sn.below' B HWB.out (fun j hj => by have := HW0.out; omega)
    replace HWB := Hid.mk (Nat.le_trans HWB.out Sn.size)
    clear M VR B Sn
    have M := Mn
    have VR := VRn
    have B := Bn
    clear Mn VRn Bn
    replace hU1 := Hid.mk hU1
    replace U1 := Hid.mk U1
    go_wp2_with fail
    refine (prf_ok _ _ _ _ shared v1 shared u1 _ M rS.out hU1.out (fun _ => rfl) (fun h => U1.out h)).mono ?_
    rintro e wz ⟨u2, rfl, hU2, U2, Mn, Sn⟩
    rw [E2.out] at U2 Mn
    simp only at U2 Mn
    have VRn := VR.sm Sn (fun e => e HVR.out)
    have Bn := Sn.below' B HWB.out (fun j hj => by have := HW0.out; omega)
    replace HWB := Hid.mk (Nat.le_trans HWB.out Sn.size)
    clear M VR B Sn
    have M := Mn
    have VR := VRn
    have B := Bn
    clear Mn VRn Bn
    replace hU2 := Hid.mk hU2
    replace U2 := Hid.mk U2
    go_wp2_with fail
    refine (names_lit _ _ _ _ [id] _ M (by simp) (by intro z hz; rw [List.mem_singleton] at hz; subst hz; exact rI.out)).mono ?_
    rintro e wz ⟨u3, rfl, hU3, U3, Mn, Sn⟩
    rw [E3.out] at U3 Mn
    simp only at U3 Mn
    have VRn := VR.sm Sn (fun e => e HVR.out)
    have Bn := Sn.below' B HWB.out (fun j hj => by have := HW0.out; omega)
    replace HWB := Hid.mk (Nat.le_trans HWB.out Sn.size)
    clear M VR B Sn
    have M := Mn
    have VR := VRn
    have B := Bn
    clear Mn VRn Bn
    replace hU3 := Hid.mk hU3
    replace U3 := Hid.mk U3
    go_wp2_with fail
    refine (prf_ok _ _ _ _ key v3 key u3 _ M rK.out hU3.out (fun _ => rfl) (fun h => U3.out h)).mono ?_
    rintro e wz ⟨u4, rfl, hU4, U4, Mn, Sn⟩
    rw [E4.out] at U4 Mn
    simp only at U4 Mn
    have VRn := VR.sm Sn (fun e => e HVR.out)
    have Bn := Sn.below' B HWB.out (fun j hj => by have := HW0.out; omega)
    replace HWB := Hid.mk (Nat.le_trans HWB.out Sn.size)
    clear M VR B Sn
    have M := Mn
    have VR := VRn
    have B := Bn
    clear Mn VRn Bn
    replace hU4 := Hid.mk hU4
    replace U4 := Hid.mk U4
    go_wp2_with fail
    refine (list_lit _ _ _ _ [first, nonce, v4] [first, nonce, u4] _ M (by simp) (by intro z hz; simp only [List.mem_cons, List.not_mem_nil, or_false] at hz; rcases hz with rfl | rfl | rfl; all_goals first | exact rF.out | exact rN.out | exact hU4.out) (fun h => by rw [(fun h => U4.out h) h])).mono ?_
    rintro e wz ⟨u5, rfl, hU5, U5, Mn, Sn⟩
    rw [E5.out] at U5 Mn
    simp only at U5 Mn
    have VRn := VR.sm Sn (fun e => e HVR.out)
    have Bn := Sn.below' B HWB.out (fun j hj => by have := HW0.out; omega)
    replace HWB := Hid.mk (Nat.le_trans HWB.out Sn.size)
    clear M VR B Sn
    have M := Mn
    have VR := VRn
    have B := Bn
    clear Mn VRn Bn
    replace hU5 := Hid.mk hU5
    replace U5 := Hid.mk U5
    go_wp2_with fail
    refine (prf_ok _ _ _ _ v2 v5 u2 u5 _ M hU2.out hU5.out (fun h => U2.out (N3.out (N4.out (N5.out h)))) (fun h => U5.out h)).mono ?_
    rintro e wz ⟨u6, rfl, hU6, U6, Mn, Sn⟩
    rw [E6.out] at U6 Mn
    simp only at U6 Mn
    have VRn := VR.sm Sn (fun e => e HVR.out)
    have Bn := Sn.below' B HWB.out (fun j hj => by have := HW0.out; omega)
    replace HWB := Hid.mk (Nat.le_trans HWB.out Sn.size)
    clear M VR B Sn
    have M := Mn
    have VR := VRn
    have B := Bn
    clear Mn VRn Bn
    replace hU6 := Hid.mk hU6
    replace U6 := Hid.mk U6
    have HOW := HW0
    have TT := told_ok _ _ _ m6 v6 u6 _ M U6.out
    replace TT := Hid.mk TT
    obtain ⟨s_VR, f_VR, z_VR⟩ := VR.open
    have Bo := B
    go_wp2_with fail
    refine (TT.out).mono ?_
    rintro e w22 ⟨c9, d9, rfl, O, b22⟩
    clear s_VR f_VR z_VR
    have S22 := b22.size
    replace VR := VR.kept b22
    replace B := thenB B b22
    clear b22
    obtain ⟨s_VR, f_VR, z_VR⟩ := VR.open
    have Bo := B
    have OL := Hid.mk (fun b hb => (O.lt b hb).1)
    obtain ⟨kl, hkl⟩ : ∃ q, (okL m6).length = q := ⟨_, rfl⟩
    rw [hkl]
    replace hkl := Hid.mk hkl
    clear M TT
    clear s_VR f_VR z_VR
    have VF := Hid.mk (VR.filled [.int .i64 (m6).c, .int .i64 (okV m6 v6), .slice c9 kl d9] rfl)
    have HT := Hid.mk VR.there
    have BR := belowCells B (show w.heap.size ≤ w.heap.size by (first | omega | (simp; done) | (simp; omega))) 0 [.int .i64 (m6).c, .int .i64 (okV m6 v6), .slice c9 kl d9]
    replace BR := Hid.mk BR
    have hb1 := HVR.out
    have HO := Hid.mk ((O.mono HOW.out).apart (B := w.heap.size) (by intro b hb; have := OL.out b hb; first | omega | (simp at this; omega)) 0 [.int .i64 (m6).c, .int .i64 (okV m6 v6), .slice c9 kl d9])
    obtain ⟨s_VR, f_VR, z_VR⟩ := VR.open
    go_wp2_with (refine wpList_store_mid rfl 33 _ _ rfl (w.heap.size) 0 #[.int .i64 (m6).c, .int .i64 (okV m6 v6), .slice c9 kl d9] rfl rfl HT.out (by kernel_rfl) (by kernel_rfl) ?_)
    refine bodyPost_ret (v := .agg #[.int .i64 (m6).c, .int .i64 (okV m6 v6), .slice c9 kl d9]) (results_row Try.results25 _ _ (w.heap.size) [.int .i64 (m6).c, .int .i64 (okV m6 v6), .slice c9 kl d9] _ rfl VF.out Try.underlying33 rfl (by kernel_rfl)) rfl ⟨c9, d9, by rw [hkl.out], HO.out, BR.out⟩

end Go.Proofs.Ythkmoabkeblbjaa
