/- Put together: MvC, MvI, MvJ. -/
import Derived.Test.YthjaehcfakjemaaDoorFmh
import Derived.Test.YthjaehcfakjemaaDoorFmf
import Derived.Test.YthjaehcfakjemaaDoorFmj
import Derived.Test.YthjaehcfakjemaaDoorTmW

/- takeOver. -/
namespace Go.Proofs.YthjaehcfakjemaaDoor
open Go.RowKit

theorem tab_cell {w : World} {Q L : Nat} {pl : Int → Int} (h : Own .i64 2 w Q (some ⟨Q, 0, none⟩) L (tab L pl)) {i : Nat} (hi : i < L) : w.cell? ⟨Q, i, none⟩ = some (.int .i64 (pl i)) := by
  rcases h.rd with h1 | ⟨b3, o3, e3, h1⟩
  · have := tab_len L pl; rw [h1] at this; simp at this; omega
  · simp only [Option.some.injEq, Addr.mk.injEq, and_true] at e3
    obtain ⟨rfl, rfl⟩ := e3
    have h2 := h1 i (by rw [tab_len]; exact hi)
    rw [Nat.zero_add, tab_at pl hi] at h2
    exact h2

theorem tab_frozen {w : World} {Q L : Nat} {pl : Int → Int} (h : Own .i64 2 w Q (some ⟨Q, 0, none⟩) L (tab L pl)) (i : Nat) : w.frozen? ⟨Q, i, none⟩ = false := (h.row (tab_len L pl)).frozenAt i

theorem tab_store {w : World} {Q L : Nat} {pl : Int → Int} (h : Own .i64 2 w Q (some ⟨Q, 0, none⟩) L (tab L pl)) (i : Nat) (v : Int) : Own .i64 2 (w.setCell ⟨Q, i, none⟩ (.int .i64 v)) Q (some ⟨Q, 0, none⟩) L (tab L (updP pl i v)) := by
  have hs := (h.row (tab_len L pl)).stored i (.int .i64 v)
  rw [set_map, tab_set] at hs
  exact Own.mk hs.1 (tab_len _ _)

/-- What a call of 'takeOver' leaves. -/
def TkOver (M : Mv) (m base p g : Nat) (c : Option Addr) (w : World) (e : Ending) (w' : World) : Prop :=
  ∃ c' d', e = .returned (.agg #[.int .i64 M.c, .int .i64 (if M.c = 0 then M.pl m else 0)]) ∧ Bk w' base p g c' d' M.tb ∧ Sm (BkX p g c) w w' ∧ ∀ k, BkX p g c' k → k < w.heap.size → BkX p g c k

set_option maxRecDepth 20000 in
set_option maxHeartbeats 8000000 in
theorem takeOver_ok (base p g : Nat) (c : Option Addr) (d : Nat) (xs : List T4) (base' ps gs : Nat) (cs : Option Addr) (ds : Nat) (fr : List T4) (n m : Nat) (w : World)
    (H : Bk w base p g c d xs) (Hs : Bk w base' ps gs cs ds fr) (hn : fr.length = n) (hv : tfC fr = 0) (hok : ∀ t ∈ fr, okT t) (hm : m < n) (hl : xs.length ≤ 400) (hd : ∀ k, BkX p g c k → ¬ BkX ps gs cs k) (M : Mv) (hM : mvR fr (prL fr m) (fun _ => 0) xs = M) :
    Calls Tryd.prog 25 #[.pointer (some ⟨p, 0, none⟩), .pointer (some ⟨ps, 0, none⟩), .int .i64 m] w (TkOver M m base p g c w) := by
  have q2 := build_irv
  have hn4 : n ≤ 400 := by have := (tfC_zero hv).1; omega
  have CP := Hid.mk (fun w' h => partsOf_ok base' ps gs cs ds fr n m w' h hn hv hok hm)
  have HAh := Hid.mk (tfC_ahead hv)
  have HV := Hid.mk hv
  have HOK := Hid.mk hok
  have HD := Hid.mk hd
  have HLT := Hid.mk H.lt
  have HLS := Hid.mk Hs.lt
  have HML := Hid.mk (show ∀ z ∈ prL fr m, 0 ≤ z ∧ z ≤ m from fun z hz => prL_range hz)
  have hlz := prL_len fr m
  obtain ⟨zs, hzs⟩ : ∃ zs, prL fr m = zs := ⟨_, rfl⟩
  rw [hzs] at hM CP HML hlz
  have hM0 : Hid (mvR fr (zs.drop 0) (fun _ => 0) xs = M ∧ PlOk (fun _ => 0) ∧ xs.length ≤ 400) := Hid.mk ⟨by rw [List.drop_zero]; exact hM, PlOk.zero, hl⟩
  have hm1 : (m : Int) < (n : Int) := by omega
  have HN := Hid.mk hn
  have VS := Hs.v
  rw [hn] at VS
  obtain ⟨i0, hi, hz0, hz1, hz2⟩ := info_parts Tryd.infoI64
  clear hv hok hd hM hzs hl
  go_enter Tryd.func25, Tryd.ntmps25
  have B := Below.refl w.heap.size w
  replace VS := VS.kept (belowA w (.cells #[.int .i64 0, .int .i64 0] 36))
  replace H := H.kept (belowA w (.cells #[.int .i64 0, .int .i64 0] 36))
  replace Hs := Hs.kept (belowA w (.cells #[.int .i64 0, .int .i64 0] 36))
  replace B := thenB B (belowA w (.cells #[.int .i64 0, .int .i64 0] 36))
  have VR := V.new w [.int .i64 0, .int .i64 0] 36
  obtain ⟨s_VS, f_VS, z_VS⟩ := VS.open
  obtain ⟨s_VR, f_VR, z_VR⟩ := VR.open
  have Bo := B
  go_wp2_with (at_make; go_loud (refine wpList_make_full _ rfl _ _ 38 rfl (w.alloc (.cells #[.int .i64 0, .int .i64 0] 36)).heap.size 2 i0 (.int .i64 0) 1 Tryd.underlying38 hi hz0 hz1 .i64 .i64 _ _ n rfl rfl (by omega) (by omega) (by rw [hz2]; omega) (by unfold maxLen; omega) (Nat.le_refl _) ?_))
  intro w2 hown hgrow
  have O0 : Own .i64 2 w2 (w.alloc (.cells #[.int .i64 0, .int .i64 0] 36)).heap.size (some ⟨(w.alloc (.cells #[.int .i64 0, .int .i64 0] 36)).heap.size, 0, none⟩) n (tab n (fun _ => 0)) := by
    refine Own.mk ?_ (tab_len _ _)
    rw [tab_zero]
    simpa [toList_madeCells_one] using hown
  have bg : Below (w.alloc (.cells #[.int .i64 0, .int .i64 0] 36)).heap.size (w.alloc (.cells #[.int .i64 0, .int .i64 0] 36)) w2 := (Sm.grown (X := fun _ => False) hgrow (fun k e => by cases e)).below' (Below.refl _ _) (Nat.le_refl _) (fun k e => e.elim)
  clear s_VS f_VS z_VS s_VR f_VR z_VR
  replace VS := VS.kept bg
  replace VR := VR.kept bg
  replace H := H.kept bg
  replace Hs := Hs.kept bg
  replace B := thenB B bg
  have hQ1 : (w.alloc (.cells #[.int .i64 0, .int .i64 0] 36)).heap.size = w.heap.size + 1 := World.size_alloc _ _
  rw [hQ1] at O0
  have hS2 : w.heap.size + 1 < w2.heap.size := by have := O0.lt _ rfl; simp only at this; omega
  clear hown hgrow bg hi hz0 hz1 hz2
  obtain ⟨s_VS, f_VS, z_VS⟩ := VS.open
  obtain ⟨s_VR, f_VR, z_VR⟩ := VR.open
  have Bo := B
  go_wp2_with fail
  refine (CP.out _ Hs).mono ?_
  rintro e w1 ⟨g4, d4, l, rfl, hk, OP, b1⟩
  clear s_VS f_VS z_VS s_VR f_VR z_VR
  have S1 := b1.size
  replace VS := VS.kept b1
  replace VR := VR.kept b1
  replace H := H.kept b1
  replace Hs := Hs.kept b1
  replace O0 := O0.kept b1
  replace B := thenB B b1
  clear b1
  obtain ⟨s_VS, f_VS, z_VS⟩ := VS.open
  obtain ⟨s_VR, f_VR, z_VR⟩ := VR.open
  have Bo := B
  have hg4 := OP.lt _ rfl
  simp only at hg4
  clear s_VS f_VS z_VS s_VR f_VR z_VR
  have RP := Hid.mk OP.rd
  have HK := Hid.mk hk
  have hl5 : l ≤ 401 := by have := HK.out; omega
  clear hlz
  have hS4 := Hid.mk (show w2.heap.size ≤ w1.heap.size by omega)
  obtain ⟨Z, hZ⟩ : ∃ Z, w1.heap.size = Z := ⟨_, rfl⟩
  have hW := Hid.mk (show Z ≤ w1.heap.size ∧ ∀ k, BkX p g c k → BkX p g c k ∨ Z ≤ k from ⟨by omega, fun k hk => .inl hk⟩)
  have S0 := Hid.mk (Sm.below (X := BkX p g c) B)
  have hZ1 : w.heap.size + 1 < Z ∧ g4 < Z ∧ w.heap.size + 1 < g4 := by omega
  have H0 := Hid.mk H
  have Hs0 := Hid.mk Hs
  have O1 := Hid.mk O0
  have VR0 := Hid.mk VR
  clear H Hs O0 VR VS OP B Bo hS4 hZ hg4
  go_wp2
  go_loopw [21] (fun i wr => ∃ (k : Nat) (c' : Option Addr) (d' : Nat) (pl : Int → Int) (tb : List T4), k ≤ l ∧ i = .int .i64 k ∧ Hid (mvR fr (zs.drop k) pl tb = M ∧ PlOk pl ∧ tb.length ≤ 400) ∧ Bk wr base p g c' d' tb ∧ Bk wr base' ps gs cs ds fr ∧ Own .i64 2 wr (w.heap.size + 1) (some ⟨w.heap.size + 1, 0, none⟩) n (tab n pl) ∧ Rd .i64 wr (some ⟨g4, 0, none⟩) zs ∧ V wr w.heap.size [.int .i64 0, .int .i64 0] ∧ Sm (BkX p g c) w wr ∧ Hid (Z ≤ wr.heap.size ∧ ∀ k, BkX p g c' k → BkX p g c k ∨ Z ≤ k)) (fun i _ => l - (intOf i).toNat)
  case atStart => exact ⟨0, c, d, fun _ => 0, xs, Nat.zero_le _, rfl, hM0, H0.out, Hs0.out, O1.out, RP.out, VR0.out, S0.out, hW⟩
  case round =>
    clear hM0 H0 Hs0 O1 RP VR0 S0 hW
    obtain ⟨k, c1, d1, pl, tb, hk1, rfl, hdr, H, Hs, O, RP, VR, S, hW⟩ := hrel
    have hDJ : Hid (∀ k, BkX p g c1 k → ¬ BkX ps gs cs k ∧ k ≠ w.heap.size ∧ k ≠ w.heap.size + 1 ∧ k ≠ g4) := Hid.mk (fun k hk => by
      have h1 := hW.out.2 k hk
      rcases h1 with h1 | h1
      · have h2 := (HLT.out k h1).2
        exact ⟨HD.out k h1, by omega, by omega, by omega⟩
      · exact ⟨fun e => by have := (HLS.out k e).2; omega, by omega, by omega, by omega⟩)
    by_cases hlt : k < l
    · obtain ⟨z, hz⟩ : ∃ z, zs.getD k 0 = z := ⟨_, rfl⟩
      have hk2 : (k : Int) < (l : Int) := by omega
      have hzm := HML.out z (by rw [← hz]; exact igetD_mem (by rw [HK.out]; exact hlt))
      obtain ⟨u, rfl⟩ : ∃ u : Nat, z = (u : Int) := ⟨z.toNat, by omega⟩
      have hun : u < n := by omega
      have hun1 : (u : Int) < (n : Int) := by omega
      obtain ⟨x, hx1⟩ : ∃ x, fr.getD u zTerm = x := ⟨_, rfl⟩
      have hs := mvR_drop fr zs pl tb k (by rw [HK.out]; exact hlt) hz
      have htm : tmAt fr (u : Int) = x := by unfold tmAt; rw [Int.toNat_natCast]; exact hx1
      rw [htm, hdr.out.1] at hs
      obtain ⟨r, hr⟩ : ∃ r, mvT x pl = r := ⟨_, rfl⟩
      rw [hr] at hs
      have hxo : okT x := HOK.out x (by rw [← hx1]; exact getDTerm_mem (by rw [HN.out]; exact hun))
      have hro : okT r := by rw [← hr]; exact mvT_ok hxo hdr.out.2.1
      have hop := op_right HV.out u (by rw [HN.out]; exact hun) hx1
      obtain ⟨ha1, hb1⟩ := HAh.out u (by rw [HN.out]; exact hun)
      rw [hx1] at ha1 hb1
      have CW := Hid.mk (fun w' h => withPlaces_ok x hop pl n (some ⟨w.heap.size + 1, 0, none⟩) n w' h (fun e => by have := ha1 e; omega) (fun e => by have := hb1 e; omega))
      have CU := Hid.mk (fun w h => put_ok base p g c1 d1 tb r w h hro hdr.out.2.2)
      have HR := Hid.mk hr
      have HPO := Hid.mk hdr.out.2.1
      have hput := put_len (xs := tb) (t := r) hdr.out.2.2
      have hpk := put_k (xs := tb) (t := r) hdr.out.2.2
      have h0 : Hid (tb.length ≤ 400) := Hid.mk hdr.out.2.2
      rcases Hs.o.rd with h9 | ⟨b1, o1, rfl, hca⟩
      · have := HN.out; rw [h9] at this; simp at this; omega
      obtain ⟨p0, p1, p2, p3⟩ := RdTerm.cells hca u (by rw [HN.out]; exact hun) x hx1
      have RPh := Hid.mk RP
      rcases RP with h9 | ⟨b2, o2, e2, hcp⟩
      · have := HK.out; rw [h9] at this; simp at this; omega
      simp only [Option.some.injEq, Addr.mk.injEq, and_true] at e2
      obtain ⟨rfl, rfl⟩ := e2
      have pz := hcp k (by rw [HK.out]; exact hlt)
      rw [hz, Nat.zero_add] at pz
      have VS := Hs.v
      rw [HN.out] at VS
      have RP := RPh.out
      clear RPh hca hcp hz hx1 htm hr hxo hro hop ha1 hb1 hdr hzm
      by_cases hc : (put tb r).c = 0
      · rw [if_pos hc] at hs
        have e1 : putL tb r = (put tb r).l := by unfold putL; rw [if_pos hc]
        rw [e1] at CU
        have HS := Hid.mk hs
        clear hs e1
        generalize put tb r = P at *
        obtain ⟨kc, kk, ls⟩ := P
        simp only at hc hput hpk CU HS
        subst hc
        replace hput := Hid.mk hput
        obtain ⟨s_VR, f_VR, z_VR⟩ := VR.open
        obtain ⟨s_VS, f_VS, z_VS⟩ := VS.open
        go_wp2_with fail
        refine (CW.out _ O.rd).mono ?_
        rintro e w21 ⟨r', hr', rfl, b21⟩
        clear s_VR f_VR z_VR s_VS f_VS z_VS
        have S21 := b21.size
        replace VR := VR.kept b21
        replace VS := VS.kept b21
        replace H := H.kept b21
        replace Hs := Hs.kept b21
        replace O := O.kept b21
        replace RP := RP.kept b21
        replace S := S.trans (Sm.below b21)
        clear b21
        obtain ⟨s_VR, f_VR, z_VR⟩ := VR.open
        obtain ⟨s_VS, f_VS, z_VS⟩ := VS.open
        rw [HR.out] at hr'
        subst hr'
        go_wp2_with fail
        refine (CU.out _ H).mono ?_
        rintro e w6 ⟨c6, d6, rfl, H6, S6, hc6⟩
        clear s_VR f_VR z_VR s_VS f_VS z_VS
        have hsz6 := S6.size
        have hsz5 := S.size
        replace hc6 := Hid.mk hc6
        have hNB : Hid (∀ k, BkX p g c1 k → ¬ BkX ps gs (some ⟨b1, o1, none⟩) k ∧ k ≠ w.heap.size ∧ k ≠ w.heap.size + 1 ∧ k ≠ g4) := hDJ
        replace Hs := Hs.sm S6 (fun k e => (hDJ.out k e).1)
        replace O := O.sm S6 (fun b hb e => by simp only [Option.some.injEq] at hb; subst hb; exact (hDJ.out _ e).2.2.1 rfl)
        replace RP := RP.sm S6 (fun b hb e => by simp only [Option.some.injEq] at hb; subst hb; exact (hDJ.out _ e).2.2.2 rfl)
        replace VR := VR.sm S6 (fun e => (hDJ.out _ e).2.1 rfl)
        replace VS := VS.sm S6 (fun e => (hDJ.out _ e).1 (.inl rfl))
        have hZw : Hid (Z ≤ w6.heap.size) := Hid.mk (by have := hW.out.1; omega)
        have hW6 : Hid (∀ k, BkX p g c6 k → BkX p g c k ∨ Z ≤ k) := Hid.mk (fun k hk => by
          by_cases hkk : k < w21.heap.size
          · exact hW.out.2 k (hc6.out k hk hkk)
          · have := hW.out.1; exact .inr (by omega))
        replace S := Sm.less S.size S6 (fun k hk hx => by rcases hW.out.2 k hx with h | h; exact h; have := hW.out.1; omega) S
        clear S6 H hNB
        have H := H6
        clear H6
        have b7 := belowA w6 (.cells #[.int .i64 0, .int .i64 kk] 36)
        replace VR := VR.kept b7
        replace VS := VS.kept b7
        replace H := H.kept b7
        replace Hs := Hs.kept b7
        replace O := O.kept b7
        replace RP := RP.kept b7
        replace S := S.trans (Sm.below b7)
        clear b7
        have SQ : Sm (fun q => q = w.heap.size + 1) (w6.alloc (.cells #[.int .i64 0, .int .i64 kk] 36)) ((w6.alloc (.cells #[.int .i64 0, .int .i64 kk] 36)).setCell ⟨w.heap.size + 1, u, none⟩ (.int .i64 kk)) := Sm.cell (X := fun q => q = w.heap.size + 1) rfl _
        have hQc := tab_cell O hun
        have hQf := tab_frozen O u
        have H8 := Hid.mk (H.sm SQ (fun k e h2 => by subst e; rcases hW6.out _ h2 with h3 | h3; have := (HLT.out _ h3).2; omega; omega))
        have Hs8 := Hid.mk (Hs.sm SQ (fun k e h2 => by subst e; have := (HLS.out _ h2).2; omega))
        have O8 := Hid.mk (tab_store O u kk)
        have RP8 := Hid.mk (RP.sm SQ (fun b hb e => by simp only [Option.some.injEq] at hb; subst hb; simp only at e; omega))
        have VR8 := Hid.mk (VR.sm SQ (by omega))
        have S8 := Hid.mk (S.newCell (p := ⟨w.heap.size + 1, u, none⟩) (by simp only; omega) (.int .i64 kk))
        have hW8 : Hid (Z ≤ ((w6.alloc (.cells #[.int .i64 0, .int .i64 kk] 36)).setCell ⟨w.heap.size + 1, u, none⟩ (.int .i64 kk)).heap.size ∧ ∀ k, BkX p g c6 k → BkX p g c k ∨ Z ≤ k) := Hid.mk ⟨by have h1 := SQ.size; have h2 : (w6.alloc (.cells #[.int .i64 0, .int .i64 kk] 36)).heap.size = w6.heap.size + 1 := World.size_alloc _ _; have := hZw.out; omega, hW6.out⟩
        have hdr8 : Hid (mvR fr (zs.drop (k + 1)) (updP pl u kk) ls = M ∧ PlOk (updP pl u kk) ∧ ls.length ≤ 400) := Hid.mk ⟨HS.out.symm, HPO.out.upd hpk, hput.out⟩
        clear H Hs O RP VR VS S SQ p0 p1 p2 p3 pz
        go_wp2
        go_roundw
        case rel => exact ⟨k + 1, c6, d6, updP pl u kk, ls, by omega, by go_num, hdr8, H8.out, Hs8.out, O8.out, RP8.out, VR8.out, S8.out, hW8⟩
        case measure => (simp [intOf]; omega)
      · rw [if_neg hc] at hs
        have e1 : putL tb r = tb := by unfold putL; rw [if_neg hc]
        have hcc : ((put tb r).c != 0) = true := by simp [hc]
        obtain ⟨e2, e3⟩ := put_no hc
        rw [e1, e2] at CU
        have HS := Hid.mk hs
        have HC := Hid.mk hc
        clear hs e1 e2 e3 hput hpk hc
        generalize (put tb r).c = kc at *
        obtain ⟨s_VR, f_VR, z_VR⟩ := VR.open
        obtain ⟨s_VS, f_VS, z_VS⟩ := VS.open
        go_wp2_with fail
        refine (CW.out _ O.rd).mono ?_
        rintro e w41 ⟨r', hr', rfl, b41⟩
        clear s_VR f_VR z_VR s_VS f_VS z_VS
        have S41 := b41.size
        replace VR := VR.kept b41
        replace VS := VS.kept b41
        replace H := H.kept b41
        replace Hs := Hs.kept b41
        replace O := O.kept b41
        replace RP := RP.kept b41
        replace S := S.trans (Sm.below b41)
        clear b41
        obtain ⟨s_VR, f_VR, z_VR⟩ := VR.open
        obtain ⟨s_VS, f_VS, z_VS⟩ := VS.open
        rw [HR.out] at hr'
        subst hr'
        go_wp2_with fail
        refine (CU.out _ H).mono ?_
        rintro e w6 ⟨c6, d6, rfl, H6, S6, hc6⟩
        clear s_VR f_VR z_VR s_VS f_VS z_VS
        have hsz6 := S6.size
        have hsz5 := S.size
        replace hc6 := Hid.mk hc6
        have hNB : Hid (∀ k, BkX p g c1 k → ¬ BkX ps gs (some ⟨b1, o1, none⟩) k ∧ k ≠ w.heap.size ∧ k ≠ w.heap.size + 1 ∧ k ≠ g4) := hDJ
        replace Hs := Hs.sm S6 (fun k e => (hDJ.out k e).1)
        replace O := O.sm S6 (fun b hb e => by simp only [Option.some.injEq] at hb; subst hb; exact (hDJ.out _ e).2.2.1 rfl)
        replace RP := RP.sm S6 (fun b hb e => by simp only [Option.some.injEq] at hb; subst hb; exact (hDJ.out _ e).2.2.2 rfl)
        replace VR := VR.sm S6 (fun e => (hDJ.out _ e).2.1 rfl)
        replace VS := VS.sm S6 (fun e => (hDJ.out _ e).1 (.inl rfl))
        have hZw : Hid (Z ≤ w6.heap.size) := Hid.mk (by have := hW.out.1; omega)
        have hW6 : Hid (∀ k, BkX p g c6 k → BkX p g c k ∨ Z ≤ k) := Hid.mk (fun k hk => by
          by_cases hkk : k < w41.heap.size
          · exact hW.out.2 k (hc6.out k hk hkk)
          · have := hW.out.1; exact .inr (by omega))
        replace S := Sm.less S.size S6 (fun k hk hx => by rcases hW.out.2 k hx with h | h; exact h; have := hW.out.1; omega) S
        clear S6 H hNB
        have H := H6
        clear H6
        replace VR := VR.kept (belowA w6 (.cells #[.int .i64 kc, .int .i64 0] 36))
        replace VS := VS.kept (belowA w6 (.cells #[.int .i64 kc, .int .i64 0] 36))
        replace H := H.kept (belowA w6 (.cells #[.int .i64 kc, .int .i64 0] 36))
        replace Hs := Hs.kept (belowA w6 (.cells #[.int .i64 kc, .int .i64 0] 36))
        replace O := O.kept (belowA w6 (.cells #[.int .i64 kc, .int .i64 0] 36))
        replace RP := RP.kept (belowA w6 (.cells #[.int .i64 kc, .int .i64 0] 36))
        replace S := S.trans (Sm.below (belowA w6 (.cells #[.int .i64 kc, .int .i64 0] 36)))
        have VX := V.new w6 [.int .i64 kc, .int .i64 0] 36
        obtain ⟨s_VR, f_VR, z_VR⟩ := VR.open
        obtain ⟨s_VS, f_VS, z_VS⟩ := VS.open
        obtain ⟨s_VX, f_VX, z_VX⟩ := VX.open
        clear s_VR f_VR z_VR s_VS f_VS z_VS s_VX f_VX z_VX
        have VF := Hid.mk (VR.filled [.int .i64 kc, .int .i64 0] rfl)
        have HT := Hid.mk VR.there
        have SR := Hid.mk (Sm.newCells S (show w.heap.size ≤ w.heap.size by (first | omega | (simp; done) | (simp; omega))) 0 [.int .i64 kc, .int .i64 0])
        have HO : Hid (Bk _ base p g c6 d6 M.tb) := Hid.mk (by have h5 := H.apart (B := w.heap.size) (fun k hk e => by subst e; rcases hW6.out _ hk with h3 | h3; have := (HLT.out _ h3).2; omega; omega) 0 [.int .i64 kc, .int .i64 0]; rw [HS.out]; exact h5)
        obtain ⟨s_VR, f_VR, z_VR⟩ := VR.open
        obtain ⟨s_VS, f_VS, z_VS⟩ := VS.open
        obtain ⟨s_VX, f_VX, z_VX⟩ := VX.open
        go_wp2_with (refine wpList_store_mid rfl 36 _ _ rfl (w.heap.size) 0 #[.int .i64 kc, .int .i64 0] rfl rfl HT.out (by kernel_rfl) (by kernel_rfl) ?_)
        refine bodyPost_ret (v := .agg #[.int .i64 kc, .int .i64 0]) (results_row Tryd.results25 _ _ (w.heap.size) [.int .i64 kc, .int .i64 0] _ rfl VF.out Tryd.underlying36 rfl (by kernel_rfl)) rfl ⟨c6, d6, by rw [HS.out, if_neg HC.out], HO.out, SR.out, fun k hk hlt => by rcases hW6.out k hk with h | h; exact h; omega⟩
    · obtain rfl : k = l := by omega
      have hMM := hdr.out.1
      rw [mvR_end fr zs pl tb k (by rw [HK.out]; exact Nat.le_refl _)] at hMM
      have HM := Hid.mk hMM
      have pm := tab_cell O hm
      clear hMM hdr
      obtain ⟨s_VR, f_VR, z_VR⟩ := VR.open
      clear s_VR f_VR z_VR
      have VF := Hid.mk (VR.filled [.int .i64 0, .int .i64 (pl m)] rfl)
      have HT := Hid.mk VR.there
      have SR := Hid.mk (Sm.newCells S (show w.heap.size ≤ w.heap.size by (first | omega | (simp; done) | (simp; omega))) 0 [.int .i64 0, .int .i64 (pl m)])
      have HO : Hid (Bk _ base p g c1 d1 M.tb) := Hid.mk (by have h5 := H.apart (B := w.heap.size) (fun k hk e => (hDJ.out k hk).2.1 e) 0 [.int .i64 0, .int .i64 (pl m)]; rw [← HM.out]; exact h5)
      obtain ⟨s_VR, f_VR, z_VR⟩ := VR.open
      go_wp2_with (refine wpList_store_mid rfl 36 _ _ rfl (w.heap.size) 0 #[.int .i64 0, .int .i64 (pl m)] rfl rfl HT.out (by kernel_rfl) (by kernel_rfl) ?_)
      refine bodyPost_ret (v := .agg #[.int .i64 0, .int .i64 (pl m)]) (results_row Tryd.results25 _ _ (w.heap.size) [.int .i64 0, .int .i64 (pl m)] _ rfl VF.out Tryd.underlying36 rfl (by kernel_rfl)) rfl ⟨c1, d1, by rw [← HM.out]; rfl, HO.out, SR.out, fun k hk hlt => by rcases hW.out.2 k hk with h | h; exact h; omega⟩

end Go.Proofs.YthjaehcfakjemaaDoor

/- numberTerms. -/
namespace Go.Proofs.YthjaehcfakjemaaDoor
open Go.RowKit

theorem mvT_okI {t : T4} (ht : okT t) {pl : Int → Int} (h : ∀ i, okI (pl i)) : okT (mvT t pl) := by
  have z : okI 0 := okI_of (by decide) (by decide)
  unfold mvT
  split
  · exact ht
  · split
    · exact ⟨(okI_of (by decide) (by decide) : okI 6), h _, z, z⟩
    · split
      · exact ⟨(okI_of (by decide) (by decide) : okI 7), okI_min (h _) (h _), okI_max (h _) (h _), z⟩
      · exact ⟨ht.1, h _, h _, z⟩

/-- What a call of 'numberTerms' leaves. -/
def Numbered (fr t0 : List T4) (n g : Nat) (w : World) (e : Ending) (w' : World) : Prop :=
  ∃ c d, e = .returned (.slice c n d) ∧ Own .i64 2 w' w.heap.size c d (tab n (nbS fr t0 n).pl) ∧ TM w' g (tmM (nbS fr t0 n).tb) (nbS fr t0 n).tb.length ∧ Sm (fun q => q = g) w w'

set_option maxRecDepth 20000 in
set_option maxHeartbeats 8000000 in
theorem numberTerms_ok (a : Option Addr) (n ca : Nat) (fr t0 : List T4) (g ct : Nat) (w : World) (ha : RdTerm w a fr) (hn : fr.length = n) (hv : tfC fr = 0) (hok : ∀ t ∈ fr, okT t) (T0 : Nice t0) (hl : t0.length ≤ 400) (hg : TM w g (tmM t0) ct) (hct : ct = t0.length) (hag : Hid (∀ ad : Addr, a = some ad → ad.block ≠ g)) (hlow : Hid (∀ ad : Addr, a = some ad → ad.block < w.heap.size)) :
    Calls Tryd.prog 30 #[.slice a n ca, .map (some g)] w (Numbered fr t0 n g w) := by
  subst hct
  have hn4 : n ≤ 400 := by have := (tfC_zero hv).1; omega
  have HAh := Hid.mk (tfC_ahead hv)
  have HV := Hid.mk hv
  have HOK := Hid.mk hok
  have HN := Hid.mk hn
  have HNB := Hid.mk (fun k (hk : k ≤ n) => nb_ok hv T0 k (by omega))
  obtain ⟨i0, hi, hz0, hz1, hz2⟩ := info_parts Tryd.infoI64
  have hgl := hg.lt
  have S := Sm.refl (fun q => q = g) w
  clear hv hok T0
  go_enter Tryd.func30, Tryd.ntmps30
  go_wp2_with (at_make; go_loud (refine wpList_make_full _ rfl _ _ 38 rfl w.heap.size 2 i0 (.int .i64 0) 1 Tryd.underlying38 hi hz0 hz1 .i64 .i64 _ _ n rfl rfl (by omega) (by omega) (by rw [hz2]; omega) (by unfold maxLen; omega) (Nat.le_refl _) ?_))
  intro w2 hown hgrow
  have O0 : Own .i64 2 w2 w.heap.size (some ⟨w.heap.size, 0, none⟩) n (tab n (nbS fr t0 0).pl) := by
    refine Own.mk ?_ (tab_len _ _)
    rw [show (nbS fr t0 0).pl = (fun _ => 0) from rfl, tab_zero]
    simpa [toList_madeCells_one] using hown
  have bg : Below w.heap.size w w2 := (Sm.grown (X := fun _ => False) hgrow (fun k e => by cases e)).below' (Below.refl _ _) (Nat.le_refl _) (fun k e => e.elim)
  have hS2 : w.heap.size < w2.heap.size := by have := O0.lt _ rfl; simp only at this; omega
  have S0 := Hid.mk (S.trans (Sm.below bg))
  have A0 := Hid.mk (ha.kept bg)
  have M0 := Hid.mk (hg.kept bg)
  replace O0 := Hid.mk O0
  have hQ0 := Hid.mk hS2
  obtain ⟨Q, hQ⟩ : ∃ Q, w.heap.size = Q := ⟨_, rfl⟩
  have hAQ : Hid (∀ ad : Addr, a = some ad → ad.block ≠ Q) := Hid.mk (fun ad had => by have := hlow.out ad had; omega)
  have hQw := Hid.mk hQ
  have hgQ : g < Q := by omega
  rw [hQ] at O0 hQ0 ⊢
  clear hown hgrow bg hS2 S ha hg hQ hgl hi hz0 hz1 hz2
  go_wp2
  go_loopw [16] (fun i wr => ∃ k : Nat, k ≤ n ∧ i = .int .i64 k ∧ Own .i64 2 wr Q (some ⟨Q, 0, none⟩) n (tab n (nbS fr t0 k).pl) ∧ TM wr g (tmM (nbS fr t0 k).tb) (nbS fr t0 k).tb.length ∧ RdTerm wr a fr ∧ Sm (fun q => q = g) w wr ∧ Hid (Q < wr.heap.size)) (fun i _ => n - (intOf i).toNat)
  case atStart => exact ⟨0, Nat.zero_le _, rfl, O0.out, M0.out, A0.out, S0.out, hQ0⟩
  case round =>
    clear O0 M0 A0 S0 hQ0
    obtain ⟨k, hk, rfl, O, hT, ha, S, hQr⟩ := hrel
    by_cases hlt : k < n
    · have hk1 : (k : Int) < (n : Int) := by omega
      obtain ⟨x, hx1⟩ : ∃ x, fr.getD k zTerm = x := ⟨_, rfl⟩
      have I := HNB.out k hk
      have hnx : nbS fr t0 (k + 1) = ⟨updP (nbS fr t0 k).pl k (tmIdx (nbS fr t0 k).tb (mvT x (nbS fr t0 k).pl) : Nat), if mvT x (nbS fr t0 k).pl ∈ (nbS fr t0 k).tb then (nbS fr t0 k).tb else (nbS fr t0 k).tb ++ [mvT x (nbS fr t0 k).pl]⟩ := by rw [nbS, hx1]
      obtain ⟨s, hs⟩ : ∃ s, nbS fr t0 k = s := ⟨_, rfl⟩
      rw [hs] at O hT I hnx
      obtain ⟨pl, tb⟩ := s
      obtain ⟨ys, hy1, hy2⟩ := I.pre
      have hsm := I.small
      simp only at O hT hnx hy1 hsm
      have hpi : ∀ i, okI (pl i) := fun i => okI_of (by have := (hsm i).1; omega) (by have := (hsm i).2; omega)
      have htl : tb.length ≤ 800 := by rw [hy1, List.length_append]; omega
      have hxo : okT x := HOK.out x (by rw [← hx1]; exact getDTerm_mem (by rw [HN.out]; exact hlt))
      have hro : okT (mvT x pl) := mvT_okI hxo hpi
      have hop := op_right HV.out k (by rw [HN.out]; exact hlt) hx1
      obtain ⟨ha1, hb1⟩ := HAh.out k (by rw [HN.out]; exact hlt)
      rw [hx1] at ha1 hb1
      have CW := Hid.mk (fun w h => withPlaces_ok x hop pl n (some ⟨Q, 0, none⟩) n w h (fun e => by have := ha1 e; omega) (fun e => by have := hb1 e; omega))
      obtain ⟨r0, hr⟩ : ∃ r, mvT x pl = r := ⟨_, rfl⟩
      rw [hr] at hnx hro
      have HR := Hid.mk hr
      have HA := Hid.mk ha
      have HO := Hid.mk O
      have HT := Hid.mk hT
      have HS := Hid.mk S
      rcases ha with h9 | ⟨b1, o1, rfl, hca⟩
      · have := HN.out; rw [h9] at this; simp at this; omega
      obtain ⟨p0, p1, p2, p3⟩ := RdTerm.cells hca k (by rw [HN.out]; exact hlt) x hx1
      have hQw2 := hQr.out
      have hbg := hag.out _ rfl
      simp only at hbg
      have hb1Q : b1 ≠ Q := hAQ.out _ rfl
      clear hca hx1 hop ha1 hb1 hr hpi hsm hy1 hxo I hT S hs
      have B := Below.refl wr.heap.size wr
      replace B := thenB B (belowA wr (.cells #[.int .i64 x.o, .int .i64 x.a, .int .i64 x.b, .int .i64 x.n] 70))
      have VX := V.new wr [.int .i64 x.o, .int .i64 x.a, .int .i64 x.b, .int .i64 x.n] 70
      obtain ⟨s_VX, f_VX, z_VX⟩ := VX.open
      have Bo := B
      go_wp2_with fail
      refine (CW.out _ (HO.out.rd.kept B)).mono ?_
      rintro e w1 ⟨r, hr', rfl, b1⟩
      clear s_VX f_VX z_VX
      have S1 := b1.size
      simp only [World.size_alloc] at S1
      replace VX := VX.kept b1
      replace B := thenB B b1
      clear b1
      obtain ⟨s_VX, f_VX, z_VX⟩ := VX.open
      have Bo := B
      rw [HR.out] at hr'
      subst hr'
      replace VX := VX.kept (belowA w1 (.cells #[.int .i64 r.o, .int .i64 r.a, .int .i64 r.b, .int .i64 r.n] 70))
      replace B := thenB B (belowA w1 (.cells #[.int .i64 r.o, .int .i64 r.a, .int .i64 r.b, .int .i64 r.n] 70))
      have VM := V.new w1 [.int .i64 r.o, .int .i64 r.a, .int .i64 r.b, .int .i64 r.n] 70
      clear s_VX f_VX z_VX
      obtain ⟨s_VX, f_VX, z_VX⟩ := VX.open
      obtain ⟨s_VM, f_VM, z_VM⟩ := VM.open
      have Bo := B
      have hTc := HT.out.kept B
      have QL := hTc.look hro 0
      by_cases hm : r ∈ tb
      · rw [if_pos hm] at hnx
        have hM : tmM tb r = some ((tmIdx tb r : Nat) : Int) := by unfold tmM; rw [if_pos hm]
        rw [hM] at QL
        simp only [Option.isSome_some, Option.getD_some] at QL
        obtain ⟨v, hvv⟩ : ∃ v, tmIdx tb r = v := ⟨_, rfl⟩
        rw [hvv] at QL hnx
        have hvl : v < tb.length := by rw [← hvv]; exact tmIdx_lt hm
        replace QL : (Instr.lookup 56 (.map (some g)) (.agg #[.int .i64 r.o, .int .i64 r.a, .int .i64 r.b, .int .i64 r.n]) true).run Tryd.prog (w1.alloc (.cells #[.int .i64 r.o, .int .i64 r.a, .int .i64 r.b, .int .i64 r.n] 70)) = .ok (.tuple #[.int .i64 v, .bool true]) (w1.alloc (.cells #[.int .i64 r.o, .int .i64 r.a, .int .i64 r.b, .int .i64 r.n] 70)) := QL
        have HNX := Hid.mk hnx
        clear hnx hm hM hvv
        have hsz9 := B.size
        have hT9 := hTc
        have hO9 := HO.out.kept B
        have hA9 := HA.out.kept B
        have hS9 := HS.out.trans (Sm.below B)
        have SQ : Sm (fun q => q = Q) (w1.alloc (.cells #[.int .i64 r.o, .int .i64 r.a, .int .i64 r.b, .int .i64 r.n] 70)) ((w1.alloc (.cells #[.int .i64 r.o, .int .i64 r.a, .int .i64 r.b, .int .i64 r.n] 70)).setCell ⟨Q, k, none⟩ (.int .i64 v)) := Sm.cell (X := fun q => q = Q) rfl _
        have hOc := Hid.mk hO9
        have hQc := tab_cell hO9 hlt
        have hQf := tab_frozen hO9 k
        have O8 := Hid.mk (tab_store hO9 k v)
        have T8 := Hid.mk (hT9.sm SQ (by omega))
        have A8 := Hid.mk (hA9.sm SQ (fun b hb e => by simp only [Option.some.injEq] at hb; subst hb; simp only at e; omega))
        have S8 := Hid.mk (hS9.newCell (p := ⟨Q, k, none⟩) (by have := hQw.out; simp only; omega) (.int .i64 v))
        have Q8 : Hid (Q < ((w1.alloc (.cells #[.int .i64 r.o, .int .i64 r.a, .int .i64 r.b, .int .i64 r.n] 70)).setCell ⟨Q, k, none⟩ (.int .i64 v)).heap.size) := Hid.mk (by have h1 := SQ.size; omega)
        clear SQ hOc hO9 hT9 hA9 hS9 B
        clear hTc
        go_wp2
        go_roundw
        case rel => exact ⟨k + 1, by omega, by go_num, by rw [HNX.out]; exact O8.out, by rw [HNX.out]; exact T8.out, A8.out, S8.out, Q8⟩
        case measure => (simp [intOf]; omega)
      · rw [if_neg hm, tmIdx_out hm] at hnx
        have hM : tmM tb r = none := by unfold tmM; rw [if_neg hm]
        rw [hM] at QL
        simp only [Option.isSome_none, Option.getD_none] at QL
        replace QL : (Instr.lookup 56 (.map (some g)) (.agg #[.int .i64 r.o, .int .i64 r.a, .int .i64 r.b, .int .i64 r.n]) true).run Tryd.prog (w1.alloc (.cells #[.int .i64 r.o, .int .i64 r.a, .int .i64 r.b, .int .i64 r.n] 70)) = .ok (.tuple #[.int .i64 0, .bool false]) (w1.alloc (.cells #[.int .i64 r.o, .int .i64 r.a, .int .i64 r.b, .int .i64 r.n] 70)) := QL
        have QN : ∀ ty : TypeId, (Builtin.len_ #[56] ty #[.map (some g)]).run Tryd.prog (w1.alloc (.cells #[.int .i64 r.o, .int .i64 r.a, .int .i64 r.b, .int .i64 r.n] 70)) = .ok (.int .i64 tb.length) (w1.alloc (.cells #[.int .i64 r.o, .int .i64 r.a, .int .i64 r.b, .int .i64 r.n] 70)) := fun ty => hTc.len ty 0
        have hsn := tmM_snoc hm
        have HNX := Hid.mk hnx
        have HM := Hid.mk hM
        have hsz9 := B.size
        have hO9 := Hid.mk (HO.out.kept B)
        have hA9 := Hid.mk (HA.out.kept B)
        have hS9 := Hid.mk (HS.out.trans (Sm.below B))
        clear hnx hm hM
        obtain ⟨v, hvv⟩ : ∃ v, tb.length = v := ⟨_, rfl⟩
        rw [hvv] at QN HNX hsn hTc htl
        go_wp2_with (refine wpList_TMstore _ rfl _ _ _ rfl g (tmM tb) v hTc r hro v (okI_of (by omega) (by omega)) HM.out (by omega) rfl rfl rfl ?_)
        intro w7 hT7 hturn
        try rw [hsn] at hT7
        have S7 := Sm.turn (X := fun q => q = g) hturn rfl
        have hO9 := hO9.out.sm S7 (fun b hb e => by simp only [Option.some.injEq] at hb; subst hb; simp only at e; omega)
        have hA9 := hA9.out.sm S7 (fun b hb e => by simp only [Option.some.injEq] at hb; subst hb; exact hbg e)
        have hS9 := hS9.out.trans S7
        have hsz7 := S7.size
        have hT9 := hT7
        clear S7 hturn hT7 hTc
        clear QL QN
        have SQ : Sm (fun q => q = Q) w7 (w7.setCell ⟨Q, k, none⟩ (.int .i64 v)) := Sm.cell (X := fun q => q = Q) rfl _
        have hOc := Hid.mk hO9
        have hQc := tab_cell hO9 hlt
        have hQf := tab_frozen hO9 k
        have O8 := Hid.mk (tab_store hO9 k v)
        have T8 := Hid.mk (hT9.sm SQ (by omega))
        have A8 := Hid.mk (hA9.sm SQ (fun b hb e => by simp only [Option.some.injEq] at hb; subst hb; simp only at e; omega))
        have S8 := Hid.mk (hS9.newCell (p := ⟨Q, k, none⟩) (by have := hQw.out; simp only; omega) (.int .i64 v))
        have Q8 : Hid (Q < (w7.setCell ⟨Q, k, none⟩ (.int .i64 v)).heap.size) := Hid.mk (by have h1 := SQ.size; omega)
        clear SQ hOc hO9 hT9 hA9 hS9 B
        go_wp2
        go_roundw
        case rel => exact ⟨k + 1, by omega, by go_num, by rw [HNX.out]; exact O8.out, by rw [HNX.out, List.length_append, hvv]; exact T8.out, A8.out, S8.out, Q8⟩
        case measure => (simp [intOf]; omega)
    · obtain rfl : k = n := by omega
      have HO := Hid.mk O
      have HT := Hid.mk hT
      have HS := Hid.mk S
      clear O hT S ha
      go_wp2
      go_ret
      exact ⟨_, _, rfl, (hQw.out.symm ▸ HO.out), HT.out, HS.out⟩

end Go.Proofs.YthjaehcfakjemaaDoor

/- SameTerms: the program. -/
namespace Go.Proofs.YthjaehcfakjemaaDoor
open Go.RowKit

/-- Whether two terms are made in the same way. -/
@[irreducible] def smT (fa : List T4) (x : Int) (fb : List T4) (y : Int) : Bool := if akC fa x = 0 then (if akC fb y = 0 then decide (den fa x.toNat = den fb y.toNat) else false) else false

theorem smT_ways (fa : List T4) (x : Int) (fb : List T4) (y : Int) : (akC fa x ≠ 0 ∧ smT fa x fb y = false) ∨ (akC fa x = 0 ∧ akC fb y ≠ 0 ∧ smT fa x fb y = false) ∨ (akC fa x = 0 ∧ akC fb y = 0 ∧ smT fa x fb y = decide (den fa x.toNat = den fb y.toNat)) := by
  unfold smT
  by_cases h1 : akC fa x = 0
  · by_cases h2 : akC fb y = 0
    · exact .inr (.inr ⟨h1, h2, by rw [if_pos h1, if_pos h2]⟩)
    · exact .inr (.inl ⟨h1, h2, by rw [if_pos h1, if_neg h2]⟩)
  · exact .inl ⟨h1, by rw [if_neg h1]⟩

theorem makeMap_none (w : World) : (Instr.makeMap 56 none).run Tryd.prog w = .ok (.map (some w.heap.size)) (w.alloc (.map #[] 0)) := rfl

theorem RdTerm.low {w : World} {a : Option Addr} {xs : List T4} (h : RdTerm w a xs) (h0 : 0 < xs.length) : ∀ ad : Addr, a = some ad → ad.block < w.heap.size := by
  intro ad had
  rcases h with h | ⟨b, o, rfl, hca⟩
  · rw [h] at h0; simp at h0
  · simp only [Option.some.injEq] at had
    subst had
    exact World.block_lt_of_cell? _ _ (RdTerm.cells hca 0 h0 _ rfl).1

set_option maxRecDepth 20000 in
set_option maxHeartbeats 4000000 in
theorem implSameTerms_ok (a : Option Addr) (n ca : Nat) (fa : List T4) (x : Int) (b : Option Addr) (nb cb : Nat) (fb : List T4) (y : Int) (w : World) (ha : RdTerm w a fa) (hn : fa.length = n) (hx : n ≤ maxLen) (hok : ∀ t ∈ fa, okT t) (hb : RdTerm w b fb) (hnb : fb.length = nb) (hxb : nb ≤ maxLen) (hokb : ∀ t ∈ fb, okT t) :
    Calls Tryd.prog 10 #[.slice a n ca, .int .i64 x, .slice b nb cb, .int .i64 y] w fun e w' => e = .returned (.bool (smT fa x fb y)) ∧ Below w.heap.size w w' := by
  have CA := Hid.mk (fun w h => placeFault_ok a n ca fa x w h hn hx hok)
  have CB := Hid.mk (fun w h => placeFault_ok b nb cb fb y w h hnb hxb hokb)
  rcases smT_ways fa x fb y with ⟨h1, hr⟩ | ⟨h1, h2, hr⟩ | ⟨h1, h2, hr⟩
  · rw [hr]
    have h3 : (akC fa x != 0) = true := by simp [h1]
    clear hr h1
    generalize akC fa x = kk at *
    go_enter Tryd.func10, Tryd.ntmps10
    have B := Below.refl w.heap.size w
    have Bo := B
    go_wp2_with fail
    refine (CA.out _ ha).mono ?_
    rintro e w1 ⟨rfl, b1⟩
    have S1 := b1.size
    replace ha := ha.kept b1
    replace hb := hb.kept b1
    replace B := thenB B b1
    clear b1
    have Bo := B
    go_wp2
    go_ret
    exact ⟨rfl, Bo⟩
  · rw [hr]
    have h3 : (akC fb y != 0) = true := by simp [h2]
    rw [h1] at CA
    clear hr h1 h2
    generalize akC fb y = kk at *
    go_enter Tryd.func10, Tryd.ntmps10
    have B := Below.refl w.heap.size w
    have Bo := B
    go_wp2_with fail
    refine (CA.out _ ha).mono ?_
    rintro e w11 ⟨rfl, b11⟩
    have S11 := b11.size
    replace ha := ha.kept b11
    replace hb := hb.kept b11
    replace B := thenB B b11
    clear b11
    have Bo := B
    go_wp2_with fail
    refine (CB.out _ hb).mono ?_
    rintro e w12 ⟨rfl, b12⟩
    have S12 := b12.size
    replace ha := ha.kept b12
    replace hb := hb.kept b12
    replace B := thenB B b12
    clear b12
    have Bo := B
    go_wp2
    go_ret
    exact ⟨rfl, Bo⟩
  · rw [hr]
    rw [h1] at CA
    rw [h2] at CB
    obtain ⟨hv, hq0, hq1⟩ := ak_zero h1
    obtain ⟨hv2, hq2, hq3⟩ := ak_zero h2
    obtain ⟨m, rfl⟩ : ∃ m : Nat, x = (m : Int) := ⟨x.toNat, by omega⟩
    obtain ⟨k, rfl⟩ : ∃ m : Nat, y = (m : Int) := ⟨y.toNat, by omega⟩
    rw [Int.toNat_natCast, Int.toNat_natCast]
    have hmn : m < n := by omega
    have hkn : k < nb := by omega
    have hm1 : (m : Int) < (n : Int) := by omega
    have hk1 : (k : Int) < (nb : Int) := by omega
    have I1 := nb_ok hv Nice.nil n (by omega)
    have hsame := nb_same hv (show m < fa.length by omega) hv2 (show k < fb.length by omega)
    rw [hn, hnb] at hsame
    have hn4 : n ≤ 400 := by have := (tfC_zero hv).1; omega
    have N1 := Hid.mk (fun g w h hg hag hlow => numberTerms_ok a n ca fa [] g 0 w h hn hv hok Nice.nil (Nat.zero_le _) hg rfl hag hlow)
    have hl1 : (nbS fa [] n).tb.length ≤ 400 := by obtain ⟨ys, e1, e2⟩ := I1.pre; rw [e1]; simp; omega
    have N2 := Hid.mk (fun g w h hg hag hlow => numberTerms_ok b nb cb fb (nbS fa [] n).tb g (nbS fa [] n).tb.length w h hnb hv2 hokb I1.nice hl1 hg rfl hag hlow)
    have HLA := Hid.mk (ha.low (by omega))
    have HLB := Hid.mk (hb.low (by omega))
    obtain ⟨v1, hv1⟩ : ∃ v, (nbS fa [] n).pl m = v := ⟨_, rfl⟩
    obtain ⟨v2, hv2'⟩ : ∃ v, (nbS fb (nbS fa [] n).tb nb).pl k = v := ⟨_, rfl⟩
    rw [hv1, hv2'] at hsame
    have hvv : (v1 == v2) = decide (den fa m = den fb k) := by
      by_cases e : v1 = v2
      · rw [decide_eq_true (hsame.1 e)]; simpa using e
      · rw [decide_eq_false (fun e2 => e (hsame.2 e2))]; simpa using e
    unfold Numbered at N1 N2
    generalize decide (den fa m = den fb k) = rr at *
    replace hv1 := Hid.mk hv1
    replace hv2' := Hid.mk hv2'
    clear hr h1 h2 hq0 hq1 hq2 hq3 I1 hsame hl1 hv hv2
    go_enter Tryd.func10, Tryd.ntmps10
    have B := Below.refl w.heap.size w
    have Bo := B
    go_wp2_with fail
    refine (CA.out _ ha).mono ?_
    rintro e w21 ⟨rfl, b21⟩
    have S21 := b21.size
    replace ha := ha.kept b21
    replace hb := hb.kept b21
    replace B := thenB B b21
    clear b21
    have Bo := B
    go_wp2_with fail
    refine (CB.out _ hb).mono ?_
    rintro e w22 ⟨rfl, b22⟩
    have S22 := b22.size
    replace ha := ha.kept b22
    replace hb := hb.kept b22
    replace B := thenB B b22
    clear b22
    have Bo := B
    have hsw := B.size
    have bm := belowA w22 (.map #[] 0)
    replace ha := ha.kept bm
    replace hb := hb.kept bm
    replace B := thenB B bm
    have TM0 : TM (w22.alloc (.map #[] 0)) w22.heap.size (tmM []) 0 := by rw [tmM_nil]; exact TM.new _
    clear bm Bo
    have qmk := makeMap_none
    go_upto_region 4 with fail
    refine wp_region_any (by kernel_rfl) ?_
    change wpAny _ _ _ _ _ _ _ (w22.alloc (.map #[] 0)).drew
    have bd : Below (w22.alloc (.map #[] 0)).heap.size (w22.alloc (.map #[] 0)) (w22.alloc (.map #[] 0)).drew := (Below.refl _ _).drew
    replace ha := ha.kept bd
    replace hb := hb.kept bd
    replace TM0 := TM0.kept bd
    replace B := thenB B bd
    clear bd
    generalize (w22.alloc (.map #[] 0)).drew = wd at *
    obtain ⟨g, hg⟩ : ∃ g, w22.heap.size = g := ⟨_, rfl⟩
    rw [hg] at TM0 hsw ⊢
    have hgl := TM0.lt
    have hgw := Hid.mk hsw
    have HGA : Hid (∀ ad : Addr, a = some ad → ad.block ≠ g) := Hid.mk (fun ad had => by have := HLA.out ad had; omega)
    have HGB : Hid (∀ ad : Addr, b = some ad → ad.block ≠ g) := Hid.mk (fun ad had => by have := HLB.out ad had; omega)
    refine wpAny_take (i := 0) (oi := _) (v := ?vtt1) rfl (by kernel_rfl) (by kernel_rfl) (by kernel_rfl) (fun _ _ _ h => h) (Or.inl ⟨by rfl, ?hytt1⟩) ?resttt1
    case hytt1 => (intro w; go_simp; first | done | with_reducible rfl)
    try simp only [Act.put, List.getElem_toArray, List.getElem_cons_zero, List.setIfInBounds_toArray, List.set_cons_zero, List.set_cons_succ]
    refine wpAny_take (i := 1) (oi := _) (v := ?vtt2) rfl (by kernel_rfl) (by kernel_rfl) (by kernel_rfl) (fun _ _ _ h => h) (Or.inl ⟨by rfl, ?hytt2⟩) ?resttt2
    case hytt2 => (intro w; go_simp; first | done | with_reducible rfl)
    try simp only [Act.put, List.getElem_toArray, List.getElem_cons_zero, List.getElem_cons_succ, List.setIfInBounds_toArray, List.set_cons_zero, List.set_cons_succ]
    refine wpAny_take (i := 3) (oi := _) (v := ?vtt3) rfl (by kernel_rfl) (by kernel_rfl) (by kernel_rfl) (fun _ _ _ h => h) (Or.inl ⟨by rfl, ?hytt3⟩) ?resttt3
    case hytt3 => (intro w; go_simp; first | done | with_reducible rfl)
    try simp only [Act.put, List.getElem_toArray, List.getElem_cons_zero, List.getElem_cons_succ, List.setIfInBounds_toArray, List.set_cons_zero, List.set_cons_succ]
    refine wpAny_take (i := 6) (oi := _) (v := ?vtt4) rfl (by kernel_rfl) (by kernel_rfl) (by kernel_rfl) (fun _ _ _ h => h) (Or.inl ⟨by rfl, ?hytt4⟩) ?resttt4
    case hytt4 => (intro w; go_simp; first | done | with_reducible rfl)
    try simp only [Act.put, List.getElem_toArray, List.getElem_cons_zero, List.getElem_cons_succ, List.setIfInBounds_toArray, List.set_cons_zero, List.set_cons_succ]
    refine wpAny_take (i := 7) (oi := _) (v := ?vtt5) rfl (by kernel_rfl) (by kernel_rfl) (by kernel_rfl) (fun _ _ _ h => h) (Or.inl ⟨by rfl, ?hytt5⟩) ?resttt5
    case hytt5 => (intro w; go_simp; first | done | with_reducible rfl)
    try simp only [Act.put, List.getElem_toArray, List.getElem_cons_zero, List.getElem_cons_succ, List.setIfInBounds_toArray, List.set_cons_zero, List.set_cons_succ]
    refine wpAny_take (i := 9) (oi := _) (v := ?vtt6) rfl (by kernel_rfl) (by kernel_rfl) (by kernel_rfl) (fun _ _ _ h => h) (Or.inl ⟨by rfl, ?hytt6⟩) ?resttt6
    case hytt6 => (intro w; go_simp; first | done | with_reducible rfl)
    try simp only [Act.put, List.getElem_toArray, List.getElem_cons_zero, List.getElem_cons_succ, List.setIfInBounds_toArray, List.set_cons_zero, List.set_cons_succ]
    refine wpAny_ready (rs := [2]) (by kernel_rfl) (by simp) ?_
    refine AllReady.cons (o := _) rfl (fun K0 hK0 => ?_) AllReady.nil
    go_simp
    go_at_call 30
    refine (N1.out g _ ha TM0 HGA (Hid.mk (fun ad had => by have := HLA.out ad had; have := B.size; omega))).mono ?_
    rintro e w3 ⟨c3, d3, rfl, O3, T3, S3⟩
    refine hK0 _ _ ?_
    clear hK0 K0
    try simp only [Act.put, List.getElem_toArray, List.getElem_cons_zero, List.getElem_cons_succ, List.setIfInBounds_toArray, List.set_cons_zero, List.set_cons_succ]
    have hO3 := O3.lt
    replace hb := hb.sm S3 (fun ad had e => HGB.out ad had e)
    replace B := S3.below' B (by omega) (fun k e => by have := hgw.out; omega)
    have hsz3 := S3.size
    clear S3 TM0 ha
    rcases O3.rd with h9 | ⟨b3, o3, rfl, hc3⟩
    · have := tab_len n (nbS fa [] n).pl; rw [h9] at this; simp at this; omega
    have q1 := hc3 m (by rw [tab_len]; exact hmn)
    rw [tab_at _ hmn, hv1.out] at q1
    have hb3 := hO3 _ rfl
    simp only at hb3
    clear hc3 O3 hO3
    refine wpAny_take (i := 4) (oi := _) (v := ?vtt7) rfl (by kernel_rfl) (by kernel_rfl) (by kernel_rfl) (fun _ _ _ h => h) (Or.inl ⟨by rfl, ?hytt7⟩) ?resttt7
    case hytt7 => (intro w; go_simp; first | done | with_reducible rfl)
    try simp only [Act.put, List.getElem_toArray, List.getElem_cons_zero, List.getElem_cons_succ, List.setIfInBounds_toArray, List.set_cons_zero, List.set_cons_succ]
    refine wpAny_ready (rs := [5, 8]) (by kernel_rfl) (by simp) ?_
    refine AllReady.cons (o := _) rfl (fun K0 hK0 => ?_) (AllReady.cons (o := _) rfl (fun K0 hK0 => ?_) AllReady.nil)
    · skip
      go_simp
      refine hK0 _ _ ?_
      clear hK0 K0
      try simp only [Act.put, List.getElem_toArray, List.getElem_cons_zero, List.getElem_cons_succ, List.setIfInBounds_toArray, List.set_cons_zero, List.set_cons_succ]
      refine wpAny_ready (rs := [8]) (by kernel_rfl) (by simp) ?_
      refine AllReady.cons (o := _) rfl (fun K0 hK0 => ?_) AllReady.nil
      go_simp
      go_at_call 30
      refine (N2.out g _ hb T3 HGB (Hid.mk (fun ad had => by have := HLB.out ad had; have := B.size; omega))).mono ?_
      rintro e w4 ⟨c4, d4, rfl, O4, T4', S4⟩
      refine hK0 _ _ ?_
      clear hK0 K0
      try simp only [Act.put, List.getElem_toArray, List.getElem_cons_zero, List.getElem_cons_succ, List.setIfInBounds_toArray, List.set_cons_zero, List.set_cons_succ]
      have q1 := (World.cell?_of_block (a := ⟨b3, o3 + m, none⟩) (S4.block b3 (by omega) (by omega))).trans q1
      replace B := S4.below' B (by omega) (fun k e => by have := hgw.out; omega)
      clear S4 T4' T3 hb
      rcases O4.rd with h9 | ⟨b4, o4, rfl, hc4⟩
      · have := tab_len nb (nbS fb (nbS fa [] n).tb nb).pl; rw [h9] at this; simp at this; omega
      have q2 := hc4 k (by rw [tab_len]; exact hkn)
      rw [tab_at _ hkn, hv2'.out] at q2
      clear hc4 O4
      refine wpAny_take (i := 10) (oi := _) (v := ?vtt8) rfl (by kernel_rfl) (by kernel_rfl) (by kernel_rfl) (fun _ _ _ h => h) (Or.inl ⟨by rfl, ?hytt8⟩) ?resttt8
      case hytt8 => (intro w; go_simp; first | done | with_reducible rfl)
      try simp only [Act.put, List.getElem_toArray, List.getElem_cons_zero, List.getElem_cons_succ, List.setIfInBounds_toArray, List.set_cons_zero, List.set_cons_succ]
      refine wpAny_ready (rs := [11]) (by kernel_rfl) (by simp) ?_
      refine AllReady.cons (o := _) rfl (fun K0 hK0 => ?_) AllReady.nil
      go_simp
      refine hK0 _ _ ?_
      clear hK0 K0
      try simp only [Act.put, List.getElem_toArray, List.getElem_cons_zero, List.getElem_cons_succ, List.setIfInBounds_toArray, List.set_cons_zero, List.set_cons_succ]
      refine wpAny_take (i := 12) (oi := _) (v := ?vtt9) rfl (by kernel_rfl) (by kernel_rfl) (by kernel_rfl) (fun _ _ _ h => h) (Or.inl ⟨by rfl, ?hytt9⟩) ?resttt9
      case hytt9 => (intro w; go_simp; first | done | with_reducible rfl)
      try simp only [Act.put, List.getElem_toArray, List.getElem_cons_zero, List.getElem_cons_succ, List.setIfInBounds_toArray, List.set_cons_zero, List.set_cons_succ]
      refine wpAny_take (i := 13) (oi := _) (v := ?vtt10) rfl (by kernel_rfl) (by kernel_rfl) (by kernel_rfl) (fun _ _ _ h => h) (Or.inl ⟨by rfl, ?hytt10⟩) ?resttt10
      case hytt10 => (intro w; go_simp; first | done | with_reducible rfl)
      try simp only [Act.put, List.getElem_toArray, List.getElem_cons_zero, List.getElem_cons_succ, List.setIfInBounds_toArray, List.set_cons_zero, List.set_cons_succ]
      refine wpAny_done (by kernel_rfl) ?_ _
      go_wp2
      go_ret
      exact ⟨rfl, B⟩
    · skip
      go_simp
      go_at_call 30
      refine (N2.out g _ hb T3 HGB (Hid.mk (fun ad had => by have := HLB.out ad had; have := B.size; omega))).mono ?_
      rintro e w4 ⟨c4, d4, rfl, O4, T4', S4⟩
      refine hK0 _ _ ?_
      clear hK0 K0
      try simp only [Act.put, List.getElem_toArray, List.getElem_cons_zero, List.getElem_cons_succ, List.setIfInBounds_toArray, List.set_cons_zero, List.set_cons_succ]
      have q1 := (World.cell?_of_block (a := ⟨b3, o3 + m, none⟩) (S4.block b3 (by omega) (by omega))).trans q1
      replace B := S4.below' B (by omega) (fun k e => by have := hgw.out; omega)
      clear S4 T4' T3 hb
      rcases O4.rd with h9 | ⟨b4, o4, rfl, hc4⟩
      · have := tab_len nb (nbS fb (nbS fa [] n).tb nb).pl; rw [h9] at this; simp at this; omega
      have q2 := hc4 k (by rw [tab_len]; exact hkn)
      rw [tab_at _ hkn, hv2'.out] at q2
      clear hc4 O4
      refine wpAny_take (i := 10) (oi := _) (v := ?vtt11) rfl (by kernel_rfl) (by kernel_rfl) (by kernel_rfl) (fun _ _ _ h => h) (Or.inl ⟨by rfl, ?hytt11⟩) ?resttt11
      case hytt11 => (intro w; go_simp; first | done | with_reducible rfl)
      try simp only [Act.put, List.getElem_toArray, List.getElem_cons_zero, List.getElem_cons_succ, List.setIfInBounds_toArray, List.set_cons_zero, List.set_cons_succ]
      refine wpAny_ready (rs := [5, 11]) (by kernel_rfl) (by simp) ?_
      refine AllReady.cons (o := _) rfl (fun K0 hK0 => ?_) (AllReady.cons (o := _) rfl (fun K0 hK0 => ?_) AllReady.nil)
      · skip
        go_simp
        refine hK0 _ _ ?_
        clear hK0 K0
        try simp only [Act.put, List.getElem_toArray, List.getElem_cons_zero, List.getElem_cons_succ, List.setIfInBounds_toArray, List.set_cons_zero, List.set_cons_succ]
        refine wpAny_ready (rs := [11]) (by kernel_rfl) (by simp) ?_
        refine AllReady.cons (o := _) rfl (fun K0 hK0 => ?_) AllReady.nil
        go_simp
        refine hK0 _ _ ?_
        clear hK0 K0
        try simp only [Act.put, List.getElem_toArray, List.getElem_cons_zero, List.getElem_cons_succ, List.setIfInBounds_toArray, List.set_cons_zero, List.set_cons_succ]
        refine wpAny_take (i := 12) (oi := _) (v := ?vtt12) rfl (by kernel_rfl) (by kernel_rfl) (by kernel_rfl) (fun _ _ _ h => h) (Or.inl ⟨by rfl, ?hytt12⟩) ?resttt12
        case hytt12 => (intro w; go_simp; first | done | with_reducible rfl)
        try simp only [Act.put, List.getElem_toArray, List.getElem_cons_zero, List.getElem_cons_succ, List.setIfInBounds_toArray, List.set_cons_zero, List.set_cons_succ]
        refine wpAny_take (i := 13) (oi := _) (v := ?vtt13) rfl (by kernel_rfl) (by kernel_rfl) (by kernel_rfl) (fun _ _ _ h => h) (Or.inl ⟨by rfl, ?hytt13⟩) ?resttt13
        case hytt13 => (intro w; go_simp; first | done | with_reducible rfl)
        try simp only [Act.put, List.getElem_toArray, List.getElem_cons_zero, List.getElem_cons_succ, List.setIfInBounds_toArray, List.set_cons_zero, List.set_cons_succ]
        refine wpAny_done (by kernel_rfl) ?_ _
        go_wp2
        go_ret
        exact ⟨rfl, B⟩
      · skip
        go_simp
        refine hK0 _ _ ?_
        clear hK0 K0
        try simp only [Act.put, List.getElem_toArray, List.getElem_cons_zero, List.getElem_cons_succ, List.setIfInBounds_toArray, List.set_cons_zero, List.set_cons_succ]
        refine wpAny_ready (rs := [5]) (by kernel_rfl) (by simp) ?_
        refine AllReady.cons (o := _) rfl (fun K0 hK0 => ?_) AllReady.nil
        go_simp
        refine hK0 _ _ ?_
        clear hK0 K0
        try simp only [Act.put, List.getElem_toArray, List.getElem_cons_zero, List.getElem_cons_succ, List.setIfInBounds_toArray, List.set_cons_zero, List.set_cons_succ]
        refine wpAny_take (i := 12) (oi := _) (v := ?vtt14) rfl (by kernel_rfl) (by kernel_rfl) (by kernel_rfl) (fun _ _ _ h => h) (Or.inl ⟨by rfl, ?hytt14⟩) ?resttt14
        case hytt14 => (intro w; go_simp; first | done | with_reducible rfl)
        try simp only [Act.put, List.getElem_toArray, List.getElem_cons_zero, List.getElem_cons_succ, List.setIfInBounds_toArray, List.set_cons_zero, List.set_cons_succ]
        refine wpAny_take (i := 13) (oi := _) (v := ?vtt15) rfl (by kernel_rfl) (by kernel_rfl) (by kernel_rfl) (fun _ _ _ h => h) (Or.inl ⟨by rfl, ?hytt15⟩) ?resttt15
        case hytt15 => (intro w; go_simp; first | done | with_reducible rfl)
        try simp only [Act.put, List.getElem_toArray, List.getElem_cons_zero, List.getElem_cons_succ, List.setIfInBounds_toArray, List.set_cons_zero, List.set_cons_succ]
        refine wpAny_done (by kernel_rfl) ?_ _
        go_wp2
        go_ret
        exact ⟨rfl, B⟩

end Go.Proofs.YthjaehcfakjemaaDoor
