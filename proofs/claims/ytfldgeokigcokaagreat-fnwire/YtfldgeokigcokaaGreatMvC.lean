/- takeOver. -/
import Derived.Test.YtfldgeokigcokaaGreatMvB
import Derived.Test.YtfldgeokigcokaaGreatOcB
import Derived.Test.YtfldgeokigcokaaGreatTmF
namespace Go.Proofs.YtfldgeokigcokaaGreat
open Go.RowKit

theorem tab_cell {w : World} {Q L : Nat} {pl : Int → Int} (h : Own .i64 2 w Q (some ⟨Q, 0, none⟩) L (tab L pl)) {i : Nat} (hi : i < L) : w.cell? ⟨Q, i, none⟩ = some (.int .i64 (pl i)) := by
  rcases h.rd with h1 | ⟨b3, o3, e3, h1⟩
  · have := tab_len L pl; rw [h1] at this; simp at this; omega
  · simp only [Option.some.injEq, Addr.mk.injEq, and_true] at e3
    obtain ⟨rfl, rfl⟩ := e3
    have h2 := h1 i (by rw [tab_len]; exact hi)
    rw [Nat.zero_add, tab_at pl hi] at h2
    exact h2

theorem tab_frozen {w : World} {Q L : Nat} {pl : Int → Int} (h : Own .i64 2 w Q (some ⟨Q, 0, none⟩) L (tab L pl)) (i : Nat) : w.frozen? ⟨Q, i, none⟩ = false := (h.row (tab_len L pl)).frozenAt i

theorem tab_store {w : World} {Q L : Nat} {pl : Int → Int} (h : Own .i64 2 w Q (some ⟨Q, 0, none⟩) L (tab L pl)) (i : Nat) (v : Int) : Own .i64 2 (w.setCell ⟨Q, i, none⟩ (.int .i64 v)) Q (some ⟨Q, 0, none⟩) L (tab L (updP pl i v)) := by
  have hs := (h.row (tab_len L pl)).stored i (.int .i64 v)
  rw [set_map, tab_set] at hs
  exact Own.mk hs.1 (tab_len _ _)

/-- What a call of 'takeOver' leaves. -/
def TkOver (M : Mv) (m base p g : Nat) (c : Option Addr) (w : World) (e : Ending) (w' : World) : Prop :=
  ∃ c' d', e = .returned (.agg #[.int .i64 M.c, .int .i64 (if M.c = 0 then M.pl m else 0)]) ∧ Bk w' base p g c' d' M.tb ∧ Sm (BkX p g c) w w' ∧ ∀ k, BkX p g c' k → k < w.heap.size → BkX p g c k

set_option maxRecDepth 20000 in
set_option maxHeartbeats 8000000 in
theorem takeOver_ok (base p g : Nat) (c : Option Addr) (d : Nat) (xs : List T4) (base' ps gs : Nat) (cs : Option Addr) (ds : Nat) (fr : List T4) (n m : Nat) (w : World)
    (H : Bk w base p g c d xs) (Hs : Bk w base' ps gs cs ds fr) (hn : fr.length = n) (hv : tfC fr = 0) (hok : ∀ t ∈ fr, okT t) (hm : m < n) (hl : xs.length ≤ 400) (hd : ∀ k, BkX p g c k → ¬ BkX ps gs cs k) (M : Mv) (hM : mvR fr (prL fr m) (fun _ => 0) xs = M) :
    Calls Tryz.prog 47 #[.pointer (some ⟨p, 0, none⟩), .pointer (some ⟨ps, 0, none⟩), .int .i64 m] w (TkOver M m base p g c w) := by
  have q2 := build_irv
  have hn4 : n ≤ 400 := by have := (tfC_zero hv).1; omega
  have CP := Hid.mk (fun w' h => partsOf_ok base' ps gs cs ds fr n m w' h hn hv hok hm)
  have HAh := Hid.mk (tfC_ahead hv)
  have HV := Hid.mk hv
  have HOK := Hid.mk hok
  have HD := Hid.mk hd
  have HLT := Hid.mk H.lt
  have HLS := Hid.mk Hs.lt
  have HML := Hid.mk (show ∀ z ∈ prL fr m, 0 ≤ z ∧ z ≤ m from fun z hz => prL_range hz)
  have hlz := prL_len fr m
  obtain ⟨zs, hzs⟩ : ∃ zs, prL fr m = zs := ⟨_, rfl⟩
  rw [hzs] at hM CP HML hlz
  have hM0 : Hid (mvR fr (zs.drop 0) (fun _ => 0) xs = M ∧ PlOk (fun _ => 0) ∧ xs.length ≤ 400) := Hid.mk ⟨by rw [List.drop_zero]; exact hM, PlOk.zero, hl⟩
  have hm1 : (m : Int) < (n : Int) := by omega
  have HN := Hid.mk hn
  have VS := Hs.v
  rw [hn] at VS
  obtain ⟨i0, hi, hz0, hz1, hz2⟩ := info_parts Tryz.infoI64
  clear hv hok hd hM hzs hl
  go_enter Tryz.func47, Tryz.ntmps47
  have B := Below.refl w.heap.size w
  replace VS := VS.kept (belowA w (.cells #[.int .i64 0, .int .i64 0] 37))
  replace H := H.kept (belowA w (.cells #[.int .i64 0, .int .i64 0] 37))
  replace Hs := Hs.kept (belowA w (.cells #[.int .i64 0, .int .i64 0] 37))
  replace B := thenB B (belowA w (.cells #[.int .i64 0, .int .i64 0] 37))
  have VR := V.new w [.int .i64 0, .int .i64 0] 37
  obtain ⟨s_VS, f_VS, z_VS⟩ := VS.open
  obtain ⟨s_VR, f_VR, z_VR⟩ := VR.open
  have Bo := B
  go_wp2_with (at_make; go_loud (refine wpList_make_full _ rfl _ _ 52 rfl (w.alloc (.cells #[.int .i64 0, .int .i64 0] 37)).heap.size 2 i0 (.int .i64 0) 1 Tryz.underlying52 hi hz0 hz1 .i64 .i64 _ _ n rfl rfl (by omega) (by omega) (by rw [hz2]; omega) (by unfold maxLen; omega) (Nat.le_refl _) ?_))
  intro w2 hown hgrow
  have O0 : Own .i64 2 w2 (w.alloc (.cells #[.int .i64 0, .int .i64 0] 37)).heap.size (some ⟨(w.alloc (.cells #[.int .i64 0, .int .i64 0] 37)).heap.size, 0, none⟩) n (tab n (fun _ => 0)) := by
    refine Own.mk ?_ (tab_len _ _)
    rw [tab_zero]
    simpa [toList_madeCells_one] using hown
  have bg : Below (w.alloc (.cells #[.int .i64 0, .int .i64 0] 37)).heap.size (w.alloc (.cells #[.int .i64 0, .int .i64 0] 37)) w2 := (Sm.grown (X := fun _ => False) hgrow (fun k e => by cases e)).below' (Below.refl _ _) (Nat.le_refl _) (fun k e => e.elim)
  clear s_VS f_VS z_VS s_VR f_VR z_VR
  replace VS := VS.kept bg
  replace VR := VR.kept bg
  replace H := H.kept bg
  replace Hs := Hs.kept bg
  replace B := thenB B bg
  have hQ1 : (w.alloc (.cells #[.int .i64 0, .int .i64 0] 37)).heap.size = w.heap.size + 1 := World.size_alloc _ _
  rw [hQ1] at O0
  have hS2 : w.heap.size + 1 < w2.heap.size := by have := O0.lt _ rfl; simp only at this; omega
  clear hown hgrow bg hi hz0 hz1 hz2
  obtain ⟨s_VS, f_VS, z_VS⟩ := VS.open
  obtain ⟨s_VR, f_VR, z_VR⟩ := VR.open
  have Bo := B
  go_wp2_with fail
  refine (CP.out _ Hs).mono ?_
  rintro e w1 ⟨g4, d4, l, rfl, hk, OP, b1⟩
  clear s_VS f_VS z_VS s_VR f_VR z_VR
  have S1 := b1.size
  replace VS := VS.kept b1
  replace VR := VR.kept b1
  replace H := H.kept b1
  replace Hs := Hs.kept b1
  replace O0 := O0.kept b1
  replace B := thenB B b1
  clear b1
  obtain ⟨s_VS, f_VS, z_VS⟩ := VS.open
  obtain ⟨s_VR, f_VR, z_VR⟩ := VR.open
  have Bo := B
  have hg4 := OP.lt _ rfl
  simp only at hg4
  clear s_VS f_VS z_VS s_VR f_VR z_VR
  have RP := Hid.mk OP.rd
  have HK := Hid.mk hk
  have hl5 : l ≤ 401 := by have := HK.out; omega
  clear hlz
  have hS4 := Hid.mk (show w2.heap.size ≤ w1.heap.size by omega)
  obtain ⟨Z, hZ⟩ : ∃ Z, w1.heap.size = Z := ⟨_, rfl⟩
  have hW := Hid.mk (show Z ≤ w1.heap.size ∧ ∀ k, BkX p g c k → BkX p g c k ∨ Z ≤ k from ⟨by omega, fun k hk => .inl hk⟩)
  have S0 := Hid.mk (Sm.below (X := BkX p g c) B)
  have hZ1 : w.heap.size + 1 < Z ∧ g4 < Z ∧ w.heap.size + 1 < g4 := by omega
  have H0 := Hid.mk H
  have Hs0 := Hid.mk Hs
  have O1 := Hid.mk O0
  have VR0 := Hid.mk VR
  clear H Hs O0 VR VS OP B Bo hS4 hZ hg4
  go_wp2
  go_loopw [21] (fun i wr => ∃ (k : Nat) (c' : Option Addr) (d' : Nat) (pl : Int → Int) (tb : List T4), k ≤ l ∧ i = .int .i64 k ∧ Hid (mvR fr (zs.drop k) pl tb = M ∧ PlOk pl ∧ tb.length ≤ 400) ∧ Bk wr base p g c' d' tb ∧ Bk wr base' ps gs cs ds fr ∧ Own .i64 2 wr (w.heap.size + 1) (some ⟨w.heap.size + 1, 0, none⟩) n (tab n pl) ∧ Rd .i64 wr (some ⟨g4, 0, none⟩) zs ∧ V wr w.heap.size [.int .i64 0, .int .i64 0] ∧ Sm (BkX p g c) w wr ∧ Hid (Z ≤ wr.heap.size ∧ ∀ k, BkX p g c' k → BkX p g c k ∨ Z ≤ k)) (fun i _ => l - (intOf i).toNat)
  case atStart => exact ⟨0, c, d, fun _ => 0, xs, Nat.zero_le _, rfl, hM0, H0.out, Hs0.out, O1.out, RP.out, VR0.out, S0.out, hW⟩
  case round =>
    clear hM0 H0 Hs0 O1 RP VR0 S0 hW
    obtain ⟨k, c1, d1, pl, tb, hk1, rfl, hdr, H, Hs, O, RP, VR, S, hW⟩ := hrel
    have hDJ : Hid (∀ k, BkX p g c1 k → ¬ BkX ps gs cs k ∧ k ≠ w.heap.size ∧ k ≠ w.heap.size + 1 ∧ k ≠ g4) := Hid.mk (fun k hk => by
      have h1 := hW.out.2 k hk
      rcases h1 with h1 | h1
      · have h2 := (HLT.out k h1).2
        exact ⟨HD.out k h1, by omega, by omega, by omega⟩
      · exact ⟨fun e => by have := (HLS.out k e).2; omega, by omega, by omega, by omega⟩)
    by_cases hlt : k < l
    · obtain ⟨z, hz⟩ : ∃ z, zs.getD k 0 = z := ⟨_, rfl⟩
      have hk2 : (k : Int) < (l : Int) := by omega
      have hzm := HML.out z (by rw [← hz]; exact igetD_mem (by rw [HK.out]; exact hlt))
      obtain ⟨u, rfl⟩ : ∃ u : Nat, z = (u : Int) := ⟨z.toNat, by omega⟩
      have hun : u < n := by omega
      have hun1 : (u : Int) < (n : Int) := by omega
      obtain ⟨x, hx1⟩ : ∃ x, fr.getD u zTerm = x := ⟨_, rfl⟩
      have hs := mvR_drop fr zs pl tb k (by rw [HK.out]; exact hlt) hz
      have htm : tmAt fr (u : Int) = x := by unfold tmAt; rw [Int.toNat_natCast]; exact hx1
      rw [htm, hdr.out.1] at hs
      obtain ⟨r, hr⟩ : ∃ r, mvT x pl = r := ⟨_, rfl⟩
      rw [hr] at hs
      have hxo : okT x := HOK.out x (by rw [← hx1]; exact getDTerm_mem (by rw [HN.out]; exact hun))
      have hro : okT r := by rw [← hr]; exact mvT_ok hxo hdr.out.2.1
      have hop := op_right HV.out u (by rw [HN.out]; exact hun) hx1
      obtain ⟨ha1, hb1⟩ := HAh.out u (by rw [HN.out]; exact hun)
      rw [hx1] at ha1 hb1
      have CW := Hid.mk (fun w' h => withPlaces_ok x hop pl n (some ⟨w.heap.size + 1, 0, none⟩) n w' h (fun e => by have := ha1 e; omega) (fun e => by have := hb1 e; omega))
      have CU := Hid.mk (fun w h => put_ok base p g c1 d1 tb r w h hro hdr.out.2.2)
      have HR := Hid.mk hr
      have HPO := Hid.mk hdr.out.2.1
      have hput := put_len (xs := tb) (t := r) hdr.out.2.2
      have hpk := put_k (xs := tb) (t := r) hdr.out.2.2
      have h0 : Hid (tb.length ≤ 400) := Hid.mk hdr.out.2.2
      rcases Hs.o.rd with h9 | ⟨b1, o1, rfl, hca⟩
      · have := HN.out; rw [h9] at this; simp at this; omega
      obtain ⟨p0, p1, p2, p3⟩ := RdTerm.cells hca u (by rw [HN.out]; exact hun) x hx1
      have RPh := Hid.mk RP
      rcases RP with h9 | ⟨b2, o2, e2, hcp⟩
      · have := HK.out; rw [h9] at this; simp at this; omega
      simp only [Option.some.injEq, Addr.mk.injEq, and_true] at e2
      obtain ⟨rfl, rfl⟩ := e2
      have pz := hcp k (by rw [HK.out]; exact hlt)
      rw [hz, Nat.zero_add] at pz
      have VS := Hs.v
      rw [HN.out] at VS
      have RP := RPh.out
      clear RPh hca hcp hz hx1 htm hr hxo hro hop ha1 hb1 hdr hzm
      by_cases hc : (put tb r).c = 0
      · rw [if_pos hc] at hs
        have e1 : putL tb r = (put tb r).l := by unfold putL; rw [if_pos hc]
        rw [e1] at CU
        have HS := Hid.mk hs
        clear hs e1
        generalize put tb r = P at *
        obtain ⟨kc, kk, ls⟩ := P
        simp only at hc hput hpk CU HS
        subst hc
        replace hput := Hid.mk hput
        obtain ⟨s_VR, f_VR, z_VR⟩ := VR.open
        obtain ⟨s_VS, f_VS, z_VS⟩ := VS.open
        go_wp2_with fail
        refine (CW.out _ O.rd).mono ?_
        rintro e w21 ⟨r', hr', rfl, b21⟩
        clear s_VR f_VR z_VR s_VS f_VS z_VS
        have S21 := b21.size
        replace VR := VR.kept b21
        replace VS := VS.kept b21
        replace H := H.kept b21
        replace Hs := Hs.kept b21
        replace O := O.kept b21
        replace RP := RP.kept b21
        replace S := S.trans (Sm.below b21)
        clear b21
        obtain ⟨s_VR, f_VR, z_VR⟩ := VR.open
        obtain ⟨s_VS, f_VS, z_VS⟩ := VS.open
        rw [HR.out] at hr'
        subst hr'
        go_wp2_with fail
        refine (CU.out _ H).mono ?_
        rintro e w6 ⟨c6, d6, rfl, H6, S6, hc6⟩
        clear s_VR f_VR z_VR s_VS f_VS z_VS
        have hsz6 := S6.size
        have hsz5 := S.size
        replace hc6 := Hid.mk hc6
        have hNB : Hid (∀ k, BkX p g c1 k → ¬ BkX ps gs (some ⟨b1, o1, none⟩) k ∧ k ≠ w.heap.size ∧ k ≠ w.heap.size + 1 ∧ k ≠ g4) := hDJ
        replace Hs := Hs.sm S6 (fun k e => (hDJ.out k e).1)
        replace O := O.sm S6 (fun b hb e => by simp only [Option.some.injEq] at hb; subst hb; exact (hDJ.out _ e).2.2.1 rfl)
        replace RP := RP.sm S6 (fun b hb e => by simp only [Option.some.injEq] at hb; subst hb; exact (hDJ.out _ e).2.2.2 rfl)
        replace VR := VR.sm S6 (fun e => (hDJ.out _ e).2.1 rfl)
        replace VS := VS.sm S6 (fun e => (hDJ.out _ e).1 (.inl rfl))
        have hZw : Hid (Z ≤ w6.heap.size) := Hid.mk (by have := hW.out.1; omega)
        have hW6 : Hid (∀ k, BkX p g c6 k → BkX p g c k ∨ Z ≤ k) := Hid.mk (fun k hk => by
          by_cases hkk : k < w21.heap.size
          · exact hW.out.2 k (hc6.out k hk hkk)
          · have := hW.out.1; exact .inr (by omega))
        replace S := Sm.less S.size S6 (fun k hk hx => by rcases hW.out.2 k hx with h | h; exact h; have := hW.out.1; omega) S
        clear S6 H hNB
        have H := H6
        clear H6
        have b7 := belowA w6 (.cells #[.int .i64 0, .int .i64 kk] 37)
        replace VR := VR.kept b7
        replace VS := VS.kept b7
        replace H := H.kept b7
        replace Hs := Hs.kept b7
        replace O := O.kept b7
        replace RP := RP.kept b7
        replace S := S.trans (Sm.below b7)
        clear b7
        have SQ : Sm (fun q => q = w.heap.size + 1) (w6.alloc (.cells #[.int .i64 0, .int .i64 kk] 37)) ((w6.alloc (.cells #[.int .i64 0, .int .i64 kk] 37)).setCell ⟨w.heap.size + 1, u, none⟩ (.int .i64 kk)) := Sm.cell (X := fun q => q = w.heap.size + 1) rfl _
        have hQc := tab_cell O hun
        have hQf := tab_frozen O u
        have H8 := Hid.mk (H.sm SQ (fun k e h2 => by subst e; rcases hW6.out _ h2 with h3 | h3; have := (HLT.out _ h3).2; omega; omega))
        have Hs8 := Hid.mk (Hs.sm SQ (fun k e h2 => by subst e; have := (HLS.out _ h2).2; omega))
        have O8 := Hid.mk (tab_store O u kk)
        have RP8 := Hid.mk (RP.sm SQ (fun b hb e => by simp only [Option.some.injEq] at hb; subst hb; simp only at e; omega))
        have VR8 := Hid.mk (VR.sm SQ (by omega))
        have S8 := Hid.mk (S.newCell (p := ⟨w.heap.size + 1, u, none⟩) (by simp only; omega) (.int .i64 kk))
        have hW8 : Hid (Z ≤ ((w6.alloc (.cells #[.int .i64 0, .int .i64 kk] 37)).setCell ⟨w.heap.size + 1, u, none⟩ (.int .i64 kk)).heap.size ∧ ∀ k, BkX p g c6 k → BkX p g c k ∨ Z ≤ k) := Hid.mk ⟨by have h1 := SQ.size; have h2 : (w6.alloc (.cells #[.int .i64 0, .int .i64 kk] 37)).heap.size = w6.heap.size + 1 := World.size_alloc _ _; have := hZw.out; omega, hW6.out⟩
        have hdr8 : Hid (mvR fr (zs.drop (k + 1)) (updP pl u kk) ls = M ∧ PlOk (updP pl u kk) ∧ ls.length ≤ 400) := Hid.mk ⟨HS.out.symm, HPO.out.upd hpk, hput.out⟩
        clear H Hs O RP VR VS S SQ p0 p1 p2 p3 pz
        go_wp2
        go_roundw
        case rel => exact ⟨k + 1, c6, d6, updP pl u kk, ls, by omega, by go_num, hdr8, H8.out, Hs8.out, O8.out, RP8.out, VR8.out, S8.out, hW8⟩
        case measure => (simp [intOf]; omega)
      · rw [if_neg hc] at hs
        have e1 : putL tb r = tb := by unfold putL; rw [if_neg hc]
        have hcc : ((put tb r).c != 0) = true := by simp [hc]
        obtain ⟨e2, e3⟩ := put_no hc
        rw [e1, e2] at CU
        have HS := Hid.mk hs
        have HC := Hid.mk hc
        clear hs e1 e2 e3 hput hpk hc
        generalize (put tb r).c = kc at *
        obtain ⟨s_VR, f_VR, z_VR⟩ := VR.open
        obtain ⟨s_VS, f_VS, z_VS⟩ := VS.open
        go_wp2_with fail
        refine (CW.out _ O.rd).mono ?_
        rintro e w41 ⟨r', hr', rfl, b41⟩
        clear s_VR f_VR z_VR s_VS f_VS z_VS
        have S41 := b41.size
        replace VR := VR.kept b41
        replace VS := VS.kept b41
        replace H := H.kept b41
        replace Hs := Hs.kept b41
        replace O := O.kept b41
        replace RP := RP.kept b41
        replace S := S.trans (Sm.below b41)
        clear b41
        obtain ⟨s_VR, f_VR, z_VR⟩ := VR.open
        obtain ⟨s_VS, f_VS, z_VS⟩ := VS.open
        rw [HR.out] at hr'
        subst hr'
        go_wp2_with fail
        refine (CU.out _ H).mono ?_
        rintro e w6 ⟨c6, d6, rfl, H6, S6, hc6⟩
        clear s_VR f_VR z_VR s_VS f_VS z_VS
        have hsz6 := S6.size
        have hsz5 := S.size
        replace hc6 := Hid.mk hc6
        have hNB : Hid (∀ k, BkX p g c1 k → ¬ BkX ps gs (some ⟨b1, o1, none⟩) k ∧ k ≠ w.heap.size ∧ k ≠ w.heap.size + 1 ∧ k ≠ g4) := hDJ
        replace Hs := Hs.sm S6 (fun k e => (hDJ.out k e).1)
        replace O := O.sm S6 (fun b hb e => by simp only [Option.some.injEq] at hb; subst hb; exact (hDJ.out _ e).2.2.1 rfl)
        replace RP := RP.sm S6 (fun b hb e => by simp only [Option.some.injEq] at hb; subst hb; exact (hDJ.out _ e).2.2.2 rfl)
        replace VR := VR.sm S6 (fun e => (hDJ.out _ e).2.1 rfl)
        replace VS := VS.sm S6 (fun e => (hDJ.out _ e).1 (.inl rfl))
        have hZw : Hid (Z ≤ w6.heap.size) := Hid.mk (by have := hW.out.1; omega)
        have hW6 : Hid (∀ k, BkX p g c6 k → BkX p g c k ∨ Z ≤ k) := Hid.mk (fun k hk => by
          by_cases hkk : k < w41.heap.size
          · exact hW.out.2 k (hc6.out k hk hkk)
          · have := hW.out.1; exact .inr (by omega))
        replace S := Sm.less S.size S6 (fun k hk hx => by rcases hW.out.2 k hx with h | h; exact h; have := hW.out.1; omega) S
        clear S6 H hNB
        have H := H6
        clear H6
        replace VR := VR.kept (belowA w6 (.cells #[.int .i64 kc, .int .i64 0] 37))
        replace VS := VS.kept (belowA w6 (.cells #[.int .i64 kc, .int .i64 0] 37))
        replace H := H.kept (belowA w6 (.cells #[.int .i64 kc, .int .i64 0] 37))
        replace Hs := Hs.kept (belowA w6 (.cells #[.int .i64 kc, .int .i64 0] 37))
        replace O := O.kept (belowA w6 (.cells #[.int .i64 kc, .int .i64 0] 37))
        replace RP := RP.kept (belowA w6 (.cells #[.int .i64 kc, .int .i64 0] 37))
        replace S := S.trans (Sm.below (belowA w6 (.cells #[.int .i64 kc, .int .i64 0] 37)))
        have VX := V.new w6 [.int .i64 kc, .int .i64 0] 37
        obtain ⟨s_VR, f_VR, z_VR⟩ := VR.open
        obtain ⟨s_VS, f_VS, z_VS⟩ := VS.open
        obtain ⟨s_VX, f_VX, z_VX⟩ := VX.open
        clear s_VR f_VR z_VR s_VS f_VS z_VS s_VX f_VX z_VX
        have VF := Hid.mk (VR.filled [.int .i64 kc, .int .i64 0] rfl)
        have HT := Hid.mk VR.there
        have SR := Hid.mk (Sm.newCells S (show w.heap.size ≤ w.heap.size by (first | omega | (simp; done) | (simp; omega))) 0 [.int .i64 kc, .int .i64 0])
        have HO : Hid (Bk _ base p g c6 d6 M.tb) := Hid.mk (by have h5 := H.apart (B := w.heap.size) (fun k hk e => by subst e; rcases hW6.out _ hk with h3 | h3; have := (HLT.out _ h3).2; omega; omega) 0 [.int .i64 kc, .int .i64 0]; rw [HS.out]; exact h5)
        obtain ⟨s_VR, f_VR, z_VR⟩ := VR.open
        obtain ⟨s_VS, f_VS, z_VS⟩ := VS.open
        obtain ⟨s_VX, f_VX, z_VX⟩ := VX.open
        go_wp2_with (refine wpList_store_mid rfl 37 _ _ rfl (w.heap.size) 0 #[.int .i64 kc, .int .i64 0] rfl rfl HT.out (by kernel_rfl) (by kernel_rfl) ?_)
        refine bodyPost_ret (v := .agg #[.int .i64 kc, .int .i64 0]) (results_row Tryz.results47 _ _ (w.heap.size) [.int .i64 kc, .int .i64 0] _ rfl VF.out Tryz.underlying37 rfl (by kernel_rfl)) rfl ⟨c6, d6, by rw [HS.out, if_neg HC.out], HO.out, SR.out, fun k hk hlt => by rcases hW6.out k hk with h | h; exact h; omega⟩
    · obtain rfl : k = l := by omega
      have hMM := hdr.out.1
      rw [mvR_end fr zs pl tb k (by rw [HK.out]; exact Nat.le_refl _)] at hMM
      have HM := Hid.mk hMM
      have pm := tab_cell O hm
      clear hMM hdr
      obtain ⟨s_VR, f_VR, z_VR⟩ := VR.open
      clear s_VR f_VR z_VR
      have VF := Hid.mk (VR.filled [.int .i64 0, .int .i64 (pl m)] rfl)
      have HT := Hid.mk VR.there
      have SR := Hid.mk (Sm.newCells S (show w.heap.size ≤ w.heap.size by (first | omega | (simp; done) | (simp; omega))) 0 [.int .i64 0, .int .i64 (pl m)])
      have HO : Hid (Bk _ base p g c1 d1 M.tb) := Hid.mk (by have h5 := H.apart (B := w.heap.size) (fun k hk e => (hDJ.out k hk).2.1 e) 0 [.int .i64 0, .int .i64 (pl m)]; rw [← HM.out]; exact h5)
      obtain ⟨s_VR, f_VR, z_VR⟩ := VR.open
      go_wp2_with (refine wpList_store_mid rfl 37 _ _ rfl (w.heap.size) 0 #[.int .i64 0, .int .i64 (pl m)] rfl rfl HT.out (by kernel_rfl) (by kernel_rfl) ?_)
      refine bodyPost_ret (v := .agg #[.int .i64 0, .int .i64 (pl m)]) (results_row Tryz.results47 _ _ (w.heap.size) [.int .i64 0, .int .i64 (pl m)] _ rfl VF.out Tryz.underlying37 rfl (by kernel_rfl)) rfl ⟨c1, d1, by rw [← HM.out]; rfl, HO.out, SR.out, fun k hk hlt => by rcases hW.out.2 k hk with h | h; exact h; omega⟩

end Go.Proofs.YtfldgeokigcokaaGreat
