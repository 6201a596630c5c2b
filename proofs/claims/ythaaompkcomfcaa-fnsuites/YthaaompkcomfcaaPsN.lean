/- The suites of bytes: the program. -/
import Derived.Test.YthaaompkcomfcaaPsM
namespace Go.Proofs.Ythaaompkcomfcaa
open Go.RowKit

theorem Bytes.drop {ds : List Int} (h : Bytes ds) (k : Nat) : Bytes (ds.drop k) := fun z hz => h z (List.mem_of_mem_drop hz)

theorem OwnSuite.caps {w : World} {base : Nat} {a : Option Addr} {cap : Nat} {xs : List Su} (h : OwnSuite w base a cap xs) : xs.length ≤ cap ∧ cap ≤ maxLen := by
  rcases h.2 with ⟨hv, h0⟩ | ⟨g, cap', cur, hv, _, _, hc, hm, _⟩
  · simp only [Value.slice.injEq] at hv
    obtain ⟨_, _, rfl⟩ := hv
    exact ⟨by omega, by unfold maxLen; omega⟩
  · simp only [Value.slice.injEq] at hv
    obtain ⟨_, _, rfl⟩ := hv
    exact ⟨hc, hm⟩

theorem rem_four (n : Nat) : ((n : Int).tmod 4 != 0) = decide (n % 4 ≠ 0) := by
  rw [Int.tmod_eq_emod_of_nonneg (by omega), Bool.eq_iff_iff]
  simp only [bne_iff_ne, ne_eq, decide_eq_true_eq]
  omega

set_option maxRecDepth 20000 in
set_option maxHeartbeats 8000000 in
theorem implDecode_ok (a : Option Addr) (n ca : Nat) (ds : List Int) (w : World) (ha : Rd .u8 w a ds) (hb : Bytes ds) (hn : ds.length = n) (hc : n ≤ ca) (hx : ca ≤ maxLen) :
    Calls Try.prog 20 #[.slice a n ca] w fun e w' => ∃ (c : Option Addr) (d : Nat), e = .returned (.agg #[.int .i64 (dsC ds), .slice c (dsL ds).length d]) ∧ OwnSuite w' w.heap.size c d (dsL ds) ∧ Below w.heap.size w w' := by
  have hx0 := Hid.mk hx
  unfold maxLen at hx
  have hr4 := rem_four n
  by_cases h4 : n % 4 ≠ 0
  · rw [decide_eq_true h4] at hr4
    have E := Hid.mk (ds_odd (ds := ds) (by rw [hn]; exact h4))
    go_enter Try.func20, Try.ntmps20
    have B := Below.refl w.heap.size w
    replace B := thenB B (belowA w (.cells #[.int .i64 0, .slice none 0 0] 33))
    have VR := V.new w [.int .i64 0, .slice none 0 0] 33
    obtain ⟨s_VR, f_VR, z_VR⟩ := VR.open
    have Bo := B
    clear s_VR f_VR z_VR
    have VF := Hid.mk (VR.filled [.int .i64 5, .slice none 0 0] rfl)
    have BR := belowCells B (show w.heap.size ≤ w.heap.size by (first | omega | (simp; done) | (simp; omega))) 0 [.int .i64 5, .slice none 0 0]
    have HT := Hid.mk VR.there
    replace BR := Hid.mk BR
    obtain ⟨s_VR, f_VR, z_VR⟩ := VR.open
    go_wp2_with (refine wpList_store_mid rfl 33 _ _ rfl (w.heap.size) 0 #[.int .i64 5, .slice none 0 0] rfl rfl HT.out (by kernel_rfl) (by kernel_rfl) ?_)
    refine bodyPost_ret (v := .agg #[.int .i64 5, .slice none 0 0]) (results_row Try.results20 _ _ (w.heap.size) [.int .i64 5, .slice none 0 0] _ rfl VF.out Try.underlying33 rfl (by kernel_rfl)) rfl ⟨none, 0, by rw [E.out.1, E.out.2]; rfl, by rw [E.out.2]; exact OwnSuite.none, BR.out⟩
  rw [decide_eq_false h4] at hr4
  by_cases h40 : (40 : Int) < (n : Int)
  · skip
    have E := Hid.mk (ds_long (ds := ds) (by omega))
    go_enter Try.func20, Try.ntmps20
    have B := Below.refl w.heap.size w
    replace B := thenB B (belowA w (.cells #[.int .i64 0, .slice none 0 0] 33))
    have VR := V.new w [.int .i64 0, .slice none 0 0] 33
    obtain ⟨s_VR, f_VR, z_VR⟩ := VR.open
    have Bo := B
    clear s_VR f_VR z_VR
    have VF := Hid.mk (VR.filled [.int .i64 5, .slice none 0 0] rfl)
    have BR := belowCells B (show w.heap.size ≤ w.heap.size by (first | omega | (simp; done) | (simp; omega))) 0 [.int .i64 5, .slice none 0 0]
    have HT := Hid.mk VR.there
    replace BR := Hid.mk BR
    obtain ⟨s_VR, f_VR, z_VR⟩ := VR.open
    go_wp2_with (refine wpList_store_mid rfl 33 _ _ rfl (w.heap.size) 0 #[.int .i64 5, .slice none 0 0] rfl rfl HT.out (by kernel_rfl) (by kernel_rfl) ?_)
    refine bodyPost_ret (v := .agg #[.int .i64 5, .slice none 0 0]) (results_row Try.results20 _ _ (w.heap.size) [.int .i64 5, .slice none 0 0] _ rfl VF.out Try.underlying33 rfl (by kernel_rfl)) rfl ⟨none, 0, by rw [E.out.1, E.out.2]; rfl, by rw [E.out.2]; exact OwnSuite.none, BR.out⟩
  have d40 : decide ((40 : Int) < (n : Int)) = false := decide_eq_false h40
  have hbs := Hid.mk hb
  go_enter Try.func20, Try.ntmps20
  have B := Below.refl w.heap.size w
  replace B := thenB B (belowA w (.cells #[.int .i64 0, .slice none 0 0] 33))
  have VR := V.new w [.int .i64 0, .slice none 0 0] 33
  obtain ⟨s_VR, f_VR, z_VR⟩ := VR.open
  have Bo := B
  go_wp2
  clear s_VR f_VR z_VR
  go_loopw [3, 4] (fun t v wr => ∃ (k m C d : Nat) (c ra : Option Addr) (os : List Su) (rs : List Int), t = .slice c k d ∧ v = .slice ra m C ∧ os.length = k ∧ rs.length = m ∧ m ≤ C ∧ C ≤ ca ∧ m % 4 = 0 ∧ 4 * k + m = n ∧ os ++ deSu rs = deSu ds ∧ Bytes rs ∧ Rd .u8 w ra rs ∧ OwnSuite wr (w.heap.size + 1) c d os ∧ V wr w.heap.size [.int .i64 0, .slice none 0 0] ∧ Below w.heap.size w wr) (fun _ v _ => sliceLen v)
  case atStart => exact ⟨0, n, ca, 0, none, a, [], ds, rfl, rfl, rfl, hn, hc, Nat.le_refl _, by omega, by omega, rfl, hb, ha, OwnSuite.none, VR, B⟩
  case round =>
    clear VR B Bo ha
    obtain ⟨k, m, C, d, c, ra, os, rs, rfl, rfl, hk, hm, hmC, hCa, hm4, hkm, hde, hbr, RA, O, VR, B⟩ := hrel
    by_cases hlt : 0 < m
    · have hmi : (0 : Int) < (m : Int) := by omega
      have hm44 : 4 ≤ m := by omega
      have hl4 : (4 : Int) ≤ (m : Int) := by omega
      have hlC : (m : Int) ≤ (C : Int) := by omega
      have hst := deSu_drop rs (by omega)
      have hst : deSu rs = headSu rs :: deSu (rs.drop 4) := hst
      rw [hst] at hde
      have hds4 : (rs.drop 4).length = m - 4 := by rw [List.length_drop, hm]
      have hbr4 := hbr.drop 4
      rcases RA with h0 | ⟨b, o, rfl, hca⟩
      · rw [h0] at hm; simp at hm; omega
      have RA : Hid (Rd .u8 w (some ⟨b, o, none⟩) rs) := Hid.mk (.inr ⟨b, o, rfl, hca⟩)
      have CR := Hid.mk (fun w h => readSuite_ok b o m C rs w h hm (by unfold maxLen; omega) hm44 hbr)
      have HK := Hid.mk hk
      have HD := Hid.mk (show (os ++ [headSu rs]) ++ deSu (rs.drop 4) = deSu ds by rw [← hde]; simp)
      have HB4 := Hid.mk hbr4
      have HL4 := Hid.mk hds4
      clear hca hst hde hk hds4 hbr4 hbr hlt
      generalize headSu rs = y at *
      obtain ⟨s_VR, f_VR, z_VR⟩ := VR.open
      have Bo := B
      go_wp2_with fail
      refine (CR.out _ (RA.out.kept Bo)).mono ?_
      rintro e w21 ⟨rfl, b21⟩
      clear s_VR f_VR z_VR
      have S21 := b21.size
      replace VR := VR.kept b21
      replace O := O.kept b21
      replace B := thenB B b21
      clear b21
      obtain ⟨s_VR, f_VR, z_VR⟩ := VR.open
      have Bo := B
      have VY := V.new w21 [.int .i64 y.c, .int .i64 y.b, .int .i64 y.m, .int .i64 y.g] 28
      have bq := belowA w21 (.cells #[.int .i64 y.c, .int .i64 y.b, .int .i64 y.m, .int .i64 y.g] 28)
      have O5 := Hid.mk (O.kept bq)
      have VR5 := Hid.mk (VR.kept bq)
      have B5 := Hid.mk (thenB B bq)
      have HNC := Hid.mk (suNews VY)
      have hb4 : w.heap.size + 1 ≤ (w21.alloc (.cells #[.int .i64 y.c, .int .i64 y.b, .int .i64 y.m, .int .i64 y.g] 28)).heap.size := by rw [World.size_alloc]; have := VR.1; omega
      have OLT := Hid.mk O.lt
      clear VY bq O B Bo CR
      go_wp2_with (at_builtin; go_loud (refine wpList_putSuite _ rfl _ _ rfl (w.heap.size + 1) c d os k HK.out rfl O5.out ⟨w21.heap.size, 0, none⟩ 1 y rfl HNC.out (by omega) hb4 ?_))
      intro c6 d6 w6 O6 hg6 _
      have VR6 := Hid.mk (VR5.out.grownR hg6 (row_ne fun b hb => by have := (OLT.out b hb).1; omega))
      have B6 := Hid.mk (belowG B5.out hg6 (by omega) (fun b hb => by have := (OLT.out b hb).1; omega))
      have O6' := Hid.mk O6
      have HJ6 : Hid ((os ++ [y]).length = k + 1) := Hid.mk (by rw [List.length_append, HK.out]; rfl)
      clear O6 hg6 O5 VR5 B5 HNC VR
      by_cases hC : C = 4
      · have hm0 : m = 4 := by omega
        subst hC
        subst hm0
        have hnil : rs.drop 4 = [] := List.eq_nil_of_length_eq_zero HL4.out
        go_wp2
        go_roundw
        case rel => exact ⟨k + 1, 0, 0, d6, c6, _, os ++ [y], [], by go_num, rfl, HJ6.out, rfl, Nat.le_refl _, by omega, rfl, by omega, by have h := HD.out; rw [hnil] at h; exact h, (by intro z hz; simp at hz), .inl rfl, O6'.out, VR6.out, B6.out⟩
        case measure => simp [sliceLen]
      · go_wp2
        go_roundw
        case rel => exact ⟨k + 1, m - 4, C - 4, d6, c6, _, os ++ [y], rs.drop 4, by go_num, rfl, HJ6.out, HL4.out, by omega, by omega, by omega, by omega, HD.out, HB4.out, RA.out.drop4, O6'.out, VR6.out, B6.out⟩
        case measure => simp [sliceLen]; omega
    · have hm0 : m = 0 := by omega
      subst hm0
      have hr0 : rs = [] := List.eq_nil_of_length_eq_zero hm
      rw [hr0] at hde
      rw [show deSu [] = ([] : List Su) from rfl, List.append_nil] at hde
      have OC := O.caps
      rw [hk] at OC
      have CF := Hid.mk (fun w h => implSuitesFault_ok c k d os w h hk OC.1 OC.2)
      have OLT := Hid.mk O.lt
      have hk1 := Hid.mk hk
      by_cases h0 : ssF os = 0
      · have E := Hid.mk (ds_good (ds := ds) (by rw [hn]; omega) (by rw [hn]; omega) (by rw [← hde]; exact h0))
        simp only [h0] at CF
        have HD := Hid.mk hde
        clear hm hr0 hbr RA hde hk h0 OC
        obtain ⟨s_VR, f_VR, z_VR⟩ := VR.open
        go_wp2_with fail
        refine (CF.out _ O.rd).mono ?_
        rintro e w41 ⟨rfl, b41⟩
        clear s_VR f_VR z_VR
        have S41 := b41.size
        replace VR := VR.kept b41
        replace O := O.kept b41
        replace B := thenB B b41
        clear b41
        obtain ⟨s_VR, f_VR, z_VR⟩ := VR.open
        have Bo := B
        clear s_VR f_VR z_VR
        have VF := Hid.mk (VR.filled [.int .i64 0, .slice c k d] rfl)
        have BR := belowCells B (show w.heap.size ≤ w.heap.size by (first | omega | (simp; done) | (simp; omega))) 0 [.int .i64 0, .slice c k d]
        have HT := Hid.mk VR.there
        replace BR := Hid.mk BR
        have OF := Hid.mk ((O.apart (B := w.heap.size) (fun b hb => by have := (OLT.out b hb).1; omega) 0 [.int .i64 0, .slice c k d]).mono (Nat.le_succ w.heap.size))
        clear O
        obtain ⟨s_VR, f_VR, z_VR⟩ := VR.open
        go_wp2_with (refine wpList_store_mid rfl 33 _ _ rfl (w.heap.size) 0 #[.int .i64 0, .slice c k d] rfl rfl HT.out (by kernel_rfl) (by kernel_rfl) ?_)
        refine bodyPost_ret (v := .agg #[.int .i64 0, .slice c k d]) (results_row Try.results20 _ _ (w.heap.size) [.int .i64 0, .slice c k d] _ rfl VF.out Try.underlying33 rfl (by kernel_rfl)) rfl ⟨c, d, by rw [E.out.1, E.out.2, ← HD.out, hk1.out], by rw [E.out.2, ← HD.out]; exact OF.out, BR.out⟩
      · have E := Hid.mk (ds_bad (ds := ds) (by rw [← hde]; exact h0))
        have hne : (ssF os != 0) = true := by simp [h0]
        generalize ssF os = kc at *
        clear hm hr0 hbr RA hde hk h0 OC
        obtain ⟨s_VR, f_VR, z_VR⟩ := VR.open
        go_wp2_with fail
        refine (CF.out _ O.rd).mono ?_
        rintro e w61 ⟨rfl, b61⟩
        clear s_VR f_VR z_VR
        have S61 := b61.size
        replace VR := VR.kept b61
        replace O := O.kept b61
        replace B := thenB B b61
        clear b61
        obtain ⟨s_VR, f_VR, z_VR⟩ := VR.open
        have Bo := B
        clear s_VR f_VR z_VR
        have VF := Hid.mk (VR.filled [.int .i64 5, .slice none 0 0] rfl)
        have BR := belowCells B (show w.heap.size ≤ w.heap.size by (first | omega | (simp; done) | (simp; omega))) 0 [.int .i64 5, .slice none 0 0]
        have HT := Hid.mk VR.there
        replace BR := Hid.mk BR
        clear O
        obtain ⟨s_VR, f_VR, z_VR⟩ := VR.open
        go_wp2_with (refine wpList_store_mid rfl 33 _ _ rfl (w.heap.size) 0 #[.int .i64 5, .slice none 0 0] rfl rfl HT.out (by kernel_rfl) (by kernel_rfl) ?_)
        refine bodyPost_ret (v := .agg #[.int .i64 5, .slice none 0 0]) (results_row Try.results20 _ _ (w.heap.size) [.int .i64 5, .slice none 0 0] _ rfl VF.out Try.underlying33 rfl (by kernel_rfl)) rfl ⟨none, 0, by rw [E.out.1, E.out.2]; rfl, by rw [E.out.2]; exact OwnSuite.none, BR.out⟩

end Go.Proofs.Ythaaompkcomfcaa
