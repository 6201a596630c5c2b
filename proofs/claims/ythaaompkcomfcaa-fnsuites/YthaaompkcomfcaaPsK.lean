/- The suite that is chosen: program and model. -/
import Derived.Test.YthaaompkcomfcaaPsJ
namespace Go.Proofs.Ythaaompkcomfcaa
open Go.RowKit

theorem ch_none {xs ys : List Su} (h : csC xs ys ≠ 0) : chA xs ys = 0 ∧ chS xs ys = zSuite :=
  ⟨if_neg h, if_neg h⟩

theorem ch_some {xs ys : List Su} (h : csC xs ys = 0) : chA xs ys = (fstC ys xs : Int) ∧ chS xs ys = xs.getD (fstC ys xs) zSuite :=
  ⟨if_pos h, if_pos h⟩

theorem cs_zero {xs ys : List Su} (h : csC xs ys = 0) : csL xs ys = cmL xs ys ∧ cmL xs ys ≠ [] := by
  rcases cs_ways xs ys with ⟨h1, h2, _⟩ | ⟨_, h1, h2, _⟩ | ⟨_, _, _, h2, _⟩ | ⟨_, _, h3, _, h4⟩
  · rw [h2] at h; exact absurd h h1
  · rw [h2] at h; exact absurd h h1
  · rw [h2] at h; cases h
  · exact ⟨h4, h3⟩

set_option maxRecDepth 20000 in
set_option maxHeartbeats 8000000 in
theorem implChoose_ok (a b : Option Addr) (n ca m cb : Nat) (xs ys : List Su) (w : World) (ha : RdSuite w a xs) (hb : RdSuite w b ys) (hn : xs.length = n) (hm : ys.length = m) (hc : n ≤ ca) (hx : ca ≤ maxLen) (hd : m ≤ cb) (hy : cb ≤ maxLen) :
    Calls Try.prog 14 #[.slice a n ca, .slice b m cb] w fun e w' => e = .returned (.agg #[.int .i64 (csC xs ys), .int .i64 (chA xs ys), .int .i64 (chS xs ys).c, .int .i64 (chS xs ys).b, .int .i64 (chS xs ys).m, .int .i64 (chS xs ys).g]) ∧ Below w.heap.size w w' := by
  have CC := Hid.mk (fun w h h' => implCommon_ok a b n ca m cb xs ys w h h' hn hm hc hx hd hy)
  have hnm : n ≤ maxLen := by omega
  by_cases h0 : csC xs ys = 0
  · obtain ⟨e1, e2⟩ := ch_some h0
    obtain ⟨e3, hne⟩ := cs_zero h0
    obtain ⟨r, e4, e5, hlt⟩ := cm_cons hne
    rw [e1, e2]
    rw [e3, e4] at CC
    simp only [h0] at CC
    have CP := Hid.mk (fun w h => placedIn_ok a n ca xs (xs.getD (fstC ys xs) zSuite) w h hn hnm)
    rw [e5] at CP
    rw [h0]
    generalize xs.getD (fstC ys xs) zSuite = z at *
    generalize (fstC ys xs : Int) = t at *
    have hk1 : (0 : Int) < (((z :: r).length : Nat) : Int) := by simp only [List.length_cons]; omega
    obtain ⟨k, hk⟩ : ∃ k, (z :: r).length = k := ⟨_, rfl⟩
    rw [hk] at CC hk1
    replace hk := Hid.mk hk
    clear h0 e1 e2 e3 e4 e5 hne hlt hx hc hn hy hd hm
    go_enter Try.func14, Try.ntmps14
    have B := Below.refl w.heap.size w
    replace ha := ha.kept (belowA w (.cells #[.int .i64 0, .int .i64 0, .int .i64 0, .int .i64 0, .int .i64 0, .int .i64 0] 30))
    replace hb := hb.kept (belowA w (.cells #[.int .i64 0, .int .i64 0, .int .i64 0, .int .i64 0, .int .i64 0, .int .i64 0] 30))
    replace B := thenB B (belowA w (.cells #[.int .i64 0, .int .i64 0, .int .i64 0, .int .i64 0, .int .i64 0, .int .i64 0] 30))
    have VR := V.new w [.int .i64 0, .int .i64 0, .int .i64 0, .int .i64 0, .int .i64 0, .int .i64 0] 30
    obtain ⟨s_VR, f_VR, z_VR⟩ := VR.open
    have Bo := B
    go_wp2_with fail
    refine (CC.out _ ha hb).mono ?_
    rintro e w1 ⟨c, d, rfl, o, b1⟩
    clear s_VR f_VR z_VR
    have S1 := b1.size
    simp only [World.size_alloc] at S1
    replace VR := VR.kept b1
    replace ha := ha.kept b1
    replace hb := hb.kept b1
    replace B := thenB B b1
    clear b1
    obtain ⟨s_VR, f_VR, z_VR⟩ := VR.open
    have Bo := B
    replace VR := VR.kept (belowA w1 (.cells #[.int .i64 0, .slice c k d] 33))
    replace ha := ha.kept (belowA w1 (.cells #[.int .i64 0, .slice c k d] 33))
    replace hb := hb.kept (belowA w1 (.cells #[.int .i64 0, .slice c k d] 33))
    replace o := o.kept (belowA w1 (.cells #[.int .i64 0, .slice c k d] 33))
    replace B := thenB B (belowA w1 (.cells #[.int .i64 0, .slice c k d] 33))
    have VC := V.new w1 [.int .i64 0, .slice c k d] 33
    clear s_VR f_VR z_VR
    obtain ⟨s_VR, f_VR, z_VR⟩ := VR.open
    obtain ⟨s_VC, f_VC, z_VC⟩ := VC.open
    have Bo := B
    have OR := o.rd
    obtain ⟨gb, go, rfl⟩ := OR.addr (by simp)
    obtain ⟨p0, p1, p2, p3⟩ := OR.at 0 (by simp) z (by rfl)
    simp only [Nat.zero_mul, Nat.add_zero] at p0 p1 p2 p3
    clear OR
    go_wp2_with fail
    refine (CP.out _ ha).mono ?_
    rintro e w2 ⟨rfl, b2⟩
    clear s_VR f_VR z_VR s_VC f_VC z_VC
    have S2 := b2.size
    simp only [World.size_alloc] at S2
    replace VR := VR.kept b2
    replace VC := VC.kept b2
    replace ha := ha.kept b2
    replace hb := hb.kept b2
    replace o := o.kept b2
    replace B := thenB B b2
    clear b2
    obtain ⟨s_VR, f_VR, z_VR⟩ := VR.open
    obtain ⟨s_VC, f_VC, z_VC⟩ := VC.open
    have Bo := B
    clear s_VR f_VR z_VR s_VC f_VC z_VC
    have VF := Hid.mk (VR.filled [.int .i64 0, .int .i64 t, .int .i64 z.c, .int .i64 z.b, .int .i64 z.m, .int .i64 z.g] rfl)
    have BR := belowCells B (show w.heap.size ≤ w.heap.size by (first | omega | (simp; done) | (simp; omega))) 0 [.int .i64 0, .int .i64 t, .int .i64 z.c, .int .i64 z.b, .int .i64 z.m, .int .i64 z.g]
    have HT := Hid.mk VR.there
    replace BR := Hid.mk BR
    clear p0 p1 p2 p3
    obtain ⟨s_VR, f_VR, z_VR⟩ := VR.open
    obtain ⟨s_VC, f_VC, z_VC⟩ := VC.open
    go_wp2_with (refine wpList_store_mid rfl 30 _ _ rfl (w.heap.size) 0 #[.int .i64 0, .int .i64 t, .int .i64 z.c, .int .i64 z.b, .int .i64 z.m, .int .i64 z.g] rfl rfl HT.out (by kernel_rfl) (by kernel_rfl) ?_)
    refine bodyPost_ret (v := .agg #[.int .i64 0, .int .i64 t, .int .i64 z.c, .int .i64 z.b, .int .i64 z.m, .int .i64 z.g]) (results_row Try.results14 _ _ (w.heap.size) [.int .i64 0, .int .i64 t, .int .i64 z.c, .int .i64 z.b, .int .i64 z.m, .int .i64 z.g] _ rfl VF.out Try.underlying30 rfl (by kernel_rfl)) rfl ⟨rfl, BR.out⟩
  · obtain ⟨e1, e2⟩ := ch_none h0
    rw [e1, e2]
    have hne : (csC xs ys != 0) = true := by simp [h0]
    have hk : ∃ k, (csL xs ys).length = k := ⟨_, rfl⟩
    obtain ⟨k, hk⟩ := hk
    rw [hk] at CC
    generalize csC xs ys = kc at *
    replace hk := Hid.mk hk
    clear h0 e1 e2 hx hc hn hy hd hm
    go_enter Try.func14, Try.ntmps14
    have B := Below.refl w.heap.size w
    replace ha := ha.kept (belowA w (.cells #[.int .i64 0, .int .i64 0, .int .i64 0, .int .i64 0, .int .i64 0, .int .i64 0] 30))
    replace hb := hb.kept (belowA w (.cells #[.int .i64 0, .int .i64 0, .int .i64 0, .int .i64 0, .int .i64 0, .int .i64 0] 30))
    replace B := thenB B (belowA w (.cells #[.int .i64 0, .int .i64 0, .int .i64 0, .int .i64 0, .int .i64 0, .int .i64 0] 30))
    have VR := V.new w [.int .i64 0, .int .i64 0, .int .i64 0, .int .i64 0, .int .i64 0, .int .i64 0] 30
    obtain ⟨s_VR, f_VR, z_VR⟩ := VR.open
    have Bo := B
    go_wp2_with fail
    refine (CC.out _ ha hb).mono ?_
    rintro e w1 ⟨c, d, rfl, o, b1⟩
    clear s_VR f_VR z_VR
    have S1 := b1.size
    simp only [World.size_alloc] at S1
    replace VR := VR.kept b1
    replace ha := ha.kept b1
    replace hb := hb.kept b1
    replace B := thenB B b1
    clear b1
    obtain ⟨s_VR, f_VR, z_VR⟩ := VR.open
    have Bo := B
    replace VR := VR.kept (belowA w1 (.cells #[.int .i64 kc, .slice c k d] 33))
    replace ha := ha.kept (belowA w1 (.cells #[.int .i64 kc, .slice c k d] 33))
    replace hb := hb.kept (belowA w1 (.cells #[.int .i64 kc, .slice c k d] 33))
    replace o := o.kept (belowA w1 (.cells #[.int .i64 kc, .slice c k d] 33))
    replace B := thenB B (belowA w1 (.cells #[.int .i64 kc, .slice c k d] 33))
    have VC := V.new w1 [.int .i64 kc, .slice c k d] 33
    clear s_VR f_VR z_VR
    obtain ⟨s_VR, f_VR, z_VR⟩ := VR.open
    obtain ⟨s_VC, f_VC, z_VC⟩ := VC.open
    have Bo := B
    clear s_VR f_VR z_VR s_VC f_VC z_VC
    have VF := Hid.mk (VR.filled [.int .i64 kc, .int .i64 0, .int .i64 0, .int .i64 0, .int .i64 0, .int .i64 0] rfl)
    have BR := belowCells B (show w.heap.size ≤ w.heap.size by (first | omega | (simp; done) | (simp; omega))) 0 [.int .i64 kc, .int .i64 0, .int .i64 0, .int .i64 0, .int .i64 0, .int .i64 0]
    have HT := Hid.mk VR.there
    replace BR := Hid.mk BR
    obtain ⟨s_VR, f_VR, z_VR⟩ := VR.open
    obtain ⟨s_VC, f_VC, z_VC⟩ := VC.open
    go_wp2_with (refine wpList_store_mid rfl 30 _ _ rfl (w.heap.size) 0 #[.int .i64 kc, .int .i64 0, .int .i64 0, .int .i64 0, .int .i64 0, .int .i64 0] rfl rfl HT.out (by kernel_rfl) (by kernel_rfl) ?_)
    refine bodyPost_ret (v := .agg #[.int .i64 kc, .int .i64 0, .int .i64 0, .int .i64 0, .int .i64 0, .int .i64 0]) (results_row Try.results14 _ _ (w.heap.size) [.int .i64 kc, .int .i64 0, .int .i64 0, .int .i64 0, .int .i64 0, .int .i64 0] _ rfl VF.out Try.underlying30 rfl (by kernel_rfl)) rfl ⟨rfl, BR.out⟩

set_option maxRecDepth 20000 in
set_option maxHeartbeats 8000000 in
theorem specChoose_ok (a b : Option Addr) (n ca m cb : Nat) (xs ys : List Su) (w : World) (ha : RdSuite w a xs) (hb : RdSuite w b ys) (hn : xs.length = n) (hm : ys.length = m) (hc : n ≤ ca) (hx : ca ≤ maxLen) (hd : m ≤ cb) (hy : cb ≤ maxLen) :
    Calls Try.prog 16 #[.slice a n ca, .slice b m cb] w fun e w' => e = .returned (.agg #[.int .i64 (csC xs ys), .int .i64 (chA xs ys), .int .i64 (chS xs ys).c, .int .i64 (chS xs ys).b, .int .i64 (chS xs ys).m, .int .i64 (chS xs ys).g]) ∧ Below w.heap.size w w' := by
  have CA := Hid.mk (fun w h h' => l8Asked_ok a b n ca m cb xs ys w h h' hn hm hc hx hd hy)
  rcases akS_ways xs ys with ⟨h0, eC, _, eA, eS⟩ | ⟨h0, hn10, hm10, eC, eL⟩
  · have hne : (akS xs ys != 0) = true := by simp [h0]
    rw [eC, eA, eS]
    generalize akS xs ys = kc at *
    clear h0 eC eA eS hx hc hn hy hd hm
    go_enter Try.func16, Try.ntmps16
    have B := Below.refl w.heap.size w
    replace ha := ha.kept (belowA w (.cells #[.int .i64 0, .int .i64 0, .int .i64 0, .int .i64 0, .int .i64 0, .int .i64 0] 30))
    replace hb := hb.kept (belowA w (.cells #[.int .i64 0, .int .i64 0, .int .i64 0, .int .i64 0, .int .i64 0, .int .i64 0] 30))
    replace B := thenB B (belowA w (.cells #[.int .i64 0, .int .i64 0, .int .i64 0, .int .i64 0, .int .i64 0, .int .i64 0] 30))
    have VR := V.new w [.int .i64 0, .int .i64 0, .int .i64 0, .int .i64 0, .int .i64 0, .int .i64 0] 30
    obtain ⟨s_VR, f_VR, z_VR⟩ := VR.open
    have Bo := B
    go_wp2_with fail
    refine (CA.out _ ha hb).mono ?_
    rintro e w1 ⟨rfl, b1⟩
    clear s_VR f_VR z_VR
    have S1 := b1.size
    simp only [World.size_alloc] at S1
    replace VR := VR.kept b1
    replace ha := ha.kept b1
    replace hb := hb.kept b1
    replace B := thenB B b1
    clear b1
    obtain ⟨s_VR, f_VR, z_VR⟩ := VR.open
    have Bo := B
    clear s_VR f_VR z_VR
    have VF := Hid.mk (VR.filled [.int .i64 kc, .int .i64 0, .int .i64 0, .int .i64 0, .int .i64 0, .int .i64 0] rfl)
    have BR := belowCells B (show w.heap.size ≤ w.heap.size by (first | omega | (simp; done) | (simp; omega))) 0 [.int .i64 kc, .int .i64 0, .int .i64 0, .int .i64 0, .int .i64 0, .int .i64 0]
    have HT := Hid.mk VR.there
    replace BR := Hid.mk BR
    obtain ⟨s_VR, f_VR, z_VR⟩ := VR.open
    go_wp2_with (refine wpList_store_mid rfl 30 _ _ rfl (w.heap.size) 0 #[.int .i64 kc, .int .i64 0, .int .i64 0, .int .i64 0, .int .i64 0, .int .i64 0] rfl rfl HT.out (by kernel_rfl) (by kernel_rfl) ?_)
    refine bodyPost_ret (v := .agg #[.int .i64 kc, .int .i64 0, .int .i64 0, .int .i64 0, .int .i64 0, .int .i64 0]) (results_row Try.results16 _ _ (w.heap.size) [.int .i64 kc, .int .i64 0, .int .i64 0, .int .i64 0, .int .i64 0, .int .i64 0] _ rfl VF.out Try.underlying30 rfl (by kernel_rfl)) rfl ⟨rfl, BR.out⟩
  · rw [hn] at hn10
    rw [hm] at hm10
    have hm10' : m ≤ maxLen := by unfold maxLen; omega
    rw [h0] at CA
    have HX := Hid.mk ha
    have HY := Hid.mk hb
    replace eC := Hid.mk eC
    clear h0 eL
    go_enter Try.func16, Try.ntmps16
    have B := Below.refl w.heap.size w
    replace ha := ha.kept (belowA w (.cells #[.int .i64 0, .int .i64 0, .int .i64 0, .int .i64 0, .int .i64 0, .int .i64 0] 30))
    replace hb := hb.kept (belowA w (.cells #[.int .i64 0, .int .i64 0, .int .i64 0, .int .i64 0, .int .i64 0, .int .i64 0] 30))
    replace B := thenB B (belowA w (.cells #[.int .i64 0, .int .i64 0, .int .i64 0, .int .i64 0, .int .i64 0, .int .i64 0] 30))
    have VR := V.new w [.int .i64 0, .int .i64 0, .int .i64 0, .int .i64 0, .int .i64 0, .int .i64 0] 30
    obtain ⟨s_VR, f_VR, z_VR⟩ := VR.open
    have Bo := B
    go_wp2_with fail
    refine (CA.out _ ha hb).mono ?_
    rintro e w1 ⟨rfl, b1⟩
    clear s_VR f_VR z_VR
    have S1 := b1.size
    simp only [World.size_alloc] at S1
    replace VR := VR.kept b1
    replace ha := ha.kept b1
    replace hb := hb.kept b1
    replace B := thenB B b1
    clear b1
    obtain ⟨s_VR, f_VR, z_VR⟩ := VR.open
    have Bo := B
    clear s_VR f_VR z_VR
    clear ha hb CA Bo
    go_wp2
    go_loopw [6] (fun i wr => ∃ k : Nat, k ≤ n ∧ i = .int .i64 k ∧ fstC ys (xs.drop k) + k = fstC ys xs ∧ V wr w.heap.size [.int .i64 0, .int .i64 0, .int .i64 0, .int .i64 0, .int .i64 0, .int .i64 0] ∧ Below w.heap.size w wr) (fun i _ => n - (intOf i).toNat)
    case atStart => exact ⟨0, Nat.zero_le _, rfl, rfl, VR, B⟩
    case round =>
      clear VR B
      obtain ⟨k, hk, rfl, hf, VR, B⟩ := hrel
      by_cases hlt : k < n
      · obtain ⟨z, hz⟩ : ∃ z, xs.getD k zSuite = z := ⟨_, rfl⟩
        have hki : (k : Int) < (n : Int) := by omega
        have ha := HX.out.kept B
        have hb := HY.out.kept B
        have hst := fstC_drop xs ys k (by omega) hz
        have HZ := Hid.mk hz
        rcases ha with ha | ⟨b1, o1, rfl, hca⟩
        · rw [ha] at hn; simp at hn; omega
        obtain ⟨p0, p1, p2, p3⟩ := RdSuite.cells hca k (by omega) z hz
        have CC := Hid.mk (fun w h => l8Has_ok b m cb ys z w h hm hm10')
        have hkn := hlt
        clear hca hz hlt
        cases hg : hasSu ys z
        · simp only [hg] at CC
          rw [hg, if_neg (by simp)] at hst
          clear hg
          have hf2 := Hid.mk (show fstC ys (xs.drop (k + 1)) + (k + 1) = fstC ys xs by omega)
          clear hf hst
          obtain ⟨s_VR, f_VR, z_VR⟩ := VR.open
          go_wp2_with fail
          refine (CC.out _ hb).mono ?_
          rintro e w41 ⟨rfl, b41⟩
          clear s_VR f_VR z_VR
          have S41 := b41.size
          replace VR := VR.kept b41
          replace B := thenB B b41
          clear b41
          obtain ⟨s_VR, f_VR, z_VR⟩ := VR.open
          have Bo := B
          clear hb CC p0 p1 p2 p3
          replace B := Hid.mk B
          clear Bo
          go_wp2
          go_roundw
          case rel => exact ⟨k + 1, by omega, by go_num, hf2.out, VR, B.out⟩
          case measure => simp [intOf]; omega
        · simp only [hg] at CC
          rw [hg, if_pos rfl] at hst
          clear hg
          have hfk : fstC ys xs = k := by omega
          have hcm : cmL xs ys ≠ [] := by rw [Ne, ← fstC_none]; omega
          have hC0 : csC xs ys = 0 := by rw [eC.out, if_neg hcm]
          obtain ⟨e1, e2⟩ := ch_some hC0
          rw [hfk] at e1
          rw [hfk, HZ.out] at e2
          have E0 := Hid.mk hC0
          have E1 := Hid.mk e1
          have E2 := Hid.mk e2
          clear hf hst hfk hcm hC0 e1 e2
          obtain ⟨s_VR, f_VR, z_VR⟩ := VR.open
          go_wp2_with fail
          refine (CC.out _ hb).mono ?_
          rintro e w71 ⟨rfl, b71⟩
          clear s_VR f_VR z_VR
          have S71 := b71.size
          replace VR := VR.kept b71
          replace B := thenB B b71
          clear b71
          obtain ⟨s_VR, f_VR, z_VR⟩ := VR.open
          have Bo := B
          clear hb CC p0 p1 p2 p3
          obtain ⟨p0, p1, p2, p3⟩ := (HX.out.kept Bo).at k (by omega) z HZ.out
          clear s_VR f_VR z_VR
          have VF := Hid.mk (VR.filled [.int .i64 0, .int .i64 (k : Int), .int .i64 z.c, .int .i64 z.b, .int .i64 z.m, .int .i64 z.g] rfl)
          have BR := belowCells B (show w.heap.size ≤ w.heap.size by (first | omega | (simp; done) | (simp; omega))) 0 [.int .i64 0, .int .i64 (k : Int), .int .i64 z.c, .int .i64 z.b, .int .i64 z.m, .int .i64 z.g]
          have HT := Hid.mk VR.there
          replace BR := Hid.mk BR
          obtain ⟨s_VR, f_VR, z_VR⟩ := VR.open
          go_wp2_with (refine wpList_store_mid rfl 30 _ _ rfl (w.heap.size) 0 #[.int .i64 0, .int .i64 (k : Int), .int .i64 z.c, .int .i64 z.b, .int .i64 z.m, .int .i64 z.g] rfl rfl HT.out (by kernel_rfl) (by kernel_rfl) ?_)
          refine bodyPost_ret (v := .agg #[.int .i64 0, .int .i64 (k : Int), .int .i64 z.c, .int .i64 z.b, .int .i64 z.m, .int .i64 z.g]) (results_row Try.results16 _ _ (w.heap.size) [.int .i64 0, .int .i64 (k : Int), .int .i64 z.c, .int .i64 z.b, .int .i64 z.m, .int .i64 z.g] _ rfl VF.out Try.underlying30 rfl (by kernel_rfl)) rfl ⟨by rw [E0.out, E1.out, E2.out], BR.out⟩
      · have hkn : k = n := by omega
        subst hkn
        rw [List.drop_of_length_le (by omega)] at hf
        have hcm : cmL xs ys = [] := fstC_none.1 (by rw [← hf, hn]; simp [fstC])
        have hC4 : csC xs ys = 4 := by rw [eC.out, if_pos hcm]
        obtain ⟨e1, e2⟩ := ch_none (xs := xs) (ys := ys) (by rw [hC4]; decide)
        have E0 := Hid.mk hC4
        have E1 := Hid.mk e1
        have E2 := Hid.mk e2
        clear hf hcm hC4 e1 e2
        have VF := Hid.mk (VR.filled [.int .i64 4, .int .i64 0, .int .i64 0, .int .i64 0, .int .i64 0, .int .i64 0] rfl)
        have BR := belowCells B (show w.heap.size ≤ w.heap.size by (first | omega | (simp; done) | (simp; omega))) 0 [.int .i64 4, .int .i64 0, .int .i64 0, .int .i64 0, .int .i64 0, .int .i64 0]
        have HT := Hid.mk VR.there
        replace BR := Hid.mk BR
        obtain ⟨s_VR, f_VR, z_VR⟩ := VR.open
        go_wp2_with (refine wpList_store_mid rfl 30 _ _ rfl (w.heap.size) 0 #[.int .i64 4, .int .i64 0, .int .i64 0, .int .i64 0, .int .i64 0, .int .i64 0] rfl rfl HT.out (by kernel_rfl) (by kernel_rfl) ?_)
        refine bodyPost_ret (v := .agg #[.int .i64 4, .int .i64 0, .int .i64 0, .int .i64 0, .int .i64 0, .int .i64 0]) (results_row Try.results16 _ _ (w.heap.size) [.int .i64 4, .int .i64 0, .int .i64 0, .int .i64 0, .int .i64 0, .int .i64 0] _ rfl VF.out Try.underlying30 rfl (by kernel_rfl)) rfl ⟨by rw [E0.out, E1.out, E2.out]; rfl, BR.out⟩

end Go.Proofs.Ythaaompkcomfcaa
