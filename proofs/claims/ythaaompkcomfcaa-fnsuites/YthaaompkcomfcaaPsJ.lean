/- What two lists of suites have in common (the model); the suite that is chosen: program and model. -/
import Derived.Test.YthaaompkcomfcaaPsI
namespace Go.Proofs.Ythaaompkcomfcaa
open Go.RowKit

theorem akS_ways (xs ys : List Su) : (akS xs ys ≠ 0 ∧ csC xs ys = akS xs ys ∧ csL xs ys = [] ∧ chA xs ys = 0 ∧ chS xs ys = zSuite) ∨ (akS xs ys = 0 ∧ xs.length ≤ 10 ∧ ys.length ≤ 10 ∧ csC xs ys = (if cmL xs ys = [] then 4 else 0) ∧ csL xs ys = cmL xs ys) := by
  unfold akS
  by_cases h0 : ssF xs = 0
  · by_cases h1 : ssF ys = 0
    · right
      rw [if_pos h0]
      refine ⟨h1, (ssF_ok h0).2.1, (ssF_ok h1).2.1, ?_, ?_⟩
      · simp [csC, h0, h1]
      · simp [csL, h0, h1]
    · left
      rw [if_pos h0]
      have e : csC xs ys = ssF ys := by simp [csC, h0, h1]
      exact ⟨h1, e, by simp [csL, h0, h1], by unfold chA; rw [if_neg (by rw [e]; exact h1)], by unfold chS; rw [if_neg (by rw [e]; exact h1)]⟩
  · left
    rw [if_neg h0]
    have e : csC xs ys = ssF xs := by simp [csC, h0]
    exact ⟨h0, e, by simp [csL, h0], by unfold chA; rw [if_neg (by rw [e]; exact h0)], by unfold chS; rw [if_neg (by rw [e]; exact h0)]⟩

set_option maxRecDepth 20000 in
set_option maxHeartbeats 8000000 in
theorem specCommon_ok (a b : Option Addr) (n ca m cb : Nat) (xs ys : List Su) (w : World) (ha : RdSuite w a xs) (hb : RdSuite w b ys) (hn : xs.length = n) (hm : ys.length = m) (hc : n ≤ ca) (hx : ca ≤ maxLen) (hd : m ≤ cb) (hy : cb ≤ maxLen) :
    Calls Try.prog 30 #[.slice a n ca, .slice b m cb] w fun e w' => ∃ (c : Option Addr) (d : Nat), e = .returned (.agg #[.int .i64 (csC xs ys), .slice c (csL xs ys).length d]) ∧ OwnSuite w' w.heap.size c d (csL xs ys) ∧ Below w.heap.size w w' := by
  have CA := Hid.mk (fun w h h' => l8Asked_ok a b n ca m cb xs ys w h h' hn hm hc hx hd hy)
  rcases akS_ways xs ys with ⟨h0, eC, eL, _, _⟩ | ⟨h0, hn10, hm10, eC, eL⟩
  · have hne : (akS xs ys != 0) = true := by simp [h0]
    replace eC := Hid.mk eC
    replace eL := Hid.mk eL
    generalize akS xs ys = kc at *
    clear h0 hx hc hn hy hd hm
    go_enter Try.func30, Try.ntmps30
    have B := Below.refl w.heap.size w
    replace ha := ha.kept (belowA w (.cells #[.int .i64 0, .slice none 0 0] 33))
    replace hb := hb.kept (belowA w (.cells #[.int .i64 0, .slice none 0 0] 33))
    replace B := thenB B (belowA w (.cells #[.int .i64 0, .slice none 0 0] 33))
    have VR := V.new w [.int .i64 0, .slice none 0 0] 33
    obtain ⟨s_VR, f_VR, z_VR⟩ := VR.open
    have Bo := B
    go_wp2_with fail
    refine (CA.out _ ha hb).mono ?_
    rintro e w1 ⟨rfl, b1⟩
    clear s_VR f_VR z_VR
    have S1 := b1.size
    simp only [World.size_alloc] at S1
    replace VR := VR.kept b1
    replace ha := ha.kept b1
    replace hb := hb.kept b1
    replace B := thenB B b1
    clear b1
    obtain ⟨s_VR, f_VR, z_VR⟩ := VR.open
    have Bo := B
    clear s_VR f_VR z_VR
    have VF := Hid.mk (VR.filled [.int .i64 kc, .slice none 0 0] rfl)
    have BR := belowCells B (show w.heap.size ≤ w.heap.size by (first | omega | (simp; done) | (simp; omega))) 0 [.int .i64 kc, .slice none 0 0]
    have HT := Hid.mk VR.there
    replace BR := Hid.mk BR
    obtain ⟨s_VR, f_VR, z_VR⟩ := VR.open
    go_wp2_with (refine wpList_store_mid rfl 33 _ _ rfl (w.heap.size) 0 #[.int .i64 kc, .slice none 0 0] rfl rfl HT.out (by kernel_rfl) (by kernel_rfl) ?_)
    refine bodyPost_ret (v := .agg #[.int .i64 kc, .slice none 0 0]) (results_row Try.results30 _ _ (w.heap.size) [.int .i64 kc, .slice none 0 0] _ rfl VF.out Try.underlying33 rfl (by kernel_rfl)) rfl ⟨none, 0, by rw [eC.out, eL.out]; rfl, by rw [eL.out]; exact OwnSuite.none, BR.out⟩
  · rw [hn] at hn10
    rw [hm] at hm10
    have hm10' : m ≤ maxLen := by unfold maxLen; omega
    rw [h0] at CA
    have HX := Hid.mk ha
    have HY := Hid.mk hb
    clear h0
    go_enter Try.func30, Try.ntmps30
    have B := Below.refl w.heap.size w
    replace ha := ha.kept (belowA w (.cells #[.int .i64 0, .slice none 0 0] 33))
    replace hb := hb.kept (belowA w (.cells #[.int .i64 0, .slice none 0 0] 33))
    replace B := thenB B (belowA w (.cells #[.int .i64 0, .slice none 0 0] 33))
    have VR := V.new w [.int .i64 0, .slice none 0 0] 33
    obtain ⟨s_VR, f_VR, z_VR⟩ := VR.open
    have Bo := B
    go_wp2_with fail
    refine (CA.out _ ha hb).mono ?_
    rintro e w1 ⟨rfl, b1⟩
    clear s_VR f_VR z_VR
    have S1 := b1.size
    simp only [World.size_alloc] at S1
    replace VR := VR.kept b1
    replace ha := ha.kept b1
    replace hb := hb.kept b1
    replace B := thenB B b1
    clear b1
    obtain ⟨s_VR, f_VR, z_VR⟩ := VR.open
    have Bo := B
    clear ha hb CA Bo
    replace VR := VR.kept (belowA w1 (.cells #[.int .i64 0, .slice none 0 0] 33))
    replace B := thenB B (belowA w1 (.cells #[.int .i64 0, .slice none 0 0] 33))
    have VO := V.new w1 [.int .i64 0, .slice none 0 0] 33
    clear s_VR f_VR z_VR
    have hVR := VR.1
    have HB := Hid.mk B
    replace VR := Hid.mk VR
    have hsz : w.heap.size + 1 ≤ w1.heap.size := by omega
    obtain ⟨s_VO, f_VO, z_VO⟩ := VO.open
    have hT := Hid.mk VO.there
    have VF := VO.filled [.int .i64 0, .slice none 0 0] rfl
    have VR1 := VR.out.apart (B := w1.heap.size) (by omega) 0 [.int .i64 0, .slice none 0 0]
    have B1 := belowCells HB.out (show w.heap.size ≤ w1.heap.size by omega) 0 [.int .i64 0, .slice none 0 0]
    obtain ⟨w6, hw6⟩ : ∃ w6, (w1.alloc (.cells #[.int .i64 0, .slice none 0 0] 33)).setCells w1.heap.size 0 [.int .i64 0, .slice none 0 0] = w6 := ⟨_, rfl⟩
    rw [hw6] at VF VR1 B1
    replace hw6 := Hid.mk hw6
    replace VF := Hid.mk VF
    replace VR1 := Hid.mk VR1
    replace B1 := Hid.mk B1
    clear VO HB VR B
    go_upto_region 4 with (refine wpList_stroke w6 rfl 33 _ _ rfl (w1.heap.size) 0 #[.int .i64 0, .slice none 0 0] rfl rfl hT.out (by kernel_rfl) (by kernel_rfl) hw6.out ?_)
    go_upto_region 5 with (refine wpList_stroke w6 rfl 33 _ _ rfl (w1.heap.size) 0 #[.int .i64 0, .slice none 0 0] rfl rfl hT.out (by kernel_rfl) (by kernel_rfl) hw6.out ?_)
    clear s_VO f_VO z_VO hT hw6
    generalize hQ : w1.heap.size = Q at *
    go_wp2
    go_loopw [7] (fun i wr => ∃ (k d j : Nat) (c : Option Addr) (os : List Su), k ≤ n ∧ i = .int .i64 k ∧ cmL (xs.take k) ys = os ∧ os.length = j ∧ j ≤ k ∧ OwnSuite wr (Q + 1) c d os ∧ V wr w.heap.size [.int .i64 0, .slice none 0 0] ∧ V wr Q [.int .i64 0, .slice c j d] ∧ Below w.heap.size w wr) (fun i _ => n - (intOf i).toNat)
    case atStart => exact ⟨0, 0, 0, none, [], Nat.zero_le _, rfl, rfl, rfl, Nat.le_refl _, OwnSuite.none, VR1.out, VF.out, B1.out⟩
    case round =>
      clear VR1 VF B1
      obtain ⟨k, d, j, c, os, hk, rfl, hos, hj, hjk, O, VR, VO, B⟩ := hrel
      by_cases hlt : k < n
      · obtain ⟨z, hz⟩ : ∃ z, xs.getD k zSuite = z := ⟨_, rfl⟩
        have hki : (k : Int) < (n : Int) := by omega
        have ha := HX.out.kept B
        have hb := HY.out.kept B
        have hst := cmL_take xs ys k (by omega) hz
        rw [hos] at hst
        have HZ := Hid.mk hz
        rcases ha with ha | ⟨b1, o1, rfl, hca⟩
        · rw [ha] at hn; simp at hn; omega
        obtain ⟨p0, p1, p2, p3⟩ := RdSuite.cells hca k (by omega) z hz
        have CC := Hid.mk (fun w h => l8Has_ok b m cb ys z w h hm hm10')
        have HJ := Hid.mk hj
        have hOl := O.lt
        have F2 : Hid (∀ b : Addr, c = some b → b.block ≠ Q) := Hid.mk (fun b hb => by have := (hOl b hb).1; omega)
        have F3 : Hid (∀ b : Addr, c = some b → b.block ≠ w.heap.size) := Hid.mk (fun b hb => by have := (hOl b hb).1; omega)
        have hj10 : j ≤ 10 := by omega
        clear hca hz hlt hos hj hOl
        cases hg : hasSu ys z
        · simp only [hg] at CC
          rw [hg, if_neg (by simp)] at hst
          rw [List.append_nil] at hst
          clear hg
          have HS := Hid.mk hst
          clear hst
          obtain ⟨s_VR, f_VR, z_VR⟩ := VR.open
          obtain ⟨s_VO, f_VO, z_VO⟩ := VO.open
          go_wp2_with fail
          refine (CC.out _ hb).mono ?_
          rintro e w41 ⟨rfl, b41⟩
          clear s_VR f_VR z_VR s_VO f_VO z_VO
          have S41 := b41.size
          replace VR := VR.kept b41
          replace VO := VO.kept b41
          replace O := O.kept b41
          replace B := thenB B b41
          clear b41
          obtain ⟨s_VR, f_VR, z_VR⟩ := VR.open
          obtain ⟨s_VO, f_VO, z_VO⟩ := VO.open
          have Bo := B
          clear hb CC
          replace B := Hid.mk B
          replace O := Hid.mk O
          clear Bo
          go_wp2
          go_roundw
          case rel => exact ⟨k + 1, d, j, c, os, by omega, by go_num, HS.out, HJ.out, by omega, O.out, VR, VO, B.out⟩
          case measure => simp [intOf]; omega
        · simp only [hg] at CC
          rw [hg, if_pos rfl] at hst
          clear hg
          have HS := Hid.mk hst
          clear hst
          obtain ⟨s_VR, f_VR, z_VR⟩ := VR.open
          obtain ⟨s_VO, f_VO, z_VO⟩ := VO.open
          go_wp2_with fail
          refine (CC.out _ hb).mono ?_
          rintro e w71 ⟨rfl, b71⟩
          clear s_VR f_VR z_VR s_VO f_VO z_VO
          have S71 := b71.size
          replace VR := VR.kept b71
          replace VO := VO.kept b71
          replace O := O.kept b71
          replace B := thenB B b71
          clear b71
          obtain ⟨s_VR, f_VR, z_VR⟩ := VR.open
          obtain ⟨s_VO, f_VO, z_VO⟩ := VO.open
          have Bo := B
          clear hb CC
          clear s_VR f_VR z_VR s_VO f_VO z_VO Bo p0 p1 p2 p3
          go_upto_region 9 with fail
          refine wp_region_any (by kernel_rfl) ?_
          change wpAny _ _ _ _ _ _ _ w71.drew
          have bd : Below w71.heap.size w71 w71.drew := (Below.refl _ _).drew
          replace O := O.kept bd
          replace VR := VR.kept bd
          replace VO := VO.kept bd
          replace B := thenB B bd
          clear bd
          generalize w71.drew = wd at *
          obtain ⟨p0, p1, p2, p3⟩ := (HX.out.kept B).at k (by omega) z HZ.out
          have hVO := VO.1
          have hVR := VR.1
          refine wpAny_take (i := 0) (oi := _) (v := ?vtk0) rfl (by kernel_rfl) (by kernel_rfl) (by kernel_rfl) (fun _ _ _ h => h) (Or.inl ⟨by rfl, ?hytk0⟩) ?resttk0
          case hytk0 => (intro w; go_simp; first | done | with_reducible rfl)
          try simp only [Act.put, List.getElem_toArray, List.getElem_cons_zero, List.setIfInBounds_toArray, List.set_cons_zero, List.set_cons_succ]
          refine wpAny_take (i := 2) (oi := _) (v := ?vtk2) rfl (by kernel_rfl) (by kernel_rfl) (by kernel_rfl) (fun _ _ _ h => h) (Or.inl ⟨by rfl, ?hytk2⟩) ?resttk2
          case hytk2 => (intro w; go_simp; first | done | with_reducible rfl)
          try simp only [Act.put, List.getElem_toArray, List.getElem_cons_zero, List.getElem_cons_succ, List.setIfInBounds_toArray, List.set_cons_zero, List.set_cons_succ]
          refine wpAny_take (i := 3) (oi := _) (v := ?vtk3) rfl (by kernel_rfl) (by kernel_rfl) (by kernel_rfl) (fun _ _ _ h => h) (Or.inl ⟨by rfl, ?hytk3⟩) ?resttk3
          case hytk3 => (intro w; go_simp; first | done | with_reducible rfl)
          try simp only [Act.put, List.getElem_toArray, List.getElem_cons_zero, List.getElem_cons_succ, List.setIfInBounds_toArray, List.set_cons_zero, List.set_cons_succ]
          refine wpAny_take (i := 4) (oi := _) (v := ?vtk4) rfl (by kernel_rfl) (by kernel_rfl) (by kernel_rfl) (fun _ _ _ h => h) (Or.inl ⟨by rfl, ?hytk4⟩) ?resttk4
          case hytk4 => (intro w; go_simp; first | done | with_reducible rfl)
          try simp only [Act.put, List.getElem_toArray, List.getElem_cons_zero, List.getElem_cons_succ, List.setIfInBounds_toArray, List.set_cons_zero, List.set_cons_succ]
          refine wpAny_ready (rs := [1, 5]) (by kernel_rfl) (by simp) ?_
          refine AllReady.cons (o := _) rfl (fun K0 hK0 => ?_) (AllReady.cons (o := _) rfl (fun K0 hK0 => ?_) AllReady.nil)
          · skip
            obtain ⟨s_VO, f_VO, z_VO⟩ := VO.open
            go_simp
            refine hK0 _ _ ?_
            clear hK0 K0 s_VO f_VO z_VO
            try simp only [Act.put, List.getElem_toArray, List.getElem_cons_zero, List.getElem_cons_succ, List.setIfInBounds_toArray, List.set_cons_zero, List.set_cons_succ]
            refine wpAny_ready (rs := [5]) (by kernel_rfl) (by simp) ?_
            refine AllReady.cons (o := _) rfl (fun K0 hK0 => ?_) AllReady.nil
            go_simp
            refine hK0 _ _ ?_
            clear hK0 K0 p0 p1 p2 p3
            try simp only [Act.put, List.getElem_toArray, List.getElem_cons_zero, List.getElem_cons_succ, List.setIfInBounds_toArray, List.set_cons_zero, List.set_cons_succ]
            refine wpAny_ready (rs := [6]) (by kernel_rfl) (by simp) ?_
            refine AllReady.cons (o := _) rfl (fun K0 hK0 => ?_) AllReady.nil
            go_simp
            refine hK0 _ _ ?_
            clear hK0 K0
            try simp only [Act.put, List.getElem_toArray, List.getElem_cons_zero, List.getElem_cons_succ, List.setIfInBounds_toArray, List.set_cons_zero, List.set_cons_succ]
            have bq := belowA wd (.cells #[.int .i64 z.c, .int .i64 z.b, .int .i64 z.m, .int .i64 z.g] 28)
            have HNC := newCells wd 28 (rowSuite z)
            have hsq : (wd.alloc (.cells #[.int .i64 z.c, .int .i64 z.b, .int .i64 z.m, .int .i64 z.g] 28)).heap.size = wd.heap.size + 1 := by simp
            replace O := O.kept bq
            replace VR := VR.kept bq
            replace VO := VO.kept bq
            replace B := thenB B bq
            change ∀ j u, (rowSuite z)[j]? = some u → (wd.alloc (.cells #[.int .i64 z.c, .int .i64 z.b, .int .i64 z.m, .int .i64 z.g] 28)).cell? ((⟨wd.heap.size, 0, none⟩ : Addr).add j) = some u at HNC
            generalize wd.alloc (.cells #[.int .i64 z.c, .int .i64 z.b, .int .i64 z.m, .int .i64 z.g] 28) = wq at *
            replace HNC := Hid.mk HNC
            refine wpAny_ready (rs := [7]) (by kernel_rfl) (by simp) ?_
            refine AllReady.cons (o := _) rfl (fun K0 hK0 => ?_) AllReady.nil
            have OLT := Hid.mk O.lt
            have TL : Q + 1 ≤ wq.heap.size := by omega
            rw [if_pos (by rfl)]
            refine wp_putSuite _ _ _ rfl (Q + 1) c d os j HJ.out rfl O (⟨wd.heap.size, 0, none⟩) 1 z rfl HNC.out (by omega) TL ?_
            intro c4 d4 w4 O4 hg4 hx4
            have VO4 := VO.grownR hg4 (row_ne F2.out)
            have VR4 := VR.grownR hg4 (row_ne F3.out)
            have B4 := belowG B hg4 (by omega) (fun b hb => by have := (OLT.out b hb).1; omega)
            refine hK0 _ _ ?_
            clear hK0 K0 O VO VR B hg4 hx4 OLT TL HNC
            try simp only [Act.put, List.getElem_toArray, List.getElem_cons_zero, List.getElem_cons_succ, List.setIfInBounds_toArray, List.set_cons_zero, List.set_cons_succ]
            refine wpAny_take (i := 8) (oi := _) (v := ?vtz1) rfl (by kernel_rfl) (by kernel_rfl) (by kernel_rfl) (fun _ _ _ h => h) (Or.inl ⟨by rfl, ?hytz1⟩) ?resttz1
            case hytz1 => (intro w; go_simp; first | done | with_reducible rfl)
            try simp only [Act.put, List.getElem_toArray, List.getElem_cons_zero, List.getElem_cons_succ, List.setIfInBounds_toArray, List.set_cons_zero, List.set_cons_succ]
            refine wpAny_ready (rs := [9]) (by kernel_rfl) (by simp) ?_
            refine AllReady.cons (o := _) rfl (fun K0 hK0 => ?_) AllReady.nil
            obtain ⟨s_VO, f_VO, z_VO⟩ := VO4.open
            go_simp
            refine hK0 _ _ ?_
            clear hK0 K0 s_VO f_VO z_VO
            refine wpAny_done (by kernel_rfl) ?_ _
            have VO5 := VO4.set (i := 1) (by simp) (.slice c4 (j + 1) d4)
            simp only [List.set_cons_zero, List.set_cons_succ] at VO5
            have O6 := Hid.mk (O4.below (p := ⟨Q, 1, none⟩) (Nat.lt_succ_self _) (.slice c4 (j + 1) d4))
            have VR6 := Hid.mk (VR4.other (p := ⟨Q, 1, none⟩) (by simp only; omega) (.slice c4 (j + 1) d4))
            have B6 := Hid.mk (B4.setCell (p := ⟨Q, 1, none⟩) (by simp only; omega) (.slice c4 (j + 1) d4))
            have VO6 := Hid.mk VO5
            have hl6 : Hid ((os ++ [z]).length = j + 1) := Hid.mk (by rw [List.length_append, HJ.out]; rfl)
            clear VO5 O4 VR4 B4 VO4
            go_wp2
            go_roundw
            case rel => exact ⟨k + 1, d4, j + 1, c4, os ++ [z], by omega, by go_num, HS.out, hl6.out, by omega, O6.out, VR6.out, VO6.out, B6.out⟩
            case measure => simp [intOf]; omega
          · skip
            go_simp
            refine hK0 _ _ ?_
            clear hK0 K0 p0 p1 p2 p3
            try simp only [Act.put, List.getElem_toArray, List.getElem_cons_zero, List.getElem_cons_succ, List.setIfInBounds_toArray, List.set_cons_zero, List.set_cons_succ]
            refine wpAny_ready (rs := [1, 6]) (by kernel_rfl) (by simp) ?_
            refine AllReady.cons (o := _) rfl (fun K0 hK0 => ?_) (AllReady.cons (o := _) rfl (fun K0 hK0 => ?_) AllReady.nil)
            · skip
              obtain ⟨s_VO, f_VO, z_VO⟩ := VO.open
              go_simp
              refine hK0 _ _ ?_
              clear hK0 K0 s_VO f_VO z_VO
              try simp only [Act.put, List.getElem_toArray, List.getElem_cons_zero, List.getElem_cons_succ, List.setIfInBounds_toArray, List.set_cons_zero, List.set_cons_succ]
              refine wpAny_ready (rs := [6]) (by kernel_rfl) (by simp) ?_
              refine AllReady.cons (o := _) rfl (fun K0 hK0 => ?_) AllReady.nil
              go_simp
              refine hK0 _ _ ?_
              clear hK0 K0
              try simp only [Act.put, List.getElem_toArray, List.getElem_cons_zero, List.getElem_cons_succ, List.setIfInBounds_toArray, List.set_cons_zero, List.set_cons_succ]
              have bq := belowA wd (.cells #[.int .i64 z.c, .int .i64 z.b, .int .i64 z.m, .int .i64 z.g] 28)
              have HNC := newCells wd 28 (rowSuite z)
              have hsq : (wd.alloc (.cells #[.int .i64 z.c, .int .i64 z.b, .int .i64 z.m, .int .i64 z.g] 28)).heap.size = wd.heap.size + 1 := by simp
              replace O := O.kept bq
              replace VR := VR.kept bq
              replace VO := VO.kept bq
              replace B := thenB B bq
              change ∀ j u, (rowSuite z)[j]? = some u → (wd.alloc (.cells #[.int .i64 z.c, .int .i64 z.b, .int .i64 z.m, .int .i64 z.g] 28)).cell? ((⟨wd.heap.size, 0, none⟩ : Addr).add j) = some u at HNC
              generalize wd.alloc (.cells #[.int .i64 z.c, .int .i64 z.b, .int .i64 z.m, .int .i64 z.g] 28) = wq at *
              replace HNC := Hid.mk HNC
              refine wpAny_ready (rs := [7]) (by kernel_rfl) (by simp) ?_
              refine AllReady.cons (o := _) rfl (fun K0 hK0 => ?_) AllReady.nil
              have OLT := Hid.mk O.lt
              have TL : Q + 1 ≤ wq.heap.size := by omega
              rw [if_pos (by rfl)]
              refine wp_putSuite _ _ _ rfl (Q + 1) c d os j HJ.out rfl O (⟨wd.heap.size, 0, none⟩) 1 z rfl HNC.out (by omega) TL ?_
              intro c4 d4 w4 O4 hg4 hx4
              have VO4 := VO.grownR hg4 (row_ne F2.out)
              have VR4 := VR.grownR hg4 (row_ne F3.out)
              have B4 := belowG B hg4 (by omega) (fun b hb => by have := (OLT.out b hb).1; omega)
              refine hK0 _ _ ?_
              clear hK0 K0 O VO VR B hg4 hx4 OLT TL HNC
              try simp only [Act.put, List.getElem_toArray, List.getElem_cons_zero, List.getElem_cons_succ, List.setIfInBounds_toArray, List.set_cons_zero, List.set_cons_succ]
              refine wpAny_take (i := 8) (oi := _) (v := ?vtz2) rfl (by kernel_rfl) (by kernel_rfl) (by kernel_rfl) (fun _ _ _ h => h) (Or.inl ⟨by rfl, ?hytz2⟩) ?resttz2
              case hytz2 => (intro w; go_simp; first | done | with_reducible rfl)
              try simp only [Act.put, List.getElem_toArray, List.getElem_cons_zero, List.getElem_cons_succ, List.setIfInBounds_toArray, List.set_cons_zero, List.set_cons_succ]
              refine wpAny_ready (rs := [9]) (by kernel_rfl) (by simp) ?_
              refine AllReady.cons (o := _) rfl (fun K0 hK0 => ?_) AllReady.nil
              obtain ⟨s_VO, f_VO, z_VO⟩ := VO4.open
              go_simp
              refine hK0 _ _ ?_
              clear hK0 K0 s_VO f_VO z_VO
              refine wpAny_done (by kernel_rfl) ?_ _
              have VO5 := VO4.set (i := 1) (by simp) (.slice c4 (j + 1) d4)
              simp only [List.set_cons_zero, List.set_cons_succ] at VO5
              have O6 := Hid.mk (O4.below (p := ⟨Q, 1, none⟩) (Nat.lt_succ_self _) (.slice c4 (j + 1) d4))
              have VR6 := Hid.mk (VR4.other (p := ⟨Q, 1, none⟩) (by simp only; omega) (.slice c4 (j + 1) d4))
              have B6 := Hid.mk (B4.setCell (p := ⟨Q, 1, none⟩) (by simp only; omega) (.slice c4 (j + 1) d4))
              have VO6 := Hid.mk VO5
              have hl6 : Hid ((os ++ [z]).length = j + 1) := Hid.mk (by rw [List.length_append, HJ.out]; rfl)
              clear VO5 O4 VR4 B4 VO4
              go_wp2
              go_roundw
              case rel => exact ⟨k + 1, d4, j + 1, c4, os ++ [z], by omega, by go_num, HS.out, hl6.out, by omega, O6.out, VR6.out, VO6.out, B6.out⟩
              case measure => simp [intOf]; omega
            · skip
              go_simp
              refine hK0 _ _ ?_
              clear hK0 K0
              try simp only [Act.put, List.getElem_toArray, List.getElem_cons_zero, List.getElem_cons_succ, List.setIfInBounds_toArray, List.set_cons_zero, List.set_cons_succ]
              have bq := belowA wd (.cells #[.int .i64 z.c, .int .i64 z.b, .int .i64 z.m, .int .i64 z.g] 28)
              have HNC := newCells wd 28 (rowSuite z)
              have hsq : (wd.alloc (.cells #[.int .i64 z.c, .int .i64 z.b, .int .i64 z.m, .int .i64 z.g] 28)).heap.size = wd.heap.size + 1 := by simp
              replace O := O.kept bq
              replace VR := VR.kept bq
              replace VO := VO.kept bq
              replace B := thenB B bq
              change ∀ j u, (rowSuite z)[j]? = some u → (wd.alloc (.cells #[.int .i64 z.c, .int .i64 z.b, .int .i64 z.m, .int .i64 z.g] 28)).cell? ((⟨wd.heap.size, 0, none⟩ : Addr).add j) = some u at HNC
              generalize wd.alloc (.cells #[.int .i64 z.c, .int .i64 z.b, .int .i64 z.m, .int .i64 z.g] 28) = wq at *
              replace HNC := Hid.mk HNC
              refine wpAny_ready (rs := [1]) (by kernel_rfl) (by simp) ?_
              refine AllReady.cons (o := _) rfl (fun K0 hK0 => ?_) AllReady.nil
              obtain ⟨s_VO, f_VO, z_VO⟩ := VO.open
              go_simp
              refine hK0 _ _ ?_
              clear hK0 K0 s_VO f_VO z_VO
              try simp only [Act.put, List.getElem_toArray, List.getElem_cons_zero, List.getElem_cons_succ, List.setIfInBounds_toArray, List.set_cons_zero, List.set_cons_succ]
              refine wpAny_ready (rs := [7]) (by kernel_rfl) (by simp) ?_
              refine AllReady.cons (o := _) rfl (fun K0 hK0 => ?_) AllReady.nil
              have OLT := Hid.mk O.lt
              have TL : Q + 1 ≤ wq.heap.size := by omega
              rw [if_pos (by rfl)]
              refine wp_putSuite _ _ _ rfl (Q + 1) c d os j HJ.out rfl O (⟨wd.heap.size, 0, none⟩) 1 z rfl HNC.out (by omega) TL ?_
              intro c4 d4 w4 O4 hg4 hx4
              have VO4 := VO.grownR hg4 (row_ne F2.out)
              have VR4 := VR.grownR hg4 (row_ne F3.out)
              have B4 := belowG B hg4 (by omega) (fun b hb => by have := (OLT.out b hb).1; omega)
              refine hK0 _ _ ?_
              clear hK0 K0 O VO VR B hg4 hx4 OLT TL HNC
              try simp only [Act.put, List.getElem_toArray, List.getElem_cons_zero, List.getElem_cons_succ, List.setIfInBounds_toArray, List.set_cons_zero, List.set_cons_succ]
              refine wpAny_take (i := 8) (oi := _) (v := ?vtz3) rfl (by kernel_rfl) (by kernel_rfl) (by kernel_rfl) (fun _ _ _ h => h) (Or.inl ⟨by rfl, ?hytz3⟩) ?resttz3
              case hytz3 => (intro w; go_simp; first | done | with_reducible rfl)
              try simp only [Act.put, List.getElem_toArray, List.getElem_cons_zero, List.getElem_cons_succ, List.setIfInBounds_toArray, List.set_cons_zero, List.set_cons_succ]
              refine wpAny_ready (rs := [9]) (by kernel_rfl) (by simp) ?_
              refine AllReady.cons (o := _) rfl (fun K0 hK0 => ?_) AllReady.nil
              obtain ⟨s_VO, f_VO, z_VO⟩ := VO4.open
              go_simp
              refine hK0 _ _ ?_
              clear hK0 K0 s_VO f_VO z_VO
              refine wpAny_done (by kernel_rfl) ?_ _
              have VO5 := VO4.set (i := 1) (by simp) (.slice c4 (j + 1) d4)
              simp only [List.set_cons_zero, List.set_cons_succ] at VO5
              have O6 := Hid.mk (O4.below (p := ⟨Q, 1, none⟩) (Nat.lt_succ_self _) (.slice c4 (j + 1) d4))
              have VR6 := Hid.mk (VR4.other (p := ⟨Q, 1, none⟩) (by simp only; omega) (.slice c4 (j + 1) d4))
              have B6 := Hid.mk (B4.setCell (p := ⟨Q, 1, none⟩) (by simp only; omega) (.slice c4 (j + 1) d4))
              have VO6 := Hid.mk VO5
              have hl6 : Hid ((os ++ [z]).length = j + 1) := Hid.mk (by rw [List.length_append, HJ.out]; rfl)
              clear VO5 O4 VR4 B4 VO4
              go_wp2
              go_roundw
              case rel => exact ⟨k + 1, d4, j + 1, c4, os ++ [z], by omega, by go_num, HS.out, hl6.out, by omega, O6.out, VR6.out, VO6.out, B6.out⟩
              case measure => simp [intOf]; omega
      · have hkn : k = n := by omega
        subst hkn
        rw [List.take_of_length_le (by omega)] at hos
        rw [hos] at eC eL
        have HJ := Hid.mk hj
        have OLT := Hid.mk O.lt
        cases hz : os with
        | nil =>
          rw [hz] at eC eL
          have hj0 : j = 0 := by rw [← hj, hz]; rfl
          subst hj0
          rw [if_pos rfl] at eC
          have HE := Hid.mk eC
          have HE2 := Hid.mk eL
          rw [hz] at O HJ
          clear eC eL hj hz hos
          have hVO := VO.1
          have hVR := VR.1
          have VO2 := VO.set (i := 0) (by simp) (.int .i64 4)
          simp only [List.set_cons_zero] at VO2
          have VR2 := VR.other (p := ⟨Q, 0, none⟩) (by simp only; omega) (.int .i64 4)
          have B2 := B.setCell (p := ⟨Q, 0, none⟩) (by simp only; omega) (.int .i64 4)
          have O2 := O.below (p := ⟨Q, 0, none⟩) (Nat.lt_succ_self _) (.int .i64 4)
          have VF := Hid.mk (VR2.filled [.int .i64 4, .slice c 0 d] rfl)
          have BR := Hid.mk (belowCells B2 (Nat.le_refl w.heap.size) 0 [.int .i64 4, .slice c 0 d])
          have HT := Hid.mk VR2.there
          have OF := Hid.mk ((O2.apart (B := w.heap.size) (fun b hb => by have := (OLT.out b hb).1; omega) 0 [.int .i64 4, .slice c 0 d]).mono (show w.heap.size ≤ Q + 1 by omega))
          clear VO2 VR2 B2 O2 O
          obtain ⟨s_VR, f_VR, z_VR⟩ := VR.open
          obtain ⟨s_VO, f_VO, z_VO⟩ := VO.open
          go_wp2_with (refine wpList_store_mid rfl 33 _ _ rfl (w.heap.size) 0 #[.int .i64 4, .slice c 0 d] rfl rfl HT.out (by kernel_rfl) (by kernel_rfl) ?_)
          refine bodyPost_ret (v := .agg #[.int .i64 4, .slice c 0 d]) (results_row Try.results30 _ _ (w.heap.size) [.int .i64 4, .slice c 0 d] _ rfl VF.out Try.underlying33 rfl (by kernel_rfl)) rfl ⟨c, d, by rw [HE.out, HE2.out]; rfl, by rw [HE2.out]; exact OF.out, BR.out⟩
        | cons y r =>
          have hj1 : (j : Int) ≠ 0 := by rw [← hj, hz]; simp; omega
          have hj2 : ((j : Int) == 0) = false := by simpa using hj1
          rw [if_neg (by rw [hz]; simp)] at eC
          have HE := Hid.mk eC
          have HE2 := Hid.mk eL
          clear eC eL hj hz hos hj1
          have hVO := VO.1
          have hVR := VR.1
          have VO2 := VO
          have VR2 := VR
          have B2 := B
          have O2 := O
          have VF := Hid.mk (VR2.filled [.int .i64 0, .slice c j d] rfl)
          have BR := Hid.mk (belowCells B2 (Nat.le_refl w.heap.size) 0 [.int .i64 0, .slice c j d])
          have HT := Hid.mk VR2.there
          have OF := Hid.mk ((O2.apart (B := w.heap.size) (fun b hb => by have := (OLT.out b hb).1; omega) 0 [.int .i64 0, .slice c j d]).mono (show w.heap.size ≤ Q + 1 by omega))
          clear VO2 VR2 B2 O2 O
          obtain ⟨s_VR, f_VR, z_VR⟩ := VR.open
          obtain ⟨s_VO, f_VO, z_VO⟩ := VO.open
          go_wp2_with (refine wpList_store_mid rfl 33 _ _ rfl (w.heap.size) 0 #[.int .i64 0, .slice c j d] rfl rfl HT.out (by kernel_rfl) (by kernel_rfl) ?_)
          refine bodyPost_ret (v := .agg #[.int .i64 0, .slice c j d]) (results_row Try.results30 _ _ (w.heap.size) [.int .i64 0, .slice c j d] _ rfl VF.out Try.underlying33 rfl (by kernel_rfl)) rfl ⟨c, d, by rw [HE.out, HE2.out, HJ.out], by rw [HE2.out]; exact OF.out, BR.out⟩

end Go.Proofs.Ythaaompkcomfcaa
