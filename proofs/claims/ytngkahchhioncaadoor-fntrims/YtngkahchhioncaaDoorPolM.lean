/- The policy trimmed: the model. -/
import Derived.Test.YtngkahchhioncaaDoorPolK
namespace Go.Proofs.YtngkahchhioncaaDoor
open Go.RowKit

theorem rd_set {k : IntKind} {w : World} {a : Option Addr} {zs : List Int} {p : Addr} (h : Rd k w a zs) (hne : ∀ b' : Addr, a = some b' → p.block ≠ b'.block) (v : Value) : Rd k (w.setCell p v) a zs :=
  rd_far (c := some p) h ⟨rfl, rfl, rfl, by simp [World.setCell], fun k _ hk => Below.heap_setCell _ _ _ _ (fun e => hk (by rw [Option.map_some, e]))⟩ fun b hb b' hb' => by
    simp only [Option.some.injEq] at hb
    subst hb
    exact hne b' hb'

set_option maxRecDepth 20000 in
set_option maxHeartbeats 8000000 in
theorem specTrimPolicy_ok (a : Option Addr) (n ca : Nat) (xs : List R11) (w : World) (ha : RdRule w a xs) (hn : xs.length = n) (hx : n ≤ maxLen) :
    Calls Tryd.prog 21 #[.slice a n ca] w fun e w' => ∃ (c : Option Addr) (d k : Nat), e = .returned (.agg #[.int .i64 (pyC xs), .slice c k d]) ∧ (tpL xs).length = k ∧ OwnRule w' w.heap.size c d (tpL xs) ∧ Below w.heap.size w w' := by
  have q0 := build_rs0
  have q1 := build_rs1
  have q2 := build_rsZ
  have CP := Hid.mk (fun w h => specPolicyFault_ok a n ca xs w h hn hx)
  rcases tp_ways xs with ⟨h1, h2, e1⟩ | ⟨h1, e1⟩
  · rw [e1]
    clear e1
    generalize pyC xs = kk at *
    go_enter Tryd.func21, Tryd.ntmps21
    have B := Below.refl w.heap.size w
    replace ha := ha.kept (belowA w (.cells #[.int .i64 0, .slice none 0 0] 45))
    replace B := thenB B (belowA w (.cells #[.int .i64 0, .slice none 0 0] 45))
    have VR := V.new w [.int .i64 0, .slice none 0 0] 45
    obtain ⟨s_VR, f_VR, z_VR⟩ := VR.open
    have Bo := B
    go_wp2_with fail
    refine (CP.out _ ha).mono ?_
    rintro e w1 ⟨rfl, b1⟩
    clear s_VR f_VR z_VR
    have S1 := b1.size
    simp only [World.size_alloc] at S1
    replace VR := VR.kept b1
    replace ha := ha.kept b1
    replace B := thenB B b1
    clear b1
    obtain ⟨s_VR, f_VR, z_VR⟩ := VR.open
    have Bo := B
    clear s_VR f_VR z_VR
    have VF := Hid.mk (VR.filled [.int .i64 kk, .slice none 0 0] rfl)
    have BR := belowCells B (show w.heap.size ≤ w.heap.size by (first | omega | (simp; done) | (simp; omega))) 0 [.int .i64 kk, .slice none 0 0]
    have HT := Hid.mk VR.there
    replace BR := Hid.mk BR
    obtain ⟨s_VR, f_VR, z_VR⟩ := VR.open
    go_wp2_with (refine wpList_store_mid rfl 45 _ _ rfl (w.heap.size) 0 #[.int .i64 kk, .slice none 0 0] rfl rfl HT.out (by kernel_rfl) (by kernel_rfl) ?_)
    refine bodyPost_ret (v := .agg #[.int .i64 kk, .slice none 0 0]) (results_row Tryd.results21 _ _ (w.heap.size) [.int .i64 kk, .slice none 0 0] _ rfl VF.out Tryd.underlying45 rfl (by kernel_rfl)) rfl ⟨none, 0, 0, rfl, rfl, OwnRule.none, BR.out⟩
  · have hx20 : n ≤ 20 := by have := (pyC_zero h1).1; omega
    have CS := Hid.mk (fun w h => l4Shadowed_ok a n ca xs w h hn hx20)
    rw [h1] at CP
    rw [e1, h1, hn]
    have HA := Hid.mk ha
    clear e1 h1
    go_enter Tryd.func21, Tryd.ntmps21
    have B := Below.refl w.heap.size w
    replace ha := ha.kept (belowA w (.cells #[.int .i64 0, .slice none 0 0] 45))
    replace B := thenB B (belowA w (.cells #[.int .i64 0, .slice none 0 0] 45))
    have VR := V.new w [.int .i64 0, .slice none 0 0] 45
    obtain ⟨s_VR, f_VR, z_VR⟩ := VR.open
    have Bo := B
    go_wp2_with fail
    refine (CP.out _ ha).mono ?_
    rintro e w11 ⟨rfl, b11⟩
    clear s_VR f_VR z_VR
    have S11 := b11.size
    simp only [World.size_alloc] at S11
    replace VR := VR.kept b11
    replace ha := ha.kept b11
    replace B := thenB B b11
    clear b11
    obtain ⟨s_VR, f_VR, z_VR⟩ := VR.open
    have Bo := B
    go_wp2_with fail
    refine (CS.out _ ha).mono ?_
    rintro e w12 ⟨g0, dg, kg, rfl, hkg, os, b12⟩
    clear s_VR f_VR z_VR
    have S12 := b12.size
    replace VR := VR.kept b12
    replace ha := ha.kept b12
    replace B := thenB B b12
    clear b12
    obtain ⟨s_VR, f_VR, z_VR⟩ := VR.open
    have Bo := B
    have HSL := (os.lt _ rfl).2
    simp only at HSL
    replace VR := VR.kept (belowA w12 (.cells #[.int .i64 0, .slice none 0 0] 45))
    replace ha := ha.kept (belowA w12 (.cells #[.int .i64 0, .slice none 0 0] 45))
    replace os := os.kept (belowA w12 (.cells #[.int .i64 0, .slice none 0 0] 45))
    replace B := thenB B (belowA w12 (.cells #[.int .i64 0, .slice none 0 0] 45))
    have VO := V.new w12 [.int .i64 0, .slice none 0 0] 45
    clear s_VR f_VR z_VR
    obtain ⟨s_VR, f_VR, z_VR⟩ := VR.open
    obtain ⟨s_VO, f_VO, z_VO⟩ := VO.open
    replace Bo := B
    clear s_VR f_VR z_VR s_VO f_VO z_VO
    have hVR := VR.1
    have HB := Hid.mk B
    have HO := Hid.mk os.rd
    have hks20 := shI_len xs n
    rw [hkg] at hks20
    replace hkg := Hid.mk hkg
    replace VR := Hid.mk VR
    have hsz : w.heap.size + 1 ≤ w12.heap.size := by omega
    obtain ⟨s_VO, f_VO, z_VO⟩ := VO.open
    have VO1 := Hid.mk VO
    have hT := Hid.mk VO.there
    have VF := VO.filled [.int .i64 0, .slice none 0 0] rfl
    have VR1 := VR.out.apart (B := w12.heap.size) (by omega) 0 [.int .i64 0, .slice none 0 0]
    have B1 := belowCells HB.out (show w.heap.size ≤ w12.heap.size by omega) 0 [.int .i64 0, .slice none 0 0]
    have O1 := ownCells os (B := w12.heap.size) (by intro b hb; simp at hb; subst hb; simp only; omega) 0 [.int .i64 0, .slice none 0 0]
    obtain ⟨w6, hw6⟩ : ∃ w6, (w12.alloc (.cells #[.int .i64 0, .slice none 0 0] 45)).setCells w12.heap.size 0 [.int .i64 0, .slice none 0 0] = w6 := ⟨_, rfl⟩
    rw [hw6] at VF VR1 B1 O1
    replace hw6 := Hid.mk hw6
    replace HO := Hid.mk O1.rd
    replace VF := Hid.mk VF
    replace VR1 := Hid.mk VR1
    replace B1 := Hid.mk B1
    clear os O1 VO HB VR B Bo ha CP
    go_upto_region 6 with (refine wpList_stroke w6 rfl 45 _ _ rfl (w12.heap.size) 0 #[.int .i64 0, .slice none 0 0] rfl rfl hT.out (by kernel_rfl) (by kernel_rfl) hw6.out ?_)
    clear s_VO f_VO z_VO VO1 hT hw6
    generalize hQ : w12.heap.size = Q at *
    go_wp2
    go_loopw [6] (fun i wr => ∃ (k d j : Nat) (c : Option Addr), k ≤ n ∧ i = .int .i64 k ∧ (trL xs k).length = j ∧ OwnRule wr (Q + 1) c d (trL xs k) ∧ V wr w.heap.size [.int .i64 0, .slice none 0 0] ∧ V wr Q [.int .i64 0, .slice c j d] ∧ Rd .i64 wr (some ⟨g0, 0, none⟩) (shI xs n) ∧ Below w.heap.size w wr) (fun i _ => n - (intOf i).toNat)
    case atStart => exact ⟨0, 0, 0, none, Nat.zero_le _, rfl, rfl, OwnRule.none, VR1.out, VF.out, HO.out, B1.out⟩
    case round =>
      clear VR1 VF HO B1
      obtain ⟨k, d, j, c, hk, rfl, hj, O, VR, VO, RS, B⟩ := hrel
      by_cases hlt : k < n
      · obtain ⟨x, hx1⟩ : ∃ x, xs.getD k zRule = x := ⟨_, rfl⟩
        have hk1 : (k : Int) < (n : Int) := by omega
        have hjk := trL_le xs k
        have hj20 : j ≤ 20 := by omega
        have hin := in_sh (xs := xs) hlt
        have CC := Hid.mk (fun w h => l1Has_ok (some ⟨g0, 0, none⟩) kg dg (shI xs n) (k : Int) w h hkg.out (by unfold maxLen; omega))
        rw [hin] at CC
        have HJ := Hid.mk hj
        have hOl := O.lt
        have F2 : Hid (∀ b : Addr, c = some b → b.block ≠ Q) := Hid.mk (fun b hb => by have := (hOl b hb).1; omega)
        have F3 : Hid (∀ b : Addr, c = some b → b.block ≠ w.heap.size) := Hid.mk (fun b hb => by have := (hOl b hb).1; omega)
        clear hin hj hOl
        replace hx1 := Hid.mk hx1
        obtain ⟨s_VR, f_VR, z_VR⟩ := VR.open
        obtain ⟨s_VO, f_VO, z_VO⟩ := VO.open
        have Bo := B
        go_wp2_with fail
        refine (CC.out _ RS).mono ?_
        rintro e w41 ⟨rfl, b41⟩
        clear s_VR f_VR z_VR s_VO f_VO z_VO
        have S41 := b41.size
        replace VR := VR.kept b41
        replace VO := VO.kept b41
        replace O := O.kept b41
        replace RS := RS.kept b41
        replace B := thenB B b41
        clear b41
        obtain ⟨s_VR, f_VR, z_VR⟩ := VR.open
        obtain ⟨s_VO, f_VO, z_VO⟩ := VO.open
        have Bo := B
        cases hg : shAt xs k
        · skip
          clear s_VR f_VR z_VR s_VO f_VO z_VO
          have hno := Hid.mk (trL_no hg hx1.out)
          clear Bo CC
          go_upto_region 10 with fail
          refine wp_region_any (by kernel_rfl) ?_
          change wpAny _ _ _ _ _ _ _ w41.drew
          have bd : Below w41.heap.size w41 w41.drew := (Below.refl _ _).drew
          replace O := O.kept bd
          replace VR := VR.kept bd
          replace VO := VO.kept bd
          replace RS := RS.kept bd
          replace B := thenB B bd
          clear bd
          generalize w41.drew = wd at *
          rcases HA.out.kept B with h0 | ⟨b1, o1, rfl, hca⟩
          · rw [h0] at hn; simp at hn; omega
          obtain ⟨p0, p1, p2, p3, p4, p5, p6, p7, p8, p9, p10⟩ := RdRule.cells hca k (by omega) x hx1.out
          clear hca
          have hVO := VO.1
          have hVR := VR.1
          refine wpAny_take (i := 0) (oi := _) (v := ?vtk0) rfl (by kernel_rfl) (by kernel_rfl) (by kernel_rfl) (fun _ _ _ h => h) (Or.inl ⟨by rfl, ?hytk0⟩) ?resttk0
          case hytk0 => (intro w; go_simp; first | done | with_reducible rfl)
          try simp only [Act.put, List.getElem_toArray, List.getElem_cons_zero, List.setIfInBounds_toArray, List.set_cons_zero, List.set_cons_succ]
          refine wpAny_take (i := 2) (oi := _) (v := ?vtk2) rfl (by kernel_rfl) (by kernel_rfl) (by kernel_rfl) (fun _ _ _ h => h) (Or.inl ⟨by rfl, ?hytk2⟩) ?resttk2
          case hytk2 => (intro w; go_simp; first | done | with_reducible rfl)
          try simp only [Act.put, List.getElem_toArray, List.getElem_cons_zero, List.getElem_cons_succ, List.setIfInBounds_toArray, List.set_cons_zero, List.set_cons_succ]
          refine wpAny_take (i := 3) (oi := _) (v := ?vtk3) rfl (by kernel_rfl) (by kernel_rfl) (by kernel_rfl) (fun _ _ _ h => h) (Or.inl ⟨by rfl, ?hytk3⟩) ?resttk3
          case hytk3 => (intro w; go_simp; first | done | with_reducible rfl)
          try simp only [Act.put, List.getElem_toArray, List.getElem_cons_zero, List.getElem_cons_succ, List.setIfInBounds_toArray, List.set_cons_zero, List.set_cons_succ]
          refine wpAny_take (i := 4) (oi := _) (v := ?vtk4) rfl (by kernel_rfl) (by kernel_rfl) (by kernel_rfl) (fun _ _ _ h => h) (Or.inl ⟨by rfl, ?hytk4⟩) ?resttk4
          case hytk4 => (intro w; go_simp; first | done | with_reducible rfl)
          try simp only [Act.put, List.getElem_toArray, List.getElem_cons_zero, List.getElem_cons_succ, List.setIfInBounds_toArray, List.set_cons_zero, List.set_cons_succ]
          refine wpAny_ready (rs := [1, 5]) (by kernel_rfl) (by simp) ?_
          refine AllReady.cons (o := _) rfl (fun K0 hK0 => ?_) (AllReady.cons (o := _) rfl (fun K0 hK0 => ?_) AllReady.nil)
          · skip
            obtain ⟨s_VO, f_VO, z_VO⟩ := VO.open
            go_simp
            refine hK0 _ _ ?_
            clear hK0 K0 s_VO f_VO z_VO
            try simp only [Act.put, List.getElem_toArray, List.getElem_cons_zero, List.getElem_cons_succ, List.setIfInBounds_toArray, List.set_cons_zero, List.set_cons_succ]
            refine wpAny_ready (rs := [5]) (by kernel_rfl) (by simp) ?_
            refine AllReady.cons (o := _) rfl (fun K0 hK0 => ?_) AllReady.nil
            go_simp
            refine hK0 _ _ ?_
            clear hK0 K0 p0 p1 p2 p3 p4 p5 p6 p7 p8 p9 p10
            try simp only [Act.put, List.getElem_toArray, List.getElem_cons_zero, List.getElem_cons_succ, List.setIfInBounds_toArray, List.set_cons_zero, List.set_cons_succ]
            refine wpAny_ready (rs := [6]) (by kernel_rfl) (by simp) ?_
            refine AllReady.cons (o := _) rfl (fun K0 hK0 => ?_) AllReady.nil
            go_simp
            refine hK0 _ _ ?_
            clear hK0 K0
            try simp only [Act.put, List.getElem_toArray, List.getElem_cons_zero, List.getElem_cons_succ, List.setIfInBounds_toArray, List.set_cons_zero, List.set_cons_succ]
            have bq := belowA wd (.cells #[.int .i64 x.s.a, .int .i64 x.s.b, .int .i64 x.s.c, .int .i64 x.s.d, .int .i64 x.s.e, .int .i64 x.s.f, .int .i64 x.s.g, .int .i64 x.s.h, .int .i64 x.s.r, .int .i64 x.p, .int .i64 x.q] 34)
            have HNC := newCells wd 34 (rowRule x)
            have hsq : (wd.alloc (.cells #[.int .i64 x.s.a, .int .i64 x.s.b, .int .i64 x.s.c, .int .i64 x.s.d, .int .i64 x.s.e, .int .i64 x.s.f, .int .i64 x.s.g, .int .i64 x.s.h, .int .i64 x.s.r, .int .i64 x.p, .int .i64 x.q] 34)).heap.size = wd.heap.size + 1 := by simp
            replace O := O.kept bq
            replace VR := VR.kept bq
            replace VO := VO.kept bq
            replace RS := RS.kept bq
            replace B := thenB B bq
            change ∀ j u, (rowRule x)[j]? = some u → (wd.alloc (.cells #[.int .i64 x.s.a, .int .i64 x.s.b, .int .i64 x.s.c, .int .i64 x.s.d, .int .i64 x.s.e, .int .i64 x.s.f, .int .i64 x.s.g, .int .i64 x.s.h, .int .i64 x.s.r, .int .i64 x.p, .int .i64 x.q] 34)).cell? ((⟨wd.heap.size, 0, none⟩ : Addr).add j) = some u at HNC
            generalize wd.alloc (.cells #[.int .i64 x.s.a, .int .i64 x.s.b, .int .i64 x.s.c, .int .i64 x.s.d, .int .i64 x.s.e, .int .i64 x.s.f, .int .i64 x.s.g, .int .i64 x.s.h, .int .i64 x.s.r, .int .i64 x.p, .int .i64 x.q] 34) = wq at *
            replace HNC := Hid.mk HNC
            refine wpAny_ready (rs := [7]) (by kernel_rfl) (by simp) ?_
            refine AllReady.cons (o := _) rfl (fun K0 hK0 => ?_) AllReady.nil
            have OLT := Hid.mk O.lt
            have TL : Q + 1 ≤ wq.heap.size := by omega
            rw [if_pos (by rfl)]
            refine wp_putRule _ _ _ rfl (Q + 1) c d (trL xs k) j HJ.out rfl O (⟨wd.heap.size, 0, none⟩) 1 x rfl HNC.out (by omega) TL ?_
            intro c4 d4 w4 O4 hg4 hx4
            rw [← hno.out] at O4
            have VO4 := VO.grownR hg4 (row_ne F2.out)
            have VR4 := VR.grownR hg4 (row_ne F3.out)
            have RS4 := rd_far RS hg4 (fun b hb b' hb' e => by have h1 := (OLT.out b hb).1; simp only [Option.some.injEq] at hb'; subst hb'; simp only at e; omega)
            have B4 := belowG B hg4 (by omega) (fun b hb => by have := (OLT.out b hb).1; omega)
            refine hK0 _ _ ?_
            clear hK0 K0 O VO VR RS B hg4 hx4 OLT TL HNC
            try simp only [Act.put, List.getElem_toArray, List.getElem_cons_zero, List.getElem_cons_succ, List.setIfInBounds_toArray, List.set_cons_zero, List.set_cons_succ]
            refine wpAny_take (i := 8) (oi := _) (v := ?vtz1) rfl (by kernel_rfl) (by kernel_rfl) (by kernel_rfl) (fun _ _ _ h => h) (Or.inl ⟨by rfl, ?hytz1⟩) ?resttz1
            case hytz1 => (intro w; go_simp; first | done | with_reducible rfl)
            try simp only [Act.put, List.getElem_toArray, List.getElem_cons_zero, List.getElem_cons_succ, List.setIfInBounds_toArray, List.set_cons_zero, List.set_cons_succ]
            refine wpAny_ready (rs := [9]) (by kernel_rfl) (by simp) ?_
            refine AllReady.cons (o := _) rfl (fun K0 hK0 => ?_) AllReady.nil
            obtain ⟨s_VO, f_VO, z_VO⟩ := VO4.open
            go_simp
            refine hK0 _ _ ?_
            clear hK0 K0 s_VO f_VO z_VO
            refine wpAny_done (by kernel_rfl) ?_ _
            have VO5 := VO4.set (i := 1) (by simp) (.slice c4 (j + 1) d4)
            simp only [List.set_cons_zero, List.set_cons_succ] at VO5
            have O6 := Hid.mk (O4.below (p := ⟨Q, 1, none⟩) (Nat.lt_succ_self _) (.slice c4 (j + 1) d4))
            have VR6 := Hid.mk (VR4.other (p := ⟨Q, 1, none⟩) (by simp only; omega) (.slice c4 (j + 1) d4))
            have RS6 := Hid.mk (rd_set (p := ⟨Q, 1, none⟩) RS4 (by intro b hb e; simp only [Option.some.injEq] at hb; subst hb; simp only at e; omega) (.slice c4 (j + 1) d4))
            have B6 := Hid.mk (B4.setCell (p := ⟨Q, 1, none⟩) (by simp only; omega) (.slice c4 (j + 1) d4))
            have VO6 := Hid.mk VO5
            have hl6 : Hid ((trL xs (k + 1)).length = j + 1) := Hid.mk (by rw [hno.out, List.length_append, HJ.out]; rfl)
            clear VO5 O4 VR4 RS4 B4 VO4
            go_wp2
            go_roundw
            case rel => exact ⟨k + 1, d4, j + 1, c4, by omega, by go_num, hl6.out, O6.out, VR6.out, VO6.out, RS6.out, B6.out⟩
            case measure => simp [intOf]; omega
          · skip
            go_simp
            refine hK0 _ _ ?_
            clear hK0 K0 p0 p1 p2 p3 p4 p5 p6 p7 p8 p9 p10
            try simp only [Act.put, List.getElem_toArray, List.getElem_cons_zero, List.getElem_cons_succ, List.setIfInBounds_toArray, List.set_cons_zero, List.set_cons_succ]
            refine wpAny_ready (rs := [1, 6]) (by kernel_rfl) (by simp) ?_
            refine AllReady.cons (o := _) rfl (fun K0 hK0 => ?_) (AllReady.cons (o := _) rfl (fun K0 hK0 => ?_) AllReady.nil)
            · skip
              obtain ⟨s_VO, f_VO, z_VO⟩ := VO.open
              go_simp
              refine hK0 _ _ ?_
              clear hK0 K0 s_VO f_VO z_VO
              try simp only [Act.put, List.getElem_toArray, List.getElem_cons_zero, List.getElem_cons_succ, List.setIfInBounds_toArray, List.set_cons_zero, List.set_cons_succ]
              refine wpAny_ready (rs := [6]) (by kernel_rfl) (by simp) ?_
              refine AllReady.cons (o := _) rfl (fun K0 hK0 => ?_) AllReady.nil
              go_simp
              refine hK0 _ _ ?_
              clear hK0 K0
              try simp only [Act.put, List.getElem_toArray, List.getElem_cons_zero, List.getElem_cons_succ, List.setIfInBounds_toArray, List.set_cons_zero, List.set_cons_succ]
              have bq := belowA wd (.cells #[.int .i64 x.s.a, .int .i64 x.s.b, .int .i64 x.s.c, .int .i64 x.s.d, .int .i64 x.s.e, .int .i64 x.s.f, .int .i64 x.s.g, .int .i64 x.s.h, .int .i64 x.s.r, .int .i64 x.p, .int .i64 x.q] 34)
              have HNC := newCells wd 34 (rowRule x)
              have hsq : (wd.alloc (.cells #[.int .i64 x.s.a, .int .i64 x.s.b, .int .i64 x.s.c, .int .i64 x.s.d, .int .i64 x.s.e, .int .i64 x.s.f, .int .i64 x.s.g, .int .i64 x.s.h, .int .i64 x.s.r, .int .i64 x.p, .int .i64 x.q] 34)).heap.size = wd.heap.size + 1 := by simp
              replace O := O.kept bq
              replace VR := VR.kept bq
              replace VO := VO.kept bq
              replace RS := RS.kept bq
              replace B := thenB B bq
              change ∀ j u, (rowRule x)[j]? = some u → (wd.alloc (.cells #[.int .i64 x.s.a, .int .i64 x.s.b, .int .i64 x.s.c, .int .i64 x.s.d, .int .i64 x.s.e, .int .i64 x.s.f, .int .i64 x.s.g, .int .i64 x.s.h, .int .i64 x.s.r, .int .i64 x.p, .int .i64 x.q] 34)).cell? ((⟨wd.heap.size, 0, none⟩ : Addr).add j) = some u at HNC
              generalize wd.alloc (.cells #[.int .i64 x.s.a, .int .i64 x.s.b, .int .i64 x.s.c, .int .i64 x.s.d, .int .i64 x.s.e, .int .i64 x.s.f, .int .i64 x.s.g, .int .i64 x.s.h, .int .i64 x.s.r, .int .i64 x.p, .int .i64 x.q] 34) = wq at *
              replace HNC := Hid.mk HNC
              refine wpAny_ready (rs := [7]) (by kernel_rfl) (by simp) ?_
              refine AllReady.cons (o := _) rfl (fun K0 hK0 => ?_) AllReady.nil
              have OLT := Hid.mk O.lt
              have TL : Q + 1 ≤ wq.heap.size := by omega
              rw [if_pos (by rfl)]
              refine wp_putRule _ _ _ rfl (Q + 1) c d (trL xs k) j HJ.out rfl O (⟨wd.heap.size, 0, none⟩) 1 x rfl HNC.out (by omega) TL ?_
              intro c4 d4 w4 O4 hg4 hx4
              rw [← hno.out] at O4
              have VO4 := VO.grownR hg4 (row_ne F2.out)
              have VR4 := VR.grownR hg4 (row_ne F3.out)
              have RS4 := rd_far RS hg4 (fun b hb b' hb' e => by have h1 := (OLT.out b hb).1; simp only [Option.some.injEq] at hb'; subst hb'; simp only at e; omega)
              have B4 := belowG B hg4 (by omega) (fun b hb => by have := (OLT.out b hb).1; omega)
              refine hK0 _ _ ?_
              clear hK0 K0 O VO VR RS B hg4 hx4 OLT TL HNC
              try simp only [Act.put, List.getElem_toArray, List.getElem_cons_zero, List.getElem_cons_succ, List.setIfInBounds_toArray, List.set_cons_zero, List.set_cons_succ]
              refine wpAny_take (i := 8) (oi := _) (v := ?vtz2) rfl (by kernel_rfl) (by kernel_rfl) (by kernel_rfl) (fun _ _ _ h => h) (Or.inl ⟨by rfl, ?hytz2⟩) ?resttz2
              case hytz2 => (intro w; go_simp; first | done | with_reducible rfl)
              try simp only [Act.put, List.getElem_toArray, List.getElem_cons_zero, List.getElem_cons_succ, List.setIfInBounds_toArray, List.set_cons_zero, List.set_cons_succ]
              refine wpAny_ready (rs := [9]) (by kernel_rfl) (by simp) ?_
              refine AllReady.cons (o := _) rfl (fun K0 hK0 => ?_) AllReady.nil
              obtain ⟨s_VO, f_VO, z_VO⟩ := VO4.open
              go_simp
              refine hK0 _ _ ?_
              clear hK0 K0 s_VO f_VO z_VO
              refine wpAny_done (by kernel_rfl) ?_ _
              have VO5 := VO4.set (i := 1) (by simp) (.slice c4 (j + 1) d4)
              simp only [List.set_cons_zero, List.set_cons_succ] at VO5
              have O6 := Hid.mk (O4.below (p := ⟨Q, 1, none⟩) (Nat.lt_succ_self _) (.slice c4 (j + 1) d4))
              have VR6 := Hid.mk (VR4.other (p := ⟨Q, 1, none⟩) (by simp only; omega) (.slice c4 (j + 1) d4))
              have RS6 := Hid.mk (rd_set (p := ⟨Q, 1, none⟩) RS4 (by intro b hb e; simp only [Option.some.injEq] at hb; subst hb; simp only at e; omega) (.slice c4 (j + 1) d4))
              have B6 := Hid.mk (B4.setCell (p := ⟨Q, 1, none⟩) (by simp only; omega) (.slice c4 (j + 1) d4))
              have VO6 := Hid.mk VO5
              have hl6 : Hid ((trL xs (k + 1)).length = j + 1) := Hid.mk (by rw [hno.out, List.length_append, HJ.out]; rfl)
              clear VO5 O4 VR4 RS4 B4 VO4
              go_wp2
              go_roundw
              case rel => exact ⟨k + 1, d4, j + 1, c4, by omega, by go_num, hl6.out, O6.out, VR6.out, VO6.out, RS6.out, B6.out⟩
              case measure => simp [intOf]; omega
            · skip
              go_simp
              refine hK0 _ _ ?_
              clear hK0 K0
              try simp only [Act.put, List.getElem_toArray, List.getElem_cons_zero, List.getElem_cons_succ, List.setIfInBounds_toArray, List.set_cons_zero, List.set_cons_succ]
              have bq := belowA wd (.cells #[.int .i64 x.s.a, .int .i64 x.s.b, .int .i64 x.s.c, .int .i64 x.s.d, .int .i64 x.s.e, .int .i64 x.s.f, .int .i64 x.s.g, .int .i64 x.s.h, .int .i64 x.s.r, .int .i64 x.p, .int .i64 x.q] 34)
              have HNC := newCells wd 34 (rowRule x)
              have hsq : (wd.alloc (.cells #[.int .i64 x.s.a, .int .i64 x.s.b, .int .i64 x.s.c, .int .i64 x.s.d, .int .i64 x.s.e, .int .i64 x.s.f, .int .i64 x.s.g, .int .i64 x.s.h, .int .i64 x.s.r, .int .i64 x.p, .int .i64 x.q] 34)).heap.size = wd.heap.size + 1 := by simp
              replace O := O.kept bq
              replace VR := VR.kept bq
              replace VO := VO.kept bq
              replace RS := RS.kept bq
              replace B := thenB B bq
              change ∀ j u, (rowRule x)[j]? = some u → (wd.alloc (.cells #[.int .i64 x.s.a, .int .i64 x.s.b, .int .i64 x.s.c, .int .i64 x.s.d, .int .i64 x.s.e, .int .i64 x.s.f, .int .i64 x.s.g, .int .i64 x.s.h, .int .i64 x.s.r, .int .i64 x.p, .int .i64 x.q] 34)).cell? ((⟨wd.heap.size, 0, none⟩ : Addr).add j) = some u at HNC
              generalize wd.alloc (.cells #[.int .i64 x.s.a, .int .i64 x.s.b, .int .i64 x.s.c, .int .i64 x.s.d, .int .i64 x.s.e, .int .i64 x.s.f, .int .i64 x.s.g, .int .i64 x.s.h, .int .i64 x.s.r, .int .i64 x.p, .int .i64 x.q] 34) = wq at *
              replace HNC := Hid.mk HNC
              refine wpAny_ready (rs := [1]) (by kernel_rfl) (by simp) ?_
              refine AllReady.cons (o := _) rfl (fun K0 hK0 => ?_) AllReady.nil
              obtain ⟨s_VO, f_VO, z_VO⟩ := VO.open
              go_simp
              refine hK0 _ _ ?_
              clear hK0 K0 s_VO f_VO z_VO
              try simp only [Act.put, List.getElem_toArray, List.getElem_cons_zero, List.getElem_cons_succ, List.setIfInBounds_toArray, List.set_cons_zero, List.set_cons_succ]
              refine wpAny_ready (rs := [7]) (by kernel_rfl) (by simp) ?_
              refine AllReady.cons (o := _) rfl (fun K0 hK0 => ?_) AllReady.nil
              have OLT := Hid.mk O.lt
              have TL : Q + 1 ≤ wq.heap.size := by omega
              rw [if_pos (by rfl)]
              refine wp_putRule _ _ _ rfl (Q + 1) c d (trL xs k) j HJ.out rfl O (⟨wd.heap.size, 0, none⟩) 1 x rfl HNC.out (by omega) TL ?_
              intro c4 d4 w4 O4 hg4 hx4
              rw [← hno.out] at O4
              have VO4 := VO.grownR hg4 (row_ne F2.out)
              have VR4 := VR.grownR hg4 (row_ne F3.out)
              have RS4 := rd_far RS hg4 (fun b hb b' hb' e => by have h1 := (OLT.out b hb).1; simp only [Option.some.injEq] at hb'; subst hb'; simp only at e; omega)
              have B4 := belowG B hg4 (by omega) (fun b hb => by have := (OLT.out b hb).1; omega)
              refine hK0 _ _ ?_
              clear hK0 K0 O VO VR RS B hg4 hx4 OLT TL HNC
              try simp only [Act.put, List.getElem_toArray, List.getElem_cons_zero, List.getElem_cons_succ, List.setIfInBounds_toArray, List.set_cons_zero, List.set_cons_succ]
              refine wpAny_take (i := 8) (oi := _) (v := ?vtz3) rfl (by kernel_rfl) (by kernel_rfl) (by kernel_rfl) (fun _ _ _ h => h) (Or.inl ⟨by rfl, ?hytz3⟩) ?resttz3
              case hytz3 => (intro w; go_simp; first | done | with_reducible rfl)
              try simp only [Act.put, List.getElem_toArray, List.getElem_cons_zero, List.getElem_cons_succ, List.setIfInBounds_toArray, List.set_cons_zero, List.set_cons_succ]
              refine wpAny_ready (rs := [9]) (by kernel_rfl) (by simp) ?_
              refine AllReady.cons (o := _) rfl (fun K0 hK0 => ?_) AllReady.nil
              obtain ⟨s_VO, f_VO, z_VO⟩ := VO4.open
              go_simp
              refine hK0 _ _ ?_
              clear hK0 K0 s_VO f_VO z_VO
              refine wpAny_done (by kernel_rfl) ?_ _
              have VO5 := VO4.set (i := 1) (by simp) (.slice c4 (j + 1) d4)
              simp only [List.set_cons_zero, List.set_cons_succ] at VO5
              have O6 := Hid.mk (O4.below (p := ⟨Q, 1, none⟩) (Nat.lt_succ_self _) (.slice c4 (j + 1) d4))
              have VR6 := Hid.mk (VR4.other (p := ⟨Q, 1, none⟩) (by simp only; omega) (.slice c4 (j + 1) d4))
              have RS6 := Hid.mk (rd_set (p := ⟨Q, 1, none⟩) RS4 (by intro b hb e; simp only [Option.some.injEq] at hb; subst hb; simp only at e; omega) (.slice c4 (j + 1) d4))
              have B6 := Hid.mk (B4.setCell (p := ⟨Q, 1, none⟩) (by simp only; omega) (.slice c4 (j + 1) d4))
              have VO6 := Hid.mk VO5
              have hl6 : Hid ((trL xs (k + 1)).length = j + 1) := Hid.mk (by rw [hno.out, List.length_append, HJ.out]; rfl)
              clear VO5 O4 VR4 RS4 B4 VO4
              go_wp2
              go_roundw
              case rel => exact ⟨k + 1, d4, j + 1, c4, by omega, by go_num, hl6.out, O6.out, VR6.out, VO6.out, RS6.out, B6.out⟩
              case measure => simp [intOf]; omega
        · skip
          clear s_VR f_VR z_VR s_VO f_VO z_VO
          have hyes := Hid.mk (trL_yes hg)
          replace O := Hid.mk O
          replace VR := Hid.mk VR
          replace VO := Hid.mk VO
          replace RS := Hid.mk RS
          replace B := Hid.mk B
          clear Bo
          go_wp2
          go_roundw
          case rel => exact ⟨k + 1, d, j, c, by omega, by go_num, by rw [hyes.out]; exact HJ.out, by rw [hyes.out]; exact O.out, VR.out, VO.out, RS.out, B.out⟩
          case measure => simp [intOf]; omega
      · obtain rfl : k = n := by omega
        have HO := Hid.mk (O.mono (show w.heap.size ≤ _ by omega))
        have HK := Hid.mk hj
        have HC := Hid.mk (fun b hb => (O.lt b hb).1)
        clear O hj RS
        obtain ⟨s_VR, f_VR, z_VR⟩ := VR.open
        obtain ⟨s_VO, f_VO, z_VO⟩ := VO.open
        have Bo := B
        clear s_VR f_VR z_VR s_VO f_VO z_VO
        have VF := Hid.mk (VR.filled [.int .i64 0, .slice c j d] rfl)
        have BR := belowCells B (show w.heap.size ≤ w.heap.size by (first | omega | (simp; done) | (simp; omega))) 0 [.int .i64 0, .slice c j d]
        have HT := Hid.mk VR.there
        replace BR := Hid.mk BR
        obtain ⟨s_VR, f_VR, z_VR⟩ := VR.open
        obtain ⟨s_VO, f_VO, z_VO⟩ := VO.open
        go_wp2_with (refine wpList_store_mid rfl 45 _ _ rfl (w.heap.size) 0 #[.int .i64 0, .slice c j d] rfl rfl HT.out (by kernel_rfl) (by kernel_rfl) ?_)
        refine bodyPost_ret (v := .agg #[.int .i64 0, .slice c j d]) (results_row Tryd.results21 _ _ (w.heap.size) [.int .i64 0, .slice c j d] _ rfl VF.out Tryd.underlying45 rfl (by kernel_rfl)) rfl ⟨c, d, j, rfl, HK.out, HO.out.apart (by intro b hb; have := HC.out b hb; omega) _ _, BR.out⟩

end Go.Proofs.YtngkahchhioncaaDoor
