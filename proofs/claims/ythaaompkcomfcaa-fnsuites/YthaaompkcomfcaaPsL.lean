/- The bytes of a list of suites: program and model. -/
import Derived.Test.YthaaompkcomfcaaPsH
import Derived.Test.YthaaompkcomfcaaSuiteG
import Derived.Test.YthaaompkcomfcaaHeldR
import Derived.Test.YthaaompkcomfcaaRow
namespace Go.Proofs.Ythaaompkcomfcaa
open Go.RowKit

theorem quo_bits {b : Int} (h : b = 128 ∨ b = 192 ∨ b = 256) : wrap64 (b.tdiv 64) = b / 64 := by
  rcases h with rfl | rfl | rfl <;> kernel_rfl

theorem enK_yes {xs : List Su} (h : ssF xs = 0) : enK xs = enSu xs := if_pos h
theorem enK_no {xs : List Su} (h : ¬ ssF xs = 0) : enK xs = [] := if_neg h

/-- A row of one's own is kept where another block is filled. -/
theorem ownCellsB {w : World} {base : Nat} {a : Option Addr} {cap : Nat} {zs : List Int} {B : Nat} (h : Own .u8 5 w base a cap zs) (hB : ∀ b : Addr, a = some b → b.block ≠ B) (o : Nat) (vs : List Value) : Own .u8 5 (w.setCells B o vs) base a cap zs := by
  induction vs generalizing w o with
  | nil => exact h
  | cons v vs ih =>
    refine ih (w := w.setCell ⟨B, o, none⟩ v) (h.grown (row := some B) ⟨rfl, rfl, rfl, by simp [World.setCell], fun k _ hk => Below.heap_setCell _ _ _ _ (fun e => hk (by rw [e]))⟩ fun b hb e => ?_) (o + 1)
    simp only [Option.some.injEq] at e
    exact hB b hb e.symm

set_option maxRecDepth 20000 in
set_option maxHeartbeats 8000000 in
theorem implEncode_ok (a : Option Addr) (n ca : Nat) (xs : List Su) (w : World) (ha : RdSuite w a xs) (hn : xs.length = n) (hc : n ≤ ca) (hx : ca ≤ maxLen) :
    Calls Try.prog 19 #[.slice a n ca] w fun e w' => ∃ (c : Option Addr) (d : Nat), e = .returned (.agg #[.int .i64 (ssF xs), .slice c (enK xs).length d]) ∧ Own .u8 5 w' w.heap.size c d (enK xs) ∧ Below w.heap.size w w' := by
  obtain ⟨i0, hi, q0, q1, q2⟩ := info_parts Try.info_u8
  have CF := Hid.mk (fun w h => implSuitesFault_ok a n ca xs w h hn hc hx)
  by_cases h0 : ssF xs = 0
  · have hn10 : n ≤ 10 := by have := (ssF_ok h0).2.1; omega
    have hok := (ssF_ok h0).2.2.2
    rw [enK_yes h0]
    simp only [h0] at CF
    rw [h0]
    have HX := Hid.mk ha
    clear h0
    go_enter Try.func19, Try.ntmps19
    have B := Below.refl w.heap.size w
    replace ha := ha.kept (belowA w (.cells #[.int .i64 0, .slice none 0 0] 38))
    replace B := thenB B (belowA w (.cells #[.int .i64 0, .slice none 0 0] 38))
    have VR := V.new w [.int .i64 0, .slice none 0 0] 38
    obtain ⟨s_VR, f_VR, z_VR⟩ := VR.open
    have Bo := B
    go_wp2_with fail
    refine (CF.out _ ha).mono ?_
    rintro e w1 ⟨rfl, b1⟩
    clear s_VR f_VR z_VR
    have S1 := b1.size
    simp only [World.size_alloc] at S1
    replace VR := VR.kept b1
    replace ha := ha.kept b1
    replace B := thenB B b1
    clear b1
    obtain ⟨s_VR, f_VR, z_VR⟩ := VR.open
    have Bo := B
    clear s_VR f_VR z_VR
    clear ha CF Bo
    go_wp2
    go_loopw [4, 15] (fun t i wr => ∃ (k j d : Nat) (c : Option Addr) (os : List Int), k ≤ n ∧ i = .int .i64 k ∧ t = .slice c j d ∧ enSu (xs.take k) = os ∧ os.length = j ∧ j ≤ 4 * k ∧ Own .u8 5 wr (w.heap.size + 1) c d os ∧ V wr w.heap.size [.int .i64 0, .slice none 0 0] ∧ Below w.heap.size w wr) (fun _ i _ => n - (intOf i).toNat)
    case atStart => exact ⟨0, 0, 0, none, [], Nat.zero_le _, rfl, rfl, rfl, rfl, Nat.le_refl _, own_none, VR, B⟩
    case round =>
      clear VR B
      obtain ⟨k, j, d, c, os, hk, rfl, rfl, hos, hj, hjk, O, VR, B⟩ := hrel
      by_cases hlt : k < n
      · obtain ⟨z, hz⟩ : ∃ z, xs.getD k zSuite = z := ⟨_, rfl⟩
        have hki : (k : Int) < (n : Int) := by omega
        have ha := HX.out.kept B
        have hzo := (okSu_iff z).1 (by rw [← hz]; exact hok _ (getDSuite_mem (by omega)))
        have hst := enSu_take xs k (by omega) hz
        rw [hos] at hst
        rcases ha with ha | ⟨b1, o1, rfl, hca⟩
        · rw [ha] at hn; simp at hn; omega
        obtain ⟨p0, p1, p2, p3⟩ := RdSuite.cells hca k (by omega) z hz
        obtain ⟨⟨c1, c2⟩, hb, ⟨m1, m2⟩, g1, g2⟩ := hzo
        have hq := quo_bits hb
        have hq1 : 2 ≤ z.b / 64 ∧ z.b / 64 ≤ 4 := by omega
        generalize z.b / 64 = q at *
        have w1 : IntKind.u8.wrap z.c = z.c := by rw [IntKind.wrap_u8]; omega
        have w2 : IntKind.u8.wrap q = q := by rw [IntKind.wrap_u8]; omega
        have w3 : IntKind.u8.wrap z.m = z.m := by rw [IntKind.wrap_u8]; omega
        have w4 : IntKind.u8.wrap z.g = z.g := by rw [IntKind.wrap_u8]; omega
        have HJ := Hid.mk hj
        have HS := Hid.mk hst
        clear hca hz hlt hos hj hst c1 c2 hb m1 m2 g1 g2 hq1
        obtain ⟨s_VR, f_VR, z_VR⟩ := VR.open
        replace VR := VR.kept (belowA wr (.cells #[.int .i64 z.c, .int .i64 z.b, .int .i64 z.m, .int .i64 z.g] 28))
        replace O := O.kept (belowA wr (.cells #[.int .i64 z.c, .int .i64 z.b, .int .i64 z.m, .int .i64 z.g] 28))
        replace B := thenB B (belowA wr (.cells #[.int .i64 z.c, .int .i64 z.b, .int .i64 z.m, .int .i64 z.g] 28))
        have VZ := V.new wr [.int .i64 z.c, .int .i64 z.b, .int .i64 z.m, .int .i64 z.g] 28
        clear s_VR f_VR z_VR
        obtain ⟨s_VR, f_VR, z_VR⟩ := VR.open
        obtain ⟨s_VZ, f_VZ, z_VZ⟩ := VZ.open
        have Bo := B
        have bq := belowA (wr.alloc (.cells #[.int .i64 z.c, .int .i64 z.b, .int .i64 z.m, .int .i64 z.g] 28)) (.cells #[.int .u8 z.c, .int .u8 q, .int .u8 z.m, .int .u8 z.g] 5)
        have O5 := Hid.mk (O.kept bq)
        have VR5 := Hid.mk (VR.kept bq)
        have B5 := Hid.mk (thenB B bq)
        have RL : Hid (Rd .u8 ((wr.alloc (.cells #[.int .i64 z.c, .int .i64 z.b, .int .i64 z.m, .int .i64 z.g] 28)).alloc (.cells #[.int .u8 z.c, .int .u8 q, .int .u8 z.m, .int .u8 z.g] 5)) (some ⟨wr.heap.size + 1, 0, none⟩) [z.c, q, z.m, z.g]) := Hid.mk (by have h := Rd.lit (wr.alloc (.cells #[.int .i64 z.c, .int .i64 z.b, .int .i64 z.m, .int .i64 z.g] 28)) 5 [z.c, q, z.m, z.g]; simp only [World.size_alloc, List.map_cons, List.map_nil] at h; exact h)
        have hb4 : w.heap.size + 1 ≤ ((wr.alloc (.cells #[.int .i64 z.c, .int .i64 z.b, .int .i64 z.m, .int .i64 z.g] 28)).alloc (.cells #[.int .u8 z.c, .int .u8 q, .int .u8 z.m, .int .u8 z.g] 5)).heap.size := by have := VR.1; simp only [World.size_alloc] at *; omega
        clear bq O B Bo
        clear s_VR f_VR z_VR s_VZ f_VZ z_VZ
        obtain ⟨s_VR, f_VR, z_VR⟩ := VR.open
        obtain ⟨s_VZ, f_VZ, z_VZ⟩ := VZ.open
        go_wp2_with (at_builtin; go_loud (refine wpList_put _ rfl _ _ 22 rfl (w.heap.size + 1) 5 i0 Try.underlying22 hi q0 q1 q2 _ _ j _ rfl O5.out HJ.out _ 4 4 [z.c, q, z.m, z.g] rfl RL.out rfl (fun h => by cases h) (j + 4) (os ++ [z.c, q, z.m, z.g]) rfl rfl (by omega) hb4 ?_))
        intro c6 d6 w6 O6 b6
        have VR6 := VR5.out.keptB (by omega) b6
        have B6 := B5.out.trans (b6.mono (by omega))
        have HJ6 : Hid ((os ++ [z.c, q, z.m, z.g]).length = j + 4) := Hid.mk (by rw [List.length_append, HJ.out]; rfl)
        clear s_VR f_VR z_VR s_VZ f_VZ z_VZ
        have VR7 := Hid.mk VR6
        have B7 := Hid.mk B6
        have O7 := Hid.mk O6
        clear VR6 B6 O6 b6 O5 VR5 B5 RL VR VZ
        go_wp2
        go_roundw
        case rel => exact ⟨k + 1, j + 4, d6, c6, _, by omega, by go_num, rfl, HS.out, HJ6.out, by omega, O7.out, VR7.out, B7.out⟩
        case measure => simp [intOf]; omega
      · have hkn : k = n := by omega
        subst hkn
        rw [List.take_of_length_le (by omega)] at hos
        have HO := Hid.mk hos
        have HJ := Hid.mk hj
        have OLT := Hid.mk O.lt
        clear hos hj
        have VF := Hid.mk (VR.filled [.int .i64 0, .slice c j d] rfl)
        have BR := belowCells B (show w.heap.size ≤ w.heap.size by (first | omega | (simp; done) | (simp; omega))) 0 [.int .i64 0, .slice c j d]
        have HT := Hid.mk VR.there
        replace BR := Hid.mk BR
        have OF := Hid.mk ((ownCellsB O (B := w.heap.size) (fun b hb => by have := (OLT.out b hb).1; omega) 0 [.int .i64 0, .slice c j d]).mono (show w.heap.size ≤ w.heap.size + 1 by omega))
        clear O
        obtain ⟨s_VR, f_VR, z_VR⟩ := VR.open
        go_wp2_with (refine wpList_store_mid rfl 38 _ _ rfl (w.heap.size) 0 #[.int .i64 0, .slice c j d] rfl rfl HT.out (by kernel_rfl) (by kernel_rfl) ?_)
        refine bodyPost_ret (v := .agg #[.int .i64 0, .slice c j d]) (results_row Try.results19 _ _ (w.heap.size) [.int .i64 0, .slice c j d] _ rfl VF.out Try.underlying38 rfl (by kernel_rfl)) rfl ⟨c, d, by rw [HO.out, HJ.out], by rw [HO.out]; exact OF.out, BR.out⟩
  · have eL := Hid.mk (enK_no h0)
    have hne : (ssF xs != 0) = true := by simp [h0]
    generalize ssF xs = kc at *
    clear h0 hx hc hn
    go_enter Try.func19, Try.ntmps19
    have B := Below.refl w.heap.size w
    replace ha := ha.kept (belowA w (.cells #[.int .i64 0, .slice none 0 0] 38))
    replace B := thenB B (belowA w (.cells #[.int .i64 0, .slice none 0 0] 38))
    have VR := V.new w [.int .i64 0, .slice none 0 0] 38
    obtain ⟨s_VR, f_VR, z_VR⟩ := VR.open
    have Bo := B
    go_wp2_with fail
    refine (CF.out _ ha).mono ?_
    rintro e w1 ⟨rfl, b1⟩
    clear s_VR f_VR z_VR
    have S1 := b1.size
    simp only [World.size_alloc] at S1
    replace VR := VR.kept b1
    replace ha := ha.kept b1
    replace B := thenB B b1
    clear b1
    obtain ⟨s_VR, f_VR, z_VR⟩ := VR.open
    have Bo := B
    clear s_VR f_VR z_VR
    have VF := Hid.mk (VR.filled [.int .i64 kc, .slice none 0 0] rfl)
    have BR := belowCells B (show w.heap.size ≤ w.heap.size by (first | omega | (simp; done) | (simp; omega))) 0 [.int .i64 kc, .slice none 0 0]
    have HT := Hid.mk VR.there
    replace BR := Hid.mk BR
    obtain ⟨s_VR, f_VR, z_VR⟩ := VR.open
    go_wp2_with (refine wpList_store_mid rfl 38 _ _ rfl (w.heap.size) 0 #[.int .i64 kc, .slice none 0 0] rfl rfl HT.out (by kernel_rfl) (by kernel_rfl) ?_)
    refine bodyPost_ret (v := .agg #[.int .i64 kc, .slice none 0 0]) (results_row Try.results19 _ _ (w.heap.size) [.int .i64 kc, .slice none 0 0] _ rfl VF.out Try.underlying38 rfl (by kernel_rfl)) rfl ⟨none, 0, by rw [eL.out]; rfl, by rw [eL.out]; exact own_none, BR.out⟩

set_option maxRecDepth 20000 in
set_option maxHeartbeats 8000000 in
theorem specEncode_ok (a : Option Addr) (n ca : Nat) (xs : List Su) (w : World) (ha : RdSuite w a xs) (hn : xs.length = n) (hc : n ≤ ca) (hx : ca ≤ maxLen) :
    Calls Try.prog 37 #[.slice a n ca] w fun e w' => ∃ (c : Option Addr) (d : Nat), e = .returned (.agg #[.int .i64 (ssF xs), .slice c (enK xs).length d]) ∧ Own .u8 5 w' w.heap.size c d (enK xs) ∧ Below w.heap.size w w' := by
  obtain ⟨i0, hi, q0, q1, q2⟩ := info_parts Try.info_u8
  have CF := Hid.mk (fun w h => specSuitesFault_ok a n ca xs w h hn hc hx)
  by_cases h0 : ssF xs = 0
  · have hn10 : n ≤ 10 := by have := (ssF_ok h0).2.1; omega
    have hok := (ssF_ok h0).2.2.2
    rw [enK_yes h0]
    simp only [h0] at CF
    rw [h0]
    have HX := Hid.mk ha
    clear h0
    go_enter Try.func37, Try.ntmps37
    have B := Below.refl w.heap.size w
    replace ha := ha.kept (belowA w (.cells #[.int .i64 0, .slice none 0 0] 38))
    replace B := thenB B (belowA w (.cells #[.int .i64 0, .slice none 0 0] 38))
    have VR := V.new w [.int .i64 0, .slice none 0 0] 38
    obtain ⟨s_VR, f_VR, z_VR⟩ := VR.open
    have Bo := B
    go_wp2_with fail
    refine (CF.out _ ha).mono ?_
    rintro e w1 ⟨rfl, b1⟩
    clear s_VR f_VR z_VR
    have S1 := b1.size
    simp only [World.size_alloc] at S1
    replace VR := VR.kept b1
    replace ha := ha.kept b1
    replace B := thenB B b1
    clear b1
    obtain ⟨s_VR, f_VR, z_VR⟩ := VR.open
    have Bo := B
    clear ha CF Bo
    replace VR := VR.kept (belowA w1 (.cells #[.int .i64 0, .slice none 0 0] 38))
    replace B := thenB B (belowA w1 (.cells #[.int .i64 0, .slice none 0 0] 38))
    have VO := V.new w1 [.int .i64 0, .slice none 0 0] 38
    clear s_VR f_VR z_VR
    have hVR := VR.1
    have HB := Hid.mk B
    replace VR := Hid.mk VR
    have hsz : w.heap.size + 1 ≤ w1.heap.size := by omega
    obtain ⟨s_VO, f_VO, z_VO⟩ := VO.open
    have hT := Hid.mk VO.there
    have VF := VO.filled [.int .i64 0, .slice none 0 0] rfl
    have VR1 := VR.out.apart (B := w1.heap.size) (by omega) 0 [.int .i64 0, .slice none 0 0]
    have B1 := belowCells HB.out (show w.heap.size ≤ w1.heap.size by omega) 0 [.int .i64 0, .slice none 0 0]
    obtain ⟨w6, hw6⟩ : ∃ w6, (w1.alloc (.cells #[.int .i64 0, .slice none 0 0] 38)).setCells w1.heap.size 0 [.int .i64 0, .slice none 0 0] = w6 := ⟨_, rfl⟩
    rw [hw6] at VF VR1 B1
    replace hw6 := Hid.mk hw6
    replace VF := Hid.mk VF
    replace VR1 := Hid.mk VR1
    replace B1 := Hid.mk B1
    clear VO HB VR B
    go_upto_region 4 with (refine wpList_stroke w6 rfl 38 _ _ rfl (w1.heap.size) 0 #[.int .i64 0, .slice none 0 0] rfl rfl hT.out (by kernel_rfl) (by kernel_rfl) hw6.out ?_)
    go_upto_region 5 with (refine wpList_stroke w6 rfl 38 _ _ rfl (w1.heap.size) 0 #[.int .i64 0, .slice none 0 0] rfl rfl hT.out (by kernel_rfl) (by kernel_rfl) hw6.out ?_)
    clear s_VO f_VO z_VO hT hw6
    generalize hQ : w1.heap.size = Q at *
    go_wp2
    go_loopw [5] (fun i wr => ∃ (k j d : Nat) (c : Option Addr) (os : List Int), k ≤ n ∧ i = .int .i64 k ∧ enSu (xs.take k) = os ∧ os.length = j ∧ j ≤ 4 * k ∧ Own .u8 5 wr (Q + 1) c d os ∧ V wr w.heap.size [.int .i64 0, .slice none 0 0] ∧ V wr Q [.int .i64 0, .slice c j d] ∧ Below w.heap.size w wr) (fun i _ => n - (intOf i).toNat)
    case atStart => exact ⟨0, 0, 0, none, [], Nat.zero_le _, rfl, rfl, rfl, Nat.le_refl _, own_none, VR1.out, VF.out, B1.out⟩
    case round =>
      clear VR1 VF B1
      obtain ⟨k, j, d, c, os, hk, rfl, hos, hj, hjk, O, VR, VO, B⟩ := hrel
      by_cases hlt : k < n
      · obtain ⟨z, hz⟩ : ∃ z, xs.getD k zSuite = z := ⟨_, rfl⟩
        have hki : (k : Int) < (n : Int) := by omega
        have ha := HX.out.kept B
        have hzo := (okSu_iff z).1 (by rw [← hz]; exact hok _ (getDSuite_mem (by omega)))
        have hst := enSu_take xs k (by omega) hz
        rw [hos] at hst
        rcases ha with ha | ⟨b1, o1, rfl, hca⟩
        · rw [ha] at hn; simp at hn; omega
        obtain ⟨p0, p1, p2, p3⟩ := RdSuite.cells hca k (by omega) z hz
        obtain ⟨⟨c1, c2⟩, hb, ⟨m1, m2⟩, g1, g2⟩ := hzo
        have hq := quo_bits hb
        have hq1 : 2 ≤ z.b / 64 ∧ z.b / 64 ≤ 4 := by omega
        generalize z.b / 64 = q at *
        have w1 : IntKind.u8.wrap z.c = z.c := by rw [IntKind.wrap_u8]; omega
        have w2 : IntKind.u8.wrap q = q := by rw [IntKind.wrap_u8]; omega
        have w3 : IntKind.u8.wrap z.m = z.m := by rw [IntKind.wrap_u8]; omega
        have w4 : IntKind.u8.wrap z.g = z.g := by rw [IntKind.wrap_u8]; omega
        have HJ := Hid.mk hj
        have HS := Hid.mk hst
        clear hca hz hlt hos hj hst c1 c2 hb m1 m2 g1 g2 hq1
        obtain ⟨s_VR, f_VR, z_VR⟩ := VR.open
        obtain ⟨s_VO, f_VO, z_VO⟩ := VO.open
        replace VR := VR.kept (belowA wr (.cells #[.int .i64 z.c, .int .i64 z.b, .int .i64 z.m, .int .i64 z.g] 28))
        replace VO := VO.kept (belowA wr (.cells #[.int .i64 z.c, .int .i64 z.b, .int .i64 z.m, .int .i64 z.g] 28))
        replace O := O.kept (belowA wr (.cells #[.int .i64 z.c, .int .i64 z.b, .int .i64 z.m, .int .i64 z.g] 28))
        replace B := thenB B (belowA wr (.cells #[.int .i64 z.c, .int .i64 z.b, .int .i64 z.m, .int .i64 z.g] 28))
        have VZ := V.new wr [.int .i64 z.c, .int .i64 z.b, .int .i64 z.m, .int .i64 z.g] 28
        clear s_VR f_VR z_VR s_VO f_VO z_VO
        obtain ⟨s_VR, f_VR, z_VR⟩ := VR.open
        obtain ⟨s_VO, f_VO, z_VO⟩ := VO.open
        obtain ⟨s_VZ, f_VZ, z_VZ⟩ := VZ.open
        have Bo := B
        have bq := belowA (wr.alloc (.cells #[.int .i64 z.c, .int .i64 z.b, .int .i64 z.m, .int .i64 z.g] 28)) (.cells #[.int .u8 z.c, .int .u8 q, .int .u8 z.m, .int .u8 z.g] 5)
        have O5 := Hid.mk (O.kept bq)
        have VR5 := Hid.mk (VR.kept bq)
        have VO5 := Hid.mk (VO.kept bq)
        have B5 := Hid.mk (thenB B bq)
        have RL : Hid (Rd .u8 ((wr.alloc (.cells #[.int .i64 z.c, .int .i64 z.b, .int .i64 z.m, .int .i64 z.g] 28)).alloc (.cells #[.int .u8 z.c, .int .u8 q, .int .u8 z.m, .int .u8 z.g] 5)) (some ⟨wr.heap.size + 1, 0, none⟩) [z.c, q, z.m, z.g]) := Hid.mk (by have h := Rd.lit (wr.alloc (.cells #[.int .i64 z.c, .int .i64 z.b, .int .i64 z.m, .int .i64 z.g] 28)) 5 [z.c, q, z.m, z.g]; simp only [World.size_alloc, List.map_cons, List.map_nil] at h; exact h)
        have hb4 : Q + 1 ≤ ((wr.alloc (.cells #[.int .i64 z.c, .int .i64 z.b, .int .i64 z.m, .int .i64 z.g] 28)).alloc (.cells #[.int .u8 z.c, .int .u8 q, .int .u8 z.m, .int .u8 z.g] 5)).heap.size := by have := VR.1; have := VO.1; simp only [World.size_alloc] at *; omega
        clear bq O B Bo
        clear s_VR f_VR z_VR s_VO f_VO z_VO s_VZ f_VZ z_VZ
        obtain ⟨s_VR, f_VR, z_VR⟩ := VR.open
        obtain ⟨s_VO, f_VO, z_VO⟩ := VO.open
        obtain ⟨s_VZ, f_VZ, z_VZ⟩ := VZ.open
        go_wp2_with (at_builtin; go_loud (refine wpList_put _ rfl _ _ 22 rfl (Q + 1) 5 i0 Try.underlying22 hi q0 q1 q2 _ _ j _ rfl O5.out HJ.out _ 4 4 [z.c, q, z.m, z.g] rfl RL.out rfl (fun h => by cases h) (j + 4) (os ++ [z.c, q, z.m, z.g]) rfl rfl (by omega) hb4 ?_))
        intro c6 d6 w6 O6 b6
        have VR6 := VR5.out.keptB (by omega) b6
        have B6 := B5.out.trans (b6.mono (by omega))
        have HJ6 : Hid ((os ++ [z.c, q, z.m, z.g]).length = j + 4) := Hid.mk (by rw [List.length_append, HJ.out]; rfl)
        clear s_VR f_VR z_VR s_VO f_VO z_VO s_VZ f_VZ z_VZ
        have VO6 := VO5.out.keptB (by omega) b6
        obtain ⟨s_V6, f_V6, z_V6⟩ := VO6.open
        have hq6 := VR.1
        have VO7 := VO6.set (i := 1) (by simp) (.slice c6 (j + 4) d6)
        simp only [List.set_cons_zero, List.set_cons_succ] at VO7
        replace VO7 := Hid.mk VO7
        have VR7 := Hid.mk (VR6.other (p := ⟨Q, 1, none⟩) (by simp only; omega) (.slice c6 (j + 4) d6))
        have O7 := Hid.mk (O6.below (p := ⟨Q, 1, none⟩) (Nat.lt_succ_self _) (.slice c6 (j + 4) d6))
        have B7 := Hid.mk (B6.setCell (p := ⟨Q, 1, none⟩) (by simp only; omega) (.slice c6 (j + 4) d6))
        clear VR6 B6 O6 b6 O5 VR5 B5 RL VR VZ VO VO5 VO6
        go_wp2
        go_roundw
        case rel => exact ⟨k + 1, j + 4, d6, c6, _, by omega, by go_num, HS.out, HJ6.out, by omega, O7.out, VR7.out, VO7.out, B7.out⟩
        case measure => simp [intOf]; omega
      · have hkn : k = n := by omega
        subst hkn
        rw [List.take_of_length_le (by omega)] at hos
        have HO := Hid.mk hos
        have HJ := Hid.mk hj
        have OLT := Hid.mk O.lt
        clear hos hj
        have hVR := VR.1
        have hVO := VO.1
        have VF := Hid.mk (VR.filled [.int .i64 0, .slice c j d] rfl)
        have BR := belowCells B (show w.heap.size ≤ w.heap.size by (first | omega | (simp; done) | (simp; omega))) 0 [.int .i64 0, .slice c j d]
        have HT := Hid.mk VR.there
        replace BR := Hid.mk BR
        have OF := Hid.mk ((ownCellsB O (B := w.heap.size) (fun b hb => by have := (OLT.out b hb).1; omega) 0 [.int .i64 0, .slice c j d]).mono (show w.heap.size ≤ Q + 1 by omega))
        clear O
        obtain ⟨s_VR, f_VR, z_VR⟩ := VR.open
        obtain ⟨s_VO, f_VO, z_VO⟩ := VO.open
        go_wp2_with (refine wpList_store_mid rfl 38 _ _ rfl (w.heap.size) 0 #[.int .i64 0, .slice c j d] rfl rfl HT.out (by kernel_rfl) (by kernel_rfl) ?_)
        refine bodyPost_ret (v := .agg #[.int .i64 0, .slice c j d]) (results_row Try.results37 _ _ (w.heap.size) [.int .i64 0, .slice c j d] _ rfl VF.out Try.underlying38 rfl (by kernel_rfl)) rfl ⟨c, d, by rw [HO.out, HJ.out], by rw [HO.out]; exact OF.out, BR.out⟩
  · have eL := Hid.mk (enK_no h0)
    have hne : (ssF xs != 0) = true := by simp [h0]
    generalize ssF xs = kc at *
    clear h0 hx hc hn
    go_enter Try.func37, Try.ntmps37
    have B := Below.refl w.heap.size w
    replace ha := ha.kept (belowA w (.cells #[.int .i64 0, .slice none 0 0] 38))
    replace B := thenB B (belowA w (.cells #[.int .i64 0, .slice none 0 0] 38))
    have VR := V.new w [.int .i64 0, .slice none 0 0] 38
    obtain ⟨s_VR, f_VR, z_VR⟩ := VR.open
    have Bo := B
    go_wp2_with fail
    refine (CF.out _ ha).mono ?_
    rintro e w1 ⟨rfl, b1⟩
    clear s_VR f_VR z_VR
    have S1 := b1.size
    simp only [World.size_alloc] at S1
    replace VR := VR.kept b1
    replace ha := ha.kept b1
    replace B := thenB B b1
    clear b1
    obtain ⟨s_VR, f_VR, z_VR⟩ := VR.open
    have Bo := B
    clear s_VR f_VR z_VR
    have VF := Hid.mk (VR.filled [.int .i64 kc, .slice none 0 0] rfl)
    have BR := belowCells B (show w.heap.size ≤ w.heap.size by (first | omega | (simp; done) | (simp; omega))) 0 [.int .i64 kc, .slice none 0 0]
    have HT := Hid.mk VR.there
    replace BR := Hid.mk BR
    obtain ⟨s_VR, f_VR, z_VR⟩ := VR.open
    go_wp2_with (refine wpList_store_mid rfl 38 _ _ rfl (w.heap.size) 0 #[.int .i64 kc, .slice none 0 0] rfl rfl HT.out (by kernel_rfl) (by kernel_rfl) ?_)
    refine bodyPost_ret (v := .agg #[.int .i64 kc, .slice none 0 0]) (results_row Try.results37 _ _ (w.heap.size) [.int .i64 kc, .slice none 0 0] _ rfl VF.out Try.underlying38 rfl (by kernel_rfl)) rfl ⟨none, 0, by rw [eL.out]; rfl, by rw [eL.out]; exact own_none, BR.out⟩


end Go.Proofs.Ythaaompkcomfcaa
