/- SizeOf: both sides. -/
import Derived.Test.YtedippfnlaiapaaDoorTmV
namespace Go.Proofs.YtedippfnlaiapaaDoor
open Go.RowKit

set_option maxHeartbeats 1000000 in
theorem l5At_ok (a : Option Addr) (n ca : Nat) (q : Int) (w : World) (hx : n ≤ maxLen) :
    Calls Tryd.prog 27 #[.slice a n ca, .int .i64 q] w fun e w' => e = .returned (.bool (btw q 0 ((n : Int) - 1))) ∧ w' = w := by
  unfold maxLen at hx
  have CI := Hid.mk (l1In_ok q 0 ((n : Int) - 1))
  go_enter Tryd.func27, Tryd.ntmps27
  go_wp2_with fail
  refine (CI.out _).mono ?_
  rintro e wq ⟨rfl, rfl⟩
  go_wp2
  go_ret
  exact ⟨rfl, rfl⟩

set_option maxHeartbeats 1000000 in
theorem l5Asked_ok (a : Option Addr) (n ca : Nat) (xs : List T4) (q : Int) (w : World) (ha : RdTerm w a xs) (hn : xs.length = n) (hx : n ≤ maxLen) (hca : n ≤ ca) :
    Calls Tryd.prog 34 #[.slice a n ca, .int .i64 q] w fun e w' => e = .returned (.int .i64 (akC xs q)) ∧ Below w.heap.size w w' := by
  have CT := Hid.mk (specTermsFault_ok a n ca xs w ha hn hx hca)
  have CA := Hid.mk (fun w => l5At_ok a n ca q w hx)
  have HW := ak_ways xs q
  rw [hn] at HW
  clear ha
  rcases HW with ⟨h1, hr⟩ | ⟨h1, h2, hr⟩ | ⟨h1, h2, hr⟩
  · rw [hr]
    have h3 : (tfC xs != 0) = true := by simp [h1]
    clear hr h1
    generalize tfC xs = kk at *
    go_enter Tryd.func34, Tryd.ntmps34
    go_wp2_with fail
    refine CT.out.mono ?_
    rintro e w1 ⟨rfl, b1⟩
    go_wp2
    go_ret
    exact ⟨rfl, b1⟩
  all_goals
    rw [hr]
    rw [h1] at CT
    rw [h2] at CA
    clear hr h1 h2
    go_enter Tryd.func34, Tryd.ntmps34
    go_wp2_with fail
    refine CT.out.mono ?_
    rintro e w1 ⟨rfl, b1⟩
    go_wp2_with fail
    refine (CA.out _).mono ?_
    rintro e w1 ⟨rfl, rfl⟩
    go_wp2
    go_ret
    exact ⟨rfl, b1⟩

theorem plsOk_one (m : Nat) (q : Int) : plsOk m [q] = btw q 0 ((m : Int) - 1) := by unfold plsOk; simp

set_option maxHeartbeats 1000000 in
theorem placeFault_ok (a : Option Addr) (n ca : Nat) (xs : List T4) (q : Int) (w : World) (ha : RdTerm w a xs) (hn : xs.length = n) (hx : n ≤ maxLen) (hok : ∀ t ∈ xs, okT t) :
    Calls Tryd.prog 29 #[.slice a n ca, .int .i64 q] w fun e w' => e = .returned (.int .i64 (akC xs q)) ∧ Below w.heap.size w w' := by
  have CT := Hid.mk (implTermsFault_ok a n ca xs w ha hn hx hok)
  have CA := Hid.mk (fun w c d h => arePlaces_ok a n ca c 1 d [q] w h rfl hx (by unfold maxLen; omega))
  rw [plsOk_one] at CA
  have HW := ak_ways xs q
  rw [hn] at HW
  clear ha
  rcases HW with ⟨h1, hr⟩ | ⟨h1, h2, hr⟩ | ⟨h1, h2, hr⟩
  · rw [hr]
    have h3 : (tfC xs != 0) = true := by simp [h1]
    clear hr h1
    generalize tfC xs = kk at *
    go_enter Tryd.func29, Tryd.ntmps29
    go_wp2_with fail
    refine CT.out.mono ?_
    rintro e w1 ⟨rfl, b1⟩
    go_wp2
    go_ret
    exact ⟨rfl, b1⟩
  all_goals
    rw [hr]
    rw [h1] at CT
    rw [h2] at CA
    clear hr h1 h2
    go_enter Tryd.func29, Tryd.ntmps29
    go_wp2_with fail
    refine CT.out.mono ?_
    rintro e w1 ⟨rfl, b1⟩
    have hR := (OwnI.lit w1 [q] [.int .i64 q] rfl (by unfold maxLen; simp)).rd
    have b2 := thenB b1 (belowA w1 (.cells #[.int .i64 q] 2))
    go_wp2_with fail
    refine (CA.out _ _ _ hR).mono ?_
    rintro e wq ⟨rfl, rfl⟩
    go_wp2
    go_ret
    exact ⟨rfl, b2⟩

theorem fill_at' (xs : List Int) (k n : Nat) (h : xs.length = n) (hk : k ≤ n) (i : Nat) (hi : i < k) : (fill xs k n).getD i 0 = xs.getD i 0 := by
  unfold fill
  simp only [List.getD]
  rw [List.getElem?_append_left (by rw [List.length_take]; omega), List.getElem?_take_of_lt hi]

set_option maxRecDepth 20000 in
set_option maxHeartbeats 8000000 in
theorem implSizeOf_ok (a : Option Addr) (n ca : Nat) (xs : List T4) (q : Int) (w : World) (ha : RdTerm w a xs) (hn : xs.length = n) (hx : n ≤ maxLen) (hca : n ≤ ca) (hok : ∀ t ∈ xs, okT t) :
    Calls Tryd.prog 12 #[.slice a n ca, .int .i64 q] w fun e w' => e = .returned (.agg #[.int .i64 (akC xs q), .int .i64 (szV xs q)]) ∧ Below w.heap.size w w' := by
  have q1 := build_irc
  have q2 := build_irv
  have CA := Hid.mk (fun w h => placeFault_ok a n ca xs q w h hn hx hok)
  rcases szV_ways xs q with ⟨h1, hr⟩ | ⟨h1, hr⟩
  · rw [hr]
    have h2 : (akC xs q != 0) = true := by simp [h1]
    clear hr h1
    generalize akC xs q = kk at *
    go_enter Tryd.func12, Tryd.ntmps12
    have B := Below.refl w.heap.size w
    replace ha := ha.kept (belowA w (.cells #[.int .i64 0, .int .i64 0] 36))
    replace B := thenB B (belowA w (.cells #[.int .i64 0, .int .i64 0] 36))
    have VR := V.new w [.int .i64 0, .int .i64 0] 36
    obtain ⟨s_VR, f_VR, z_VR⟩ := VR.open
    have Bo := B
    go_wp2_with fail
    refine (CA.out _ ha).mono ?_
    rintro e w41 ⟨rfl, b41⟩
    clear s_VR f_VR z_VR
    have S41 := b41.size
    simp only [World.size_alloc] at S41
    replace VR := VR.kept b41
    replace ha := ha.kept b41
    replace B := thenB B b41
    clear b41
    obtain ⟨s_VR, f_VR, z_VR⟩ := VR.open
    have Bo := B
    clear s_VR f_VR z_VR
    have VF := Hid.mk (VR.filled [.int .i64 kk, .int .i64 0] rfl)
    have HT := Hid.mk VR.there
    have BR := belowCells B (show w.heap.size ≤ w.heap.size by (first | omega | (simp; done) | (simp; omega))) 0 [.int .i64 kk, .int .i64 0]
    replace BR := Hid.mk BR
    obtain ⟨s_VR, f_VR, z_VR⟩ := VR.open
    go_wp2_with (refine wpList_store_mid rfl 36 _ _ rfl (w.heap.size) 0 #[.int .i64 kk, .int .i64 0] rfl rfl HT.out (by kernel_rfl) (by kernel_rfl) ?_)
    refine bodyPost_ret (v := .agg #[.int .i64 kk, .int .i64 0]) (results_row Tryd.results12 _ _ (w.heap.size) [.int .i64 kk, .int .i64 0] _ rfl VF.out Tryd.underlying36 rfl (by kernel_rfl)) rfl ⟨rfl, BR.out⟩
  · rw [hr, h1]
    rw [h1] at CA
    obtain ⟨hv, hq0, hq1⟩ := ak_zero h1
    have hn4 : n ≤ 400 := by have := (tfC_zero hv).1; omega
    obtain ⟨m, rfl⟩ : ∃ m : Nat, q = (m : Int) := ⟨q.toNat, by omega⟩
    rw [Int.toNat_natCast]
    have hmn : m + 1 ≤ n := by omega
    have hmc : (m : Int) + 1 ≤ (ca : Int) := by omega
    have hmc2 : m + 1 ≤ ca := by omega
    have HAh := Hid.mk (tfC_ahead hv)
    have HV := Hid.mk hv
    have HA := Hid.mk ha
    have hzl := szL_len xs (m + 1)
    have HZL := Hid.mk hzl
    obtain ⟨s, hs⟩ : ∃ s, (den xs m).sz = s := ⟨_, rfl⟩
    have HSM := Hid.mk hs
    rw [hs]
    obtain ⟨i0, hi, hz0, hz1, hz2⟩ := info_parts Tryd.infoI64
    clear hr h1 hs hq0 hq1 hv
    go_enter Tryd.func12, Tryd.ntmps12
    have B := Below.refl w.heap.size w
    replace ha := ha.kept (belowA w (.cells #[.int .i64 0, .int .i64 0] 36))
    replace B := thenB B (belowA w (.cells #[.int .i64 0, .int .i64 0] 36))
    have VR := V.new w [.int .i64 0, .int .i64 0] 36
    obtain ⟨s_VR, f_VR, z_VR⟩ := VR.open
    have Bo := B
    go_wp2_with fail
    refine (CA.out _ ha).mono ?_
    rintro e w61 ⟨rfl, b61⟩
    clear s_VR f_VR z_VR
    have S61 := b61.size
    simp only [World.size_alloc] at S61
    replace VR := VR.kept b61
    replace ha := ha.kept b61
    replace B := thenB B b61
    clear b61
    obtain ⟨s_VR, f_VR, z_VR⟩ := VR.open
    have Bo := B
    have wm1 : (m : Int) + 1 ≤ 9223372036854775807 := by omega
    have hm1 : ((m : Int) + 1).toNat = m + 1 := by omega
    rcases HA.out.kept B with h0 | ⟨b1, o1, rfl, _⟩
    · rw [h0] at hn; simp at hn; omega
    go_wp2_with (at_make; go_loud (refine wpList_make_full _ rfl _ _ 38 rfl w61.heap.size 2 i0 (.int .i64 0) 1 Tryd.underlying38 hi hz0 hz1 .i64 .i64 _ _ (m + 1) rfl rfl (by omega) (by omega) (by rw [hz2]; omega) (by unfold maxLen; omega) (Nat.le_refl _) ?_))
    intro w2 hown hgrow
    have O0 : Own .i64 2 w2 w61.heap.size (some ⟨w61.heap.size, 0, none⟩) (m + 1) (fill (szL xs (m + 1)) 0 (m + 1)) := by
      refine Own.mk ?_ (length_fill _ _ _ hzl (Nat.zero_le _))
      rw [fill_zero]
      simpa [toList_madeCells_one] using hown
    have B2 := B.grown hgrow (by omega) (by intro k hk; cases hk)
    have VR2 := VR.grownR hgrow (by simp)
    have hS2 := hgrow.size
    have hQ1 : w.heap.size < w61.heap.size := VR.1
    clear hown hgrow B VR Bo ha
    clear s_VR f_VR z_VR
    obtain ⟨Q, hQ⟩ : ∃ Q, w61.heap.size = Q := ⟨_, rfl⟩
    rw [hQ] at O0 hQ1 ⊢
    replace O0 := Hid.mk O0
    replace VR2 := Hid.mk VR2
    replace B2 := Hid.mk B2
    clear hQ hS2 hi hz0 hz1 hz2
    go_wp2
    go_loopw [27] (fun i wr => ∃ k : Nat, k ≤ m + 1 ∧ i = .int .i64 k ∧ Own .i64 2 wr Q (some ⟨Q, 0, none⟩) (m + 1) (fill (szL xs (m + 1)) k (m + 1)) ∧ V wr w.heap.size [.int .i64 0, .int .i64 0] ∧ Below w.heap.size w wr) (fun i _ => m + 1 - (intOf i).toNat)
    case atStart => exact ⟨0, Nat.zero_le _, rfl, O0.out, VR2.out, B2.out⟩
    case round =>
      clear O0 VR2 B2
      obtain ⟨k, hk, rfl, O, VR, B⟩ := hrel
      by_cases hlt : k < m + 1
      · obtain ⟨x, hx1⟩ : ∃ x, xs.getD k zTerm = x := ⟨_, rfl⟩
        have hk1 : (k : Int) < (m : Int) + 1 := by omega
        have HOP := op_right HV.out k (by omega) hx1
        have HSZ := Hid.mk (sz_plc k (by omega) HAh.out hx1)
        have HPA := Hid.mk (plc_ahead k (by omega) HAh.out hx1)
        have hpl := plc_len x
        rcases HA.out.kept B with h0 | ⟨b2, o2, e2, hca2⟩
        · rw [h0] at hn; simp at hn; omega
        simp only [Option.some.injEq, Addr.mk.injEq, and_true] at e2
        obtain ⟨rfl, rfl⟩ := e2
        obtain ⟨p0, p1, p2, p3⟩ := RdTerm.cells hca2 k (by omega) x hx1
        clear hca2 hx1
        replace VR := VR.kept (belowA wr (.cells #[.int .i64 x.o, .int .i64 x.a, .int .i64 x.b, .int .i64 x.n] 66))
        replace O := O.kept (belowA wr (.cells #[.int .i64 x.o, .int .i64 x.a, .int .i64 x.b, .int .i64 x.n] 66))
        replace B := thenB B (belowA wr (.cells #[.int .i64 x.o, .int .i64 x.a, .int .i64 x.b, .int .i64 x.n] 66))
        have VX := V.new wr [.int .i64 x.o, .int .i64 x.a, .int .i64 x.b, .int .i64 x.n] 66
        obtain ⟨s_VR, f_VR, z_VR⟩ := VR.open
        obtain ⟨s_VX, f_VX, z_VX⟩ := VX.open
        have Bo := B
        go_wp2_with fail
        refine (placesIn_ok x HOP _).mono ?_
        rintro e w81 ⟨c2, d2, rfl, O2, b81⟩
        clear s_VR f_VR z_VR s_VX f_VX z_VX
        have S81 := b81.size
        simp only [World.size_alloc] at S81
        replace VR := VR.kept b81
        replace VX := VX.kept b81
        replace O := O.kept b81
        replace B := thenB B b81
        clear b81
        obtain ⟨s_VR, f_VR, z_VR⟩ := VR.open
        obtain ⟨s_VX, f_VX, z_VX⟩ := VX.open
        have Bo := B
        obtain ⟨l, hl⟩ : ∃ l, (plc x).length = l := ⟨_, rfl⟩
        rw [hl] at hpl ⊢
        have HL := Hid.mk hl
        have HO := Hid.mk O
        have HO2 := Hid.mk O2.rd
        have HB := Hid.mk B
        have HVR := Hid.mk VR
        clear O O2 B VX VR Bo p0 p1 p2 p3 hl
        clear s_VR f_VR z_VR s_VX f_VX z_VX
        go_wp2
        go_loopw [9, 35] (fun s i wq => ∃ j : Nat, j ≤ l ∧ i = .int .i64 j ∧ s = .int .i64 (1 + psz xs ((plc x).take j)) ∧ wq = w81) (fun _ i _ => l - (intOf i).toNat)
        case atStart => exact ⟨0, Nat.zero_le _, rfl, by simp [psz], rfl⟩
        case round =>
          obtain ⟨j, hj, rfl, rfl, hwq⟩ := hrel
          subst hwq
          by_cases hjl : j < l
          · obtain ⟨z, hz⟩ : ∃ z, (plc x).getD j 0 = z := ⟨_, rfl⟩
            have hj1 : (j : Int) < (l : Int) := by omega
            have hps := psz_next xs (plc x) j (by rw [HL.out]; exact hjl) hz
            have hzk := HPA.out z (by rw [← hz]; simp [List.getD, show j < (plc x).length by rw [HL.out]; exact hjl])
            obtain ⟨u, rfl⟩ : ∃ u : Nat, z = (u : Int) := ⟨z.toNat, by omega⟩
            rw [Int.toNat_natCast] at hps
            have hu : u < k := by omega
            have hum : (u : Int) < (m : Int) + 1 := by omega
            have hcu : wr.cell? ⟨Q, u, none⟩ = some (.int .i64 (den xs u).sz) := by
              have h1 := HO.out.rd
              have hfl := length_fill (szL xs (m + 1)) k (m + 1) HZL.out hk
              rcases h1 with h1 | ⟨b3, o3, e3, h1⟩
              · rw [h1] at hfl; simp at hfl
              · simp only [Option.some.injEq, Addr.mk.injEq, and_true] at e3
                obtain ⟨rfl, rfl⟩ := e3
                have h2 := h1 u (by omega)
                rw [Nat.zero_add] at h2
                rw [h2, fill_at' (szL xs (m + 1)) k (m + 1) HZL.out hk u hu, szL_at xs (m + 1) u (by omega)]
            obtain ⟨v, hv2⟩ : ∃ v, (den xs u).sz = v := ⟨_, rfl⟩
            have hvin := (den xs u).sz_in
            rw [hv2] at hcu hps hvin
            have hpin := psz_in xs ((plc x).take j)
            have htl : ((plc x).take j).length ≤ 2 := by rw [List.length_take]; omega
            obtain ⟨S, hS⟩ : ∃ S, psz xs ((plc x).take j) = S := ⟨_, rfl⟩
            rw [hS] at hps hpin ⊢
            rcases HO2.out with h0 | ⟨b4, o4, rfl, hcz⟩
            · have := HL.out; rw [h0] at this; simp at this; omega
            have pz := hcz j (by rw [HL.out]; exact hjl)
            rw [hz] at pz
            have a1 : 1 + S + v ≤ 9223372036854775807 := by omega
            have a2 : -9223372036854775808 ≤ 1 + S + v := by omega
            have HPS := Hid.mk hps
            clear hcz hz hps hv2 hS hpin htl
            go_wp2
            go_roundw
            case rel => exact ⟨j + 1, by omega, by go_num, by rw [HPS.out]; exact congrArg (Value.int IntKind.i64) (by omega), by trivial⟩
            case measure => simp [intOf]; omega
          · obtain rfl : j = l := by omega
            rw [List.take_of_length_le (by rw [HL.out]; exact Nat.le_refl _)]
            have hpin := psz_in xs (plc x)
            have hsz2 := HSZ.out
            obtain ⟨S, hS⟩ : ∃ S, psz xs (plc x) = S := ⟨_, rfl⟩
            rw [hS] at hsz2 hpin ⊢
            obtain ⟨v, hv2⟩ : ∃ v, (den xs k).sz = v := ⟨_, rfl⟩
            rw [hv2] at hsz2
            have hown := HO.out.row (length_fill _ _ _ HZL.out hk)
            have h2 : wr.frozen? ⟨Q, k, none⟩ = false := hown.frozenAt k
            have h3 : wr.cell? ⟨Q, k, none⟩ = some (.int .i64 ((fill (szL xs (m + 1)) k (m + 1)).getD k 0)) := by
              rw [hown.cellAt k (by omega)]
              simp [List.getD, length_fill _ _ _ HZL.out hk, hlt]
            have hs3 := hown.stored k (.int .i64 v)
            rw [set_map, ← hv2, ← szL_at xs (m + 1) k hlt, fill_set _ _ _ HZL.out hlt, szL_at xs (m + 1) k hlt, hv2] at hs3
            have HS3 := Hid.mk (Own.mk hs3.1 (length_fill _ _ _ HZL.out (by omega)))
            have VR3 := Hid.mk (HVR.out.other (p := ⟨Q, k, none⟩) (by simp only; omega) (.int .i64 v))
            have B3 := Hid.mk (HB.out.setCell (p := ⟨Q, k, none⟩) (by simp only; omega) (.int .i64 v))
            clear hs3 hown hS hv2
            by_cases hle : 1 + S ≤ 1000000
            · have hle2 : ¬ (1000000 < 1 + S) := by omega
              obtain rfl : v = 1 + S := by omega
              clear hsz2
              go_wp2
              go_roundw
              case rel => exact ⟨k + 1, by omega, by go_num, HS3.out, VR3.out, B3.out⟩
              case measure => simp [intOf]; omega
            · have hle2 : 1000000 < 1 + S := by omega
              obtain rfl : v = 1000000 := by omega
              clear hsz2
              go_wp2
              go_roundw
              case rel => exact ⟨k + 1, by omega, by go_num, HS3.out, VR3.out, B3.out⟩
              case measure => simp [intOf]; omega
      · obtain rfl : k = m + 1 := by omega
        rw [fill_all _ _ HZL.out] at O
        have hcm : wr.cell? ⟨Q, m, none⟩ = some (.int .i64 s) := by
          rcases O.rd with h1 | ⟨b3, o3, e3, h1⟩
          · have := HZL.out; rw [h1] at this; simp at this
          · simp only [Option.some.injEq, Addr.mk.injEq, and_true] at e3
            obtain ⟨rfl, rfl⟩ := e3
            have h2 := h1 m (by rw [HZL.out]; omega)
            rw [Nat.zero_add] at h2
            rw [h2, szL_at xs (m + 1) m (by omega), HSM.out]
        clear O
        have hmm : (m : Int) < (m : Int) + 1 := by omega
        obtain ⟨s_VR, f_VR, z_VR⟩ := VR.open
        have Bo := B
        clear s_VR f_VR z_VR
        have VF := Hid.mk (VR.filled [.int .i64 0, .int .i64 s] rfl)
        have HT := Hid.mk VR.there
        have BR := belowCells B (show w.heap.size ≤ w.heap.size by (first | omega | (simp; done) | (simp; omega))) 0 [.int .i64 0, .int .i64 s]
        replace BR := Hid.mk BR
        obtain ⟨s_VR, f_VR, z_VR⟩ := VR.open
        go_wp2_with (refine wpList_store_mid rfl 36 _ _ rfl (w.heap.size) 0 #[.int .i64 0, .int .i64 s] rfl rfl HT.out (by kernel_rfl) (by kernel_rfl) ?_)
        refine bodyPost_ret (v := .agg #[.int .i64 0, .int .i64 s]) (results_row Tryd.results12 _ _ (w.heap.size) [.int .i64 0, .int .i64 s] _ rfl VF.out Tryd.underlying36 rfl (by kernel_rfl)) rfl ⟨rfl, BR.out⟩

end Go.Proofs.YtedippfnlaiapaaDoor
