/- reckonTerm with the size above; SizeOf of the program. -/
import Derived.Test.YthjaehcfakjemaaDoorTmW
import Derived.Test.YthjaehcfakjemaaDoorWrA
namespace Go.Proofs.YthjaehcfakjemaaDoor
open Go.RowKit

/-- The sum of numbers, and the greatest of them. -/
def smI : List Int → Int
  | [] => 0
  | z :: zs => z + smI zs

def mxI : List Int → Int
  | [] => 0
  | z :: zs => max z (mxI zs)

theorem rk_mem {l : List Int} {k : Nat} (h : k < l.length) : l.getD k 0 ∈ l := by simp [List.getD, h]

theorem smI_app (ys zs : List Int) : smI (ys ++ zs) = smI ys + smI zs := by
  induction ys with
  | nil => simp [smI]
  | cons y ys ih => simp only [List.cons_append, smI, ih]; omega

theorem mxI_pos (zs : List Int) : 0 ≤ mxI zs := by
  induction zs with
  | nil => simp [mxI]
  | cons z zs ih => simp only [mxI]; omega

theorem mxI_app (ys zs : List Int) : mxI (ys ++ zs) = max (mxI ys) (mxI zs) := by
  induction ys with
  | nil => simp only [List.nil_append, mxI]; have := mxI_pos zs; omega
  | cons y ys ih => simp only [List.cons_append, mxI, ih]; omega

theorem smI_next (zs : List Int) (k : Nat) (h : k < zs.length) {z : Int} (hz : zs.getD k 0 = z) : smI (zs.take (k + 1)) = smI (zs.take k) + z := by
  rw [take_snoc zs k h, smI_app, hz]; simp [smI]

theorem mxI_next (zs : List Int) (k : Nat) (h : k < zs.length) {z : Int} (hz : zs.getD k 0 = z) (h0 : 0 ≤ z) : mxI (zs.take (k + 1)) = max (mxI (zs.take k)) z := by
  rw [take_snoc zs k h, mxI_app, hz]; simp only [mxI]; omega

theorem smI_in (zs : List Int) (h : ∀ z ∈ zs, 0 ≤ z ∧ z ≤ 1000000) : 0 ≤ smI zs ∧ smI zs ≤ 1000000 * (zs.length : Int) := by
  induction zs with
  | nil => simp [smI]
  | cons z zs ih =>
    have h1 := h z (by simp)
    have h2 := ih (fun y hy => h y (by simp [hy]))
    simp only [smI, List.length_cons]; omega

theorem mxI_in (zs : List Int) (h : ∀ z ∈ zs, 0 ≤ z ∧ z ≤ 1000000) : 0 ≤ mxI zs ∧ mxI zs ≤ 1000000 := by
  induction zs with
  | nil => simp [mxI]
  | cons z zs ih =>
    have h1 := h z (by simp)
    have h2 := ih (fun y hy => h y (by simp [hy]))
    simp only [mxI]; omega

theorem psz_smI (xs : List T4) (zs : List Int) : psz xs zs = smI (zs.map fun z => (den xs z.toNat).sz) := by
  induction zs with
  | nil => simp [psz, smI]
  | cons z zs ih => simp only [psz, List.map_cons, smI, ih]

theorem sz_rk {xs : List T4} (k : Nat) (hk : k < xs.length) (h : Ahead xs) {x : T4} (hx : xs.getD k zTerm = x) : min 1000000 (1 + smI ((plc x).map fun z => (den xs z.toNat).sz)) = (den xs k).sz := by
  rw [sz_plc k hk h hx, psz_smI]

theorem dp_rk {xs : List T4} (k : Nat) (hk : k < xs.length) (h : Ahead xs) {x : T4} (hx : xs.getD k zTerm = x) : 1 + mxI ((plc x).map fun z => (den xs z.toNat).dp) = (den xs k).dp := by
  rw [dp_step k hk h hx]
  have a1 := (den xs x.a.toNat).dp_pos
  have a2 := (den xs x.b.toNat).dp_pos
  unfold plc
  rcases kids_cases x.o with e | e | e <;> rw [e]
  · simp [mxI]
  · simp [mxI]; omega
  · simp [mxI]; omega

set_option maxHeartbeats 1000000 in
theorem sizeAbove_ok (c : Option Addr) (l d : Nat) (zs : List Int) (w : World) (hR : Rd .i64 w c zs) (hl : zs.length = l) (h2 : l ≤ 2) (hb : ∀ z ∈ zs, 0 ≤ z ∧ z ≤ 1000000) :
    Calls Tryd.prog 33 #[.slice c l d] w fun e w' => e = .returned (.int .i64 (min 1000000 (1 + smI zs))) ∧ w' = w := by
  have HR := Hid.mk hR
  have HL := Hid.mk hl
  have HB := Hid.mk hb
  clear hR hl hb
  go_enter Tryd.func33, Tryd.ntmps33
  go_wp2
  go_loopw [3, 8] (fun s i wr => ∃ j : Nat, j ≤ l ∧ i = .int .i64 j ∧ s = .int .i64 (1 + smI (zs.take j)) ∧ wr = w) (fun _ i _ => l - (intOf i).toNat)
  case atStart => exact ⟨0, Nat.zero_le _, rfl, by simp [smI], rfl⟩
  case round =>
    obtain ⟨j, hj, rfl, rfl, hw⟩ := hrel
    subst hw
    have hin := smI_in (zs.take j) (fun z hz => HB.out z (List.mem_of_mem_take hz))
    have htl : (zs.take j).length ≤ 2 := by rw [List.length_take, HL.out]; omega
    by_cases hjl : j < l
    · obtain ⟨z, hz⟩ : ∃ z, zs.getD j 0 = z := ⟨_, rfl⟩
      have hj1 : (j : Int) < (l : Int) := by omega
      have hps := smI_next zs j (by rw [HL.out]; exact hjl) hz
      have hzb := HB.out z (by rw [← hz]; exact rk_mem (by rw [HL.out]; exact hjl))
      obtain ⟨S, hS⟩ : ∃ S, smI (zs.take j) = S := ⟨_, rfl⟩
      rw [hS] at hps hin ⊢
      rcases HR.out with h0 | ⟨b4, o4, rfl, hcz⟩
      · have := HL.out; rw [h0] at this; simp at this; omega
      have pz := hcz j (by rw [HL.out]; exact hjl)
      rw [hz] at pz
      have a1 : 1 + S + z ≤ 9223372036854775807 := by omega
      have a2 : -9223372036854775808 ≤ 1 + S + z := by omega
      have HPS := Hid.mk hps
      clear hcz hz hps hS hin htl
      go_wp2
      go_roundw
      case rel => exact ⟨j + 1, by omega, by go_num, by rw [HPS.out]; exact congrArg (Value.int IntKind.i64) (by omega), by trivial⟩
      case measure => simp [intOf]; omega
    · obtain rfl : j = l := by omega
      rw [List.take_of_length_le (by rw [HL.out]; exact Nat.le_refl _)] at hin htl ⊢
      obtain ⟨S, hS⟩ : ∃ S, smI zs = S := ⟨_, rfl⟩
      rw [hS] at hin ⊢
      have HS := Hid.mk hS
      clear hS
      by_cases hle : 1 + S ≤ 1000000
      · have hle2 : ¬ (1000000 < 1 + S) := by omega
        have e : 1 + S = min 1000000 (1 + S) := by omega
        have E := Hid.mk e
        clear e
        go_wp2
        go_ret
        exact ⟨ret_int (by rw [HS.out]; exact E.out), rfl⟩
      · have hle2 : 1000000 < 1 + S := by omega
        have e : 1000000 = min 1000000 (1 + S) := by omega
        have E := Hid.mk e
        clear e
        go_wp2
        go_ret
        exact ⟨ret_int (by rw [HS.out]; exact E.out), rfl⟩

theorem fill_at' (xs : List Int) (k n : Nat) (h : xs.length = n) (hk : k ≤ n) (i : Nat) (hi : i < k) : (fill xs k n).getD i 0 = xs.getD i 0 := by
  unfold fill
  simp only [List.getD]
  rw [List.getElem?_append_left (by rw [List.length_take]; omega), List.getElem?_take_of_lt hi]

set_option maxRecDepth 20000 in
set_option maxHeartbeats 8000000 in
theorem reckonsz_ok (a : Option Addr) (n ca : Nat) (xs : List T4) (q : Int) (w : World) (ha : RdTerm w a xs) (hn : xs.length = n) (hx : n ≤ maxLen) (hca : n ≤ ca) (hok : ∀ t ∈ xs, okT t) :
    Calls Tryd.prog 32 #[.slice a n ca, .int .i64 q, .func (.func 33) #[] #[]] w fun e w' => e = .returned (.agg #[.int .i64 (akC xs q), .int .i64 (szV xs q)]) ∧ Below w.heap.size w w' := by
  have q1 := build_irc
  have q2 := build_irv
  have CA := Hid.mk (fun w h => placeFault_ok a n ca xs q w h hn hx hok)
  rcases szV_ways xs q with ⟨h1, hr⟩ | ⟨h1, hr⟩
  · rw [hr]
    have h2 : (akC xs q != 0) = true := by simp [h1]
    clear hr h1
    generalize akC xs q = kk at *
    go_enter Tryd.func32, Tryd.ntmps32
    have B := Below.refl w.heap.size w
    replace ha := ha.kept (belowA w (.cells #[.int .i64 0, .int .i64 0] 36))
    replace B := thenB B (belowA w (.cells #[.int .i64 0, .int .i64 0] 36))
    have VR := V.new w [.int .i64 0, .int .i64 0] 36
    obtain ⟨s_VR, f_VR, z_VR⟩ := VR.open
    have Bo := B
    go_wp2_with fail
    refine (CA.out _ ha).mono ?_
    rintro e w41 ⟨rfl, b41⟩
    clear s_VR f_VR z_VR
    have S41 := b41.size
    simp only [World.size_alloc] at S41
    replace VR := VR.kept b41
    replace ha := ha.kept b41
    replace B := thenB B b41
    clear b41
    obtain ⟨s_VR, f_VR, z_VR⟩ := VR.open
    have Bo := B
    clear s_VR f_VR z_VR
    have VF := Hid.mk (VR.filled [.int .i64 kk, .int .i64 0] rfl)
    have HT := Hid.mk VR.there
    have BR := belowCells B (show w.heap.size ≤ w.heap.size by (first | omega | (simp; done) | (simp; omega))) 0 [.int .i64 kk, .int .i64 0]
    replace BR := Hid.mk BR
    obtain ⟨s_VR, f_VR, z_VR⟩ := VR.open
    go_wp2_with (refine wpList_store_mid rfl 36 _ _ rfl (w.heap.size) 0 #[.int .i64 kk, .int .i64 0] rfl rfl HT.out (by kernel_rfl) (by kernel_rfl) ?_)
    refine bodyPost_ret (v := .agg #[.int .i64 kk, .int .i64 0]) (results_row Tryd.results32 _ _ (w.heap.size) [.int .i64 kk, .int .i64 0] _ rfl VF.out Tryd.underlying36 rfl (by kernel_rfl)) rfl ⟨rfl, BR.out⟩
  · rw [hr, h1]
    rw [h1] at CA
    obtain ⟨hv, hq0, hq1⟩ := ak_zero h1
    have hn4 : n ≤ 400 := by have := (tfC_zero hv).1; omega
    obtain ⟨m, rfl⟩ : ∃ m : Nat, q = (m : Int) := ⟨q.toNat, by omega⟩
    rw [Int.toNat_natCast]
    have hmn : m + 1 ≤ n := by omega
    have hmc : (m : Int) + 1 ≤ (ca : Int) := by omega
    have hmc2 : m + 1 ≤ ca := by omega
    have HAh := Hid.mk (tfC_ahead hv)
    have HV := Hid.mk hv
    have HA := Hid.mk ha
    have HBD := Hid.mk (show ∀ i, i < xs.length → 0 ≤ (den xs i).sz ∧ (den xs i).sz ≤ 1000000 from fun i _ => by have := (den xs i).sz_in; omega)
    have hzl := szL_len xs (m + 1)
    have HZL := Hid.mk hzl
    obtain ⟨s, hs⟩ : ∃ s, (den xs m).sz = s := ⟨_, rfl⟩
    have HSM := Hid.mk hs
    rw [hs]
    obtain ⟨i0, hi, hz0, hz1, hz2⟩ := info_parts Tryd.infoI64
    clear hr h1 hs hq0 hq1 hv
    go_enter Tryd.func32, Tryd.ntmps32
    have B := Below.refl w.heap.size w
    replace ha := ha.kept (belowA w (.cells #[.int .i64 0, .int .i64 0] 36))
    replace B := thenB B (belowA w (.cells #[.int .i64 0, .int .i64 0] 36))
    have VR := V.new w [.int .i64 0, .int .i64 0] 36
    obtain ⟨s_VR, f_VR, z_VR⟩ := VR.open
    have Bo := B
    go_wp2_with fail
    refine (CA.out _ ha).mono ?_
    rintro e w61 ⟨rfl, b61⟩
    clear s_VR f_VR z_VR
    have S61 := b61.size
    simp only [World.size_alloc] at S61
    replace VR := VR.kept b61
    replace ha := ha.kept b61
    replace B := thenB B b61
    clear b61
    obtain ⟨s_VR, f_VR, z_VR⟩ := VR.open
    have Bo := B
    have wm1 : (m : Int) + 1 ≤ 9223372036854775807 := by omega
    have hm1 : ((m : Int) + 1).toNat = m + 1 := by omega
    rcases HA.out.kept B with h0 | ⟨b1, o1, rfl, _⟩
    · rw [h0] at hn; simp at hn; omega
    go_wp2_with (at_make; go_loud (refine wpList_make_full _ rfl _ _ 38 rfl w61.heap.size 2 i0 (.int .i64 0) 1 Tryd.underlying38 hi hz0 hz1 .i64 .i64 _ _ (m + 1) rfl rfl (by omega) (by omega) (by rw [hz2]; omega) (by unfold maxLen; omega) (Nat.le_refl _) ?_))
    intro w2 hown hgrow
    have O0 : Own .i64 2 w2 w61.heap.size (some ⟨w61.heap.size, 0, none⟩) (m + 1) (fill (szL xs (m + 1)) 0 (m + 1)) := by
      refine Own.mk ?_ (length_fill _ _ _ hzl (Nat.zero_le _))
      rw [fill_zero]
      simpa [toList_madeCells_one] using hown
    have B2 := B.grown hgrow (by omega) (by intro k hk; cases hk)
    have VR2 := VR.grownR hgrow (by simp)
    have hS2 := hgrow.size
    have hQ1 : w.heap.size < w61.heap.size := VR.1
    clear hown hgrow B VR Bo ha
    clear s_VR f_VR z_VR
    obtain ⟨Q, hQ⟩ : ∃ Q, w61.heap.size = Q := ⟨_, rfl⟩
    rw [hQ] at O0 hQ1 ⊢
    replace O0 := Hid.mk O0
    replace VR2 := Hid.mk VR2
    replace B2 := Hid.mk B2
    clear hQ hS2 hi hz0 hz1 hz2
    go_wp2
    go_loopw [29] (fun i wr => ∃ k : Nat, k ≤ m + 1 ∧ i = .int .i64 k ∧ Own .i64 2 wr Q (some ⟨Q, 0, none⟩) (m + 1) (fill (szL xs (m + 1)) k (m + 1)) ∧ V wr w.heap.size [.int .i64 0, .int .i64 0] ∧ Below w.heap.size w wr) (fun i _ => m + 1 - (intOf i).toNat)
    case atStart => exact ⟨0, Nat.zero_le _, rfl, O0.out, VR2.out, B2.out⟩
    case round =>
      clear O0 VR2 B2
      obtain ⟨k, hk, rfl, O, VR, B⟩ := hrel
      by_cases hlt : k < m + 1
      · obtain ⟨x, hx1⟩ : ∃ x, xs.getD k zTerm = x := ⟨_, rfl⟩
        have hk1 : (k : Int) < (m : Int) + 1 := by omega
        have HOP := op_right HV.out k (by omega) hx1
        have HSZ := Hid.mk (sz_rk k (by omega) HAh.out hx1)
        have HPA := Hid.mk (plc_ahead k (by omega) HAh.out hx1)
        have hpl := plc_len x
        rcases HA.out.kept B with h0 | ⟨b2, o2, e2, hca2⟩
        · rw [h0] at hn; simp at hn; omega
        simp only [Option.some.injEq, Addr.mk.injEq, and_true] at e2
        obtain ⟨rfl, rfl⟩ := e2
        obtain ⟨p0, p1, p2, p3⟩ := RdTerm.cells hca2 k (by omega) x hx1
        clear hca2 hx1
        obtain ⟨ps, hps⟩ : ∃ ps, ((plc x).map fun z => (den xs z.toNat).sz) = ps := ⟨_, rfl⟩
        rw [hps] at HSZ
        have hpsb : Hid (∀ z ∈ ps, 0 ≤ z ∧ z ≤ 1000000) := Hid.mk (fun z hz => by
          rw [← hps, List.mem_map] at hz
          obtain ⟨y, hy, rfl⟩ := hz
          have := HPA.out y hy
          exact HBD.out _ (by omega))
        have hpsl : ps.length = (plc x).length := by rw [← hps, List.length_map]
        replace VR := VR.kept (belowA wr (.cells #[.int .i64 x.o, .int .i64 x.a, .int .i64 x.b, .int .i64 x.n] 70))
        replace O := O.kept (belowA wr (.cells #[.int .i64 x.o, .int .i64 x.a, .int .i64 x.b, .int .i64 x.n] 70))
        replace B := thenB B (belowA wr (.cells #[.int .i64 x.o, .int .i64 x.a, .int .i64 x.b, .int .i64 x.n] 70))
        have VX := V.new wr [.int .i64 x.o, .int .i64 x.a, .int .i64 x.b, .int .i64 x.n] 70
        obtain ⟨s_VR, f_VR, z_VR⟩ := VR.open
        obtain ⟨s_VX, f_VX, z_VX⟩ := VX.open
        have Bo := B
        go_wp2_with fail
        refine (placesIn_ok x HOP _).mono ?_
        rintro e w81 ⟨c2, d2, rfl, O2, b81⟩
        clear s_VR f_VR z_VR s_VX f_VX z_VX
        have S81 := b81.size
        simp only [World.size_alloc] at S81
        replace VR := VR.kept b81
        replace VX := VX.kept b81
        replace O := O.kept b81
        replace B := thenB B b81
        clear b81
        obtain ⟨s_VR, f_VR, z_VR⟩ := VR.open
        obtain ⟨s_VX, f_VX, z_VX⟩ := VX.open
        have Bo := B
        obtain ⟨l, hl⟩ : ∃ l, (plc x).length = l := ⟨_, rfl⟩
        rw [hl] at hpl hpsl ⊢
        have HL := Hid.mk hl
        have HPL := Hid.mk hpsl
        have HPS := Hid.mk hps
        have HO := Hid.mk O
        have HO2 := Hid.mk O2.rd
        have HB := Hid.mk B
        have HVR := Hid.mk VR
        have hQW := (O.lt _ rfl).2
        simp only at hQW
        have CF := Hid.mk (fun c d w h => sizeAbove_ok c l d ps w h hpsl hpl hpsb.out)
        rw [HSZ.out] at CF
        clear O O2 B VX VR Bo p0 p1 p2 p3 hl hpsl hps
        clear s_VR f_VR z_VR s_VX f_VX z_VX
        go_wp2
        go_loopw [11, 37] (fun s i wq => ∃ (j : Nat) (c3 : Option Addr) (d3 : Nat), j ≤ l ∧ i = .int .i64 j ∧ s = .slice c3 j d3 ∧ Own .i64 2 wq w81.heap.size c3 d3 (ps.take j) ∧ Below w81.heap.size w81 wq) (fun _ i _ => l - (intOf i).toNat)
        case atStart => exact ⟨0, none, 0, Nat.zero_le _, rfl, rfl, own_none, Below.refl _ _⟩
        case round =>
          obtain ⟨j, c3, d3, hj, rfl, rfl, O3, B3⟩ := hrel
          by_cases hjl : j < l
          · obtain ⟨z, hz⟩ : ∃ z, (plc x).getD j 0 = z := ⟨_, rfl⟩
            have hj1 : (j : Int) < (l : Int) := by omega
            have hzk := HPA.out z (by rw [← hz]; exact rk_mem (by rw [HL.out]; exact hjl))
            obtain ⟨u, rfl⟩ : ∃ u : Nat, z = (u : Int) := ⟨z.toNat, by omega⟩
            have hu : u < k := by omega
            have hum : (u : Int) < (m : Int) + 1 := by omega
            have hcu : wr.cell? ⟨Q, u, none⟩ = some (.int .i64 (den xs u).sz) := by
              have h1 := (HO.out.kept B3).rd
              have hfl := length_fill (szL xs (m + 1)) k (m + 1) HZL.out hk
              rcases h1 with h1 | ⟨b3, o3, e3, h1⟩
              · rw [h1] at hfl; simp at hfl
              · simp only [Option.some.injEq, Addr.mk.injEq, and_true] at e3
                obtain ⟨rfl, rfl⟩ := e3
                have h2 := h1 u (by omega)
                rw [Nat.zero_add] at h2
                rw [h2, fill_at' (szL xs (m + 1)) k (m + 1) HZL.out hk u hu, szL_at xs (m + 1) u (by omega)]
            have hnx : ps.take (j + 1) = ps.take j ++ [(den xs u).sz] := by
              rw [take_snoc ps j (by rw [HPL.out]; exact hjl), ← HPS.out]
              congr 2
              rw [show ((plc x).map fun z => (den xs z.toNat).sz).getD j 0 = (den xs ((plc x).getD j 0).toNat).sz by simp [List.getD, show j < (plc x).length by rw [HL.out]; exact hjl], hz, Int.toNat_natCast]
            obtain ⟨v, hv2⟩ : ∃ v, (den xs u).sz = v := ⟨_, rfl⟩
            rw [hv2] at hcu hnx
            rcases (HO2.out.kept B3) with h0 | ⟨b4, o4, rfl, hcz⟩
            · have := HL.out; rw [h0] at this; simp at this; omega
            have pz := hcz j (by rw [HL.out]; exact hjl)
            rw [hz] at pz
            have htl : (ps.take j).length = j := by rw [List.length_take, HPL.out]; omega
            have HTL := Hid.mk htl
            have HNX := Hid.mk hnx
            have O4 := O3.kept (belowA wr (.cells #[.int .i64 v] 2))
            have B4 := B3.alloc B3.size (.cells #[.int .i64 v] 2)
            have TL := B4.size
            replace B4 := Hid.mk B4
            replace O4 := Hid.mk O4
            clear hcz hz hv2 htl hnx O3 B3
            go_wp2_with (first | (at_builtin; go_loud (refine wpList_putI _ rfl _ _ rfl w81.heap.size c3 d3 (ps.take j) j HTL.out rfl O4.out _ 1 v rfl (cell_one' _ _ _ 0 _ rfl) (by omega) TL ?_)) | fail)
            intro c5 d5 w5 O5 hg5 hx5
            have B5 := Hid.mk (belowG (c := c3) B4.out hg5 TL (fun b hb => (O4.out.lt b hb).1))
            rw [← HNX.out] at O5
            replace O5 := Hid.mk O5
            clear hg5 hx5 TL
            go_wp2
            go_roundw
            case rel => exact ⟨j + 1, c5, d5, by omega, by go_num, rfl, O5.out, B5.out⟩
            case measure => simp [intOf]; omega
          · obtain rfl : j = l := by omega
            rw [List.take_of_length_le (by rw [HPL.out]; exact Nat.le_refl _)] at O3
            have HO3 := Hid.mk O3.rd
            have hown0 := HO.out.kept B3
            have hsz3 := B3.size
            obtain ⟨v, hv2⟩ : ∃ v, (den xs k).sz = v := ⟨_, rfl⟩
            rw [hv2] at CF
            have hown := hown0.row (length_fill _ _ _ HZL.out hk)
            have h2 : wr.frozen? ⟨Q, k, none⟩ = false := hown.frozenAt k
            have h3 : wr.cell? ⟨Q, k, none⟩ = some (.int .i64 ((fill (szL xs (m + 1)) k (m + 1)).getD k 0)) := by
              rw [hown.cellAt k (by omega)]
              simp [List.getD, length_fill _ _ _ HZL.out hk, hlt]
            have hs3 := hown.stored k (.int .i64 v)
            rw [set_map, ← hv2, ← szL_at xs (m + 1) k hlt, fill_set _ _ _ HZL.out hlt, szL_at xs (m + 1) k hlt, hv2] at hs3
            have HS3 := Hid.mk (Own.mk hs3.1 (length_fill _ _ _ HZL.out (by omega)))
            have VR3 := Hid.mk ((HVR.out.kept B3).other (p := ⟨Q, k, none⟩) (by simp only; omega) (.int .i64 v))
            have B6 := Hid.mk ((thenB HB.out B3).setCell (p := ⟨Q, k, none⟩) (by simp only; omega) (.int .i64 v))
            clear hs3 hown hown0 hv2 O3 B3
            go_wp2_with fail
            refine (CF.out _ _ _ HO3.out).mono ?_
            rintro e wq ⟨rfl, rfl⟩
            go_wp2
            go_roundw
            case rel => exact ⟨k + 1, by omega, by go_num, HS3.out, VR3.out, B6.out⟩
            case measure => simp [intOf]; omega
      · obtain rfl : k = m + 1 := by omega
        rw [fill_all _ _ HZL.out] at O
        have hcm : wr.cell? ⟨Q, m, none⟩ = some (.int .i64 s) := by
          rcases O.rd with h1 | ⟨b3, o3, e3, h1⟩
          · have := HZL.out; rw [h1] at this; simp at this
          · simp only [Option.some.injEq, Addr.mk.injEq, and_true] at e3
            obtain ⟨rfl, rfl⟩ := e3
            have h2 := h1 m (by rw [HZL.out]; omega)
            rw [Nat.zero_add] at h2
            rw [h2, szL_at xs (m + 1) m (by omega), HSM.out]
        clear O
        have hmm : (m : Int) < (m : Int) + 1 := by omega
        obtain ⟨s_VR, f_VR, z_VR⟩ := VR.open
        have Bo := B
        clear s_VR f_VR z_VR
        have VF := Hid.mk (VR.filled [.int .i64 0, .int .i64 s] rfl)
        have HT := Hid.mk VR.there
        have BR := belowCells B (show w.heap.size ≤ w.heap.size by (first | omega | (simp; done) | (simp; omega))) 0 [.int .i64 0, .int .i64 s]
        replace BR := Hid.mk BR
        obtain ⟨s_VR, f_VR, z_VR⟩ := VR.open
        go_wp2_with (refine wpList_store_mid rfl 36 _ _ rfl (w.heap.size) 0 #[.int .i64 0, .int .i64 s] rfl rfl HT.out (by kernel_rfl) (by kernel_rfl) ?_)
        refine bodyPost_ret (v := .agg #[.int .i64 0, .int .i64 s]) (results_row Tryd.results32 _ _ (w.heap.size) [.int .i64 0, .int .i64 s] _ rfl VF.out Tryd.underlying36 rfl (by kernel_rfl)) rfl ⟨rfl, BR.out⟩

set_option maxHeartbeats 2000000 in
theorem implSizeOf_ok (a : Option Addr) (n ca : Nat) (xs : List T4) (q : Int) (w : World) (ha : RdTerm w a xs) (hn : xs.length = n) (hx : n ≤ maxLen) (hca : n ≤ ca) (hok : ∀ t ∈ xs, okT t) :
    Calls Tryd.prog 12 #[.slice a n ca, .int .i64 q] w fun e w' => e = .returned (.agg #[.int .i64 (akC xs q), .int .i64 (szV xs q)]) ∧ Below w.heap.size w w' := by
  have CA := Hid.mk (fun w h => reckonsz_ok a n ca xs q w h hn hx hca hok)
  generalize akC xs q = kk at *
  generalize szV xs q = vv at *
  go_enter Tryd.func12, Tryd.ntmps12
  have B := Below.refl w.heap.size w
  replace ha := ha.kept (belowA w (.cells #[.int .i64 0, .int .i64 0] 36))
  replace B := thenB B (belowA w (.cells #[.int .i64 0, .int .i64 0] 36))
  have VR := V.new w [.int .i64 0, .int .i64 0] 36
  obtain ⟨s_VR, f_VR, z_VR⟩ := VR.open
  have Bo := B
  go_wp2_with fail
  refine (CA.out _ ha).mono ?_
  rintro e w141 ⟨rfl, b141⟩
  clear s_VR f_VR z_VR
  have S141 := b141.size
  simp only [World.size_alloc] at S141
  replace VR := VR.kept b141
  replace ha := ha.kept b141
  replace B := thenB B b141
  clear b141
  obtain ⟨s_VR, f_VR, z_VR⟩ := VR.open
  have Bo := B
  clear s_VR f_VR z_VR
  have VF := Hid.mk (VR.filled [.int .i64 kk, .int .i64 vv] rfl)
  have HT := Hid.mk VR.there
  have BR := belowCells B (show w.heap.size ≤ w.heap.size by (first | omega | (simp; done) | (simp; omega))) 0 [.int .i64 kk, .int .i64 vv]
  replace BR := Hid.mk BR
  obtain ⟨s_VR, f_VR, z_VR⟩ := VR.open
  go_wp2_with (refine wpList_store_mid rfl 36 _ _ rfl (w.heap.size) 0 #[.int .i64 kk, .int .i64 vv] rfl rfl HT.out (by kernel_rfl) (by kernel_rfl) ?_)
  refine bodyPost_ret (v := .agg #[.int .i64 kk, .int .i64 vv]) (results_row Tryd.results12 _ _ (w.heap.size) [.int .i64 kk, .int .i64 vv] _ rfl VF.out Tryd.underlying36 rfl (by kernel_rfl)) rfl ⟨rfl, BR.out⟩

end Go.Proofs.YthjaehcfakjemaaDoor
