/- What two lists of suites have in common; the suite that is chosen: program and model. -/
import Derived.Test.YthaaompkcomfcaaPsH
import Derived.Test.YthaaompkcomfcaaSuiteG
namespace Go.Proofs.Ythaaompkcomfcaa
open Go.RowKit

/-- One suite is put behind the suites of a row of one's own: at one operation. -/
theorem wp_putSuite {o : Oper} {a : Act} {K : Act → World → Prop} {Q : Exit → Act → World → Prop} (w : World) (s x : Operand)
    (ho : o.op = .call { callee := .builtin .append, args := #[s, x], argTypes := #[24, 24] })
    (base : Nat) (c : Option Addr) (d : Nat) (xs : List Su) (n : Nat) (hn : xs.length = n) (hs : a.eval s = .slice c n d) (hown : OwnSuite w base c d xs)
    (ad : Addr) (cc : Nat) (p : Su) (hx : a.eval x = .slice (some ad) 1 cc) (hp : ∀ j u, (rowSuite p)[j]? = some u → w.cell? (ad.add j) = some u)
    (hlen : n ≤ 1000000) (hbase : base ≤ w.heap.size)
    (h : ∀ c' d' w', OwnSuite w' base c' d' (xs ++ [p]) → w.grownBy w' (c.map Addr.block) → Hid (∃ g, c' = some ⟨g, 0, none⟩ ∧ ((∃ a, c = some a ∧ a.block = g) ∨ g = w.heap.size) ∧ g < w'.heap.size) → K (a.put o.dst (.slice c' (n + 1) d')) w') : o.wp Try.prog a w K Q := by
  subst hn
  obtain ⟨i, hi, hz, hsz, hby⟩ : ∃ i, Try.prog.info? 28 = some i ∧ i.zero = some (.agg #[.int .i64 0, .int .i64 0, .int .i64 0, .int .i64 0]) ∧ i.size = 4 ∧ i.bytes = 32 := by
    have h := Try.infoSuite
    cases he : Try.prog.info? 28 with
    | none => rw [he] at h; cases h
    | some i =>
      rw [he] at h
      simp only [Option.map_some, Option.some.injEq, Prod.mk.injEq] at h
      exact ⟨i, rfl, h.1, h.2.1, h.2.2⟩
  refine wp_append_lies w s x 24 ho base 28 i _ 4 32 Try.underlying24 hi hz hsz hby (by rfl) (by decide) (.slice c xs.length d) xs.length (flatSuite xs) hs hown ad 1 cc (rowSuite p) hx rfl hp ?_ (by decide) (by unfold maxLen; omega) (by omega) hbase _ rfl ?_
  · intro u hu
    simp only [rowSuite, List.mem_cons, List.not_mem_nil, or_false] at hu
    rcases hu with rfl | rfl | rfl | rfl <;> rfl
  · intro g cap w' h1 h2 h3 h4
    have e1 : (xs ++ [p]).length = xs.length + 1 := by simp
    have e2 : flatSuite xs ++ rowSuite p = flatSuite (xs ++ [p]) := by rw [flatSuite_app]; simp [flatSuite]
    have h2' : w.grownBy w' (c.map Addr.block) := by cases c <;> exact h2
    refine h _ _ w' ?_ h2' (Hid.mk ⟨g, rfl, ?_, h4⟩)
    · unfold OwnSuite; rw [e1, ← e2]; exact h1
    · rcases h3 with h3 | h3
      · left; cases c with
        | none => cases h3
        | some b => exact ⟨b, rfl, by simpa [Value.ownBlock] using h3⟩
      · exact .inr h3

theorem suNews {w : World} {B : Nat} {vs : List Value} (h : V w B vs) : ∀ j u, vs[j]? = some u → w.cell? ((⟨B, 0, none⟩ : Addr).add j) = some u := by
  intro j u hu
  have hj := (List.getElem?_eq_some_iff.1 hu).1
  rw [Addr.add_lit, Nat.zero_add, h.2.1 j hj, hu]

/-- The code of two lists. -/
def akS (xs ys : List Su) : Int := if ssF xs = 0 then ssF ys else ssF xs

theorem l8Asked_ok (a b : Option Addr) (n ca m cb : Nat) (xs ys : List Su) (w : World) (ha : RdSuite w a xs) (hb : RdSuite w b ys) (hn : xs.length = n) (hm : ys.length = m) (hc : n ≤ ca) (hx : ca ≤ maxLen) (hd : m ≤ cb) (hy : cb ≤ maxLen) :
    Calls Try.prog 48 #[.slice a n ca, .slice b m cb] w fun e w' => e = .returned (.int .i64 (akS xs ys)) ∧ Below w.heap.size w w' := by
  have CX := Hid.mk (fun w h => specSuitesFault_ok a n ca xs w h hn hc hx)
  have CY := Hid.mk (fun w h => specSuitesFault_ok b m cb ys w h hm hd hy)
  unfold akS
  by_cases h0 : ssF xs = 0
  · rw [if_pos h0]
    simp only [h0] at CX
    clear h0 hx hc hn hy hd hm
    go_enter Try.func48, Try.ntmps48
    go_wp2_with fail
    refine (CX.out _ ha).mono ?_
    rintro e w1 ⟨rfl, b1⟩
    replace hb := hb.kept b1
    go_wp2_with fail
    refine (CY.out _ hb).mono ?_
    rintro e w2 ⟨rfl, b2⟩
    go_wp2
    go_ret
    exact ⟨rfl, thenB b1 b2⟩
  · rw [if_neg h0]
    have hne : (ssF xs != 0) = true := by simp [h0]
    generalize ssF xs = kc at *
    clear h0 hx hc hn hy hd hm
    go_enter Try.func48, Try.ntmps48
    go_wp2_with fail
    refine (CX.out _ ha).mono ?_
    rintro e w1 ⟨rfl, b1⟩
    go_wp2
    go_ret
    exact ⟨rfl, b1⟩

set_option maxRecDepth 20000 in
set_option maxHeartbeats 8000000 in
theorem implCommon_ok (a b : Option Addr) (n ca m cb : Nat) (xs ys : List Su) (w : World) (ha : RdSuite w a xs) (hb : RdSuite w b ys) (hn : xs.length = n) (hm : ys.length = m) (hc : n ≤ ca) (hx : ca ≤ maxLen) (hd : m ≤ cb) (hy : cb ≤ maxLen) :
    Calls Try.prog 15 #[.slice a n ca, .slice b m cb] w fun e w' => ∃ (c : Option Addr) (d : Nat), e = .returned (.agg #[.int .i64 (csC xs ys), .slice c (csL xs ys).length d]) ∧ OwnSuite w' w.heap.size c d (csL xs ys) ∧ Below w.heap.size w w' := by
  have CX := Hid.mk (fun w h => implSuitesFault_ok a n ca xs w h hn hc hx)
  have CY := Hid.mk (fun w h => implSuitesFault_ok b m cb ys w h hm hd hy)
  by_cases h0 : ssF xs = 0
  · by_cases h1 : ssF ys = 0
    · have hn10 : n ≤ 10 := by have := (ssF_ok h0).2.1; omega
      have hm10 : m ≤ maxLen := by omega
      have eC : csC xs ys = if cmL xs ys = [] then 4 else 0 := by simp [csC, h0, h1]
      have eL : csL xs ys = cmL xs ys := by simp [csL, h0, h1]
      simp only [h0] at CX
      simp only [h1] at CY
      have HX := Hid.mk ha
      have HY := Hid.mk hb
      clear h0 h1
      go_enter Try.func15, Try.ntmps15
      have B := Below.refl w.heap.size w
      replace ha := ha.kept (belowA w (.cells #[.int .i64 0, .slice none 0 0] 33))
      replace hb := hb.kept (belowA w (.cells #[.int .i64 0, .slice none 0 0] 33))
      replace B := thenB B (belowA w (.cells #[.int .i64 0, .slice none 0 0] 33))
      have VR := V.new w [.int .i64 0, .slice none 0 0] 33
      obtain ⟨s_VR, f_VR, z_VR⟩ := VR.open
      have Bo := B
      go_wp2_with fail
      refine (CX.out _ ha).mono ?_
      rintro e w1 ⟨rfl, b1⟩
      clear s_VR f_VR z_VR
      have S1 := b1.size
      simp only [World.size_alloc] at S1
      replace VR := VR.kept b1
      replace ha := ha.kept b1
      replace hb := hb.kept b1
      replace B := thenB B b1
      clear b1
      obtain ⟨s_VR, f_VR, z_VR⟩ := VR.open
      have Bo := B
      go_wp2_with fail
      refine (CY.out _ hb).mono ?_
      rintro e w2 ⟨rfl, b2⟩
      clear s_VR f_VR z_VR
      have S2 := b2.size
      replace VR := VR.kept b2
      replace ha := ha.kept b2
      replace hb := hb.kept b2
      replace B := thenB B b2
      clear b2
      obtain ⟨s_VR, f_VR, z_VR⟩ := VR.open
      have Bo := B
      clear s_VR f_VR z_VR
      clear ha hb CX CY Bo
      go_wp2
      go_loopw [7, 24] (fun t i wr => ∃ (k j d : Nat) (c : Option Addr) (os : List Su), k ≤ n ∧ i = .int .i64 k ∧ t = .slice c j d ∧ cmL (xs.take k) ys = os ∧ os.length = j ∧ j ≤ k ∧ OwnSuite wr (w.heap.size + 1) c d os ∧ V wr w.heap.size [.int .i64 0, .slice none 0 0] ∧ Below w.heap.size w wr) (fun _ i _ => n - (intOf i).toNat)
      case atStart => exact ⟨0, 0, 0, none, [], Nat.zero_le _, rfl, rfl, rfl, rfl, Nat.le_refl _, OwnSuite.none, VR, B⟩
      case round =>
        clear VR B
        obtain ⟨k, j, d, c, os, hk, rfl, rfl, hos, hj, hjk, O, VR, B⟩ := hrel
        by_cases hlt : k < n
        · obtain ⟨z, hz⟩ : ∃ z, xs.getD k zSuite = z := ⟨_, rfl⟩
          have hki : (k : Int) < (n : Int) := by omega
          have ha := HX.out.kept B
          have hb := HY.out.kept B
          have hst := cmL_take xs ys k (by omega) hz
          rw [hos] at hst
          rcases ha with ha | ⟨b1, o1, rfl, hca⟩
          · rw [ha] at hn; simp at hn; omega
          obtain ⟨p0, p1, p2, p3⟩ := RdSuite.cells hca k (by omega) z hz
          have CC := Hid.mk (fun w h => suContains_ok b m cb ys z w h hm hm10)
          have HJ := Hid.mk hj
          clear hca hz hlt hos hj
          obtain ⟨s_VR, f_VR, z_VR⟩ := VR.open
          replace VR := VR.kept (belowA wr (.cells #[.int .i64 z.c, .int .i64 z.b, .int .i64 z.m, .int .i64 z.g] 28))
          replace O := O.kept (belowA wr (.cells #[.int .i64 z.c, .int .i64 z.b, .int .i64 z.m, .int .i64 z.g] 28))
          replace hb := hb.kept (belowA wr (.cells #[.int .i64 z.c, .int .i64 z.b, .int .i64 z.m, .int .i64 z.g] 28))
          replace B := thenB B (belowA wr (.cells #[.int .i64 z.c, .int .i64 z.b, .int .i64 z.m, .int .i64 z.g] 28))
          have VZ := V.new wr [.int .i64 z.c, .int .i64 z.b, .int .i64 z.m, .int .i64 z.g] 28
          clear s_VR f_VR z_VR
          obtain ⟨s_VR, f_VR, z_VR⟩ := VR.open
          obtain ⟨s_VZ, f_VZ, z_VZ⟩ := VZ.open
          have Bo := B
          cases hg : hasSu ys z
          · simp only [hg] at CC
            rw [hg, if_neg (by simp)] at hst
            rw [List.append_nil] at hst
            clear hg
            have HS := Hid.mk hst
            clear hst
            go_wp2_with fail
            refine (CC.out _ hb).mono ?_
            rintro e w1 ⟨rfl, b1⟩
            clear s_VR f_VR z_VR s_VZ f_VZ z_VZ
            have S1 := b1.size
            simp only [World.size_alloc] at S1
            replace VR := VR.kept b1
            replace VZ := VZ.kept b1
            replace O := O.kept b1
            replace hb := hb.kept b1
            replace B := thenB B b1
            clear b1
            obtain ⟨s_VR, f_VR, z_VR⟩ := VR.open
            obtain ⟨s_VZ, f_VZ, z_VZ⟩ := VZ.open
            have Bo := B
            replace B := Hid.mk B
            replace O := Hid.mk O
            clear Bo
            go_wp2
            go_roundw
            case rel => exact ⟨k + 1, j, d, c, os, by omega, by go_num, rfl, HS.out, HJ.out, by omega, O.out, VR, B.out⟩
            case measure => simp [intOf]; omega
          · simp only [hg] at CC
            rw [hg, if_pos rfl] at hst
            clear hg
            have HS := Hid.mk hst
            clear hst
            go_wp2_with fail
            refine (CC.out _ hb).mono ?_
            rintro e w1 ⟨rfl, b1⟩
            clear s_VR f_VR z_VR s_VZ f_VZ z_VZ
            have S1 := b1.size
            simp only [World.size_alloc] at S1
            replace VR := VR.kept b1
            replace VZ := VZ.kept b1
            replace O := O.kept b1
            replace hb := hb.kept b1
            replace B := thenB B b1
            clear b1
            obtain ⟨s_VR, f_VR, z_VR⟩ := VR.open
            obtain ⟨s_VZ, f_VZ, z_VZ⟩ := VZ.open
            have Bo := B
            have VY := V.new w1 [.int .i64 z.c, .int .i64 z.b, .int .i64 z.m, .int .i64 z.g] 28
            have bq := belowA w1 (.cells #[.int .i64 z.c, .int .i64 z.b, .int .i64 z.m, .int .i64 z.g] 28)
            have O5 := Hid.mk (O.kept bq)
            have VR5 := Hid.mk (VR.kept bq)
            have B5 := Hid.mk (thenB B bq)
            have HNC := Hid.mk (suNews VY)
            have hb4 : w.heap.size + 1 ≤ (w1.alloc (.cells #[.int .i64 z.c, .int .i64 z.b, .int .i64 z.m, .int .i64 z.g] 28)).heap.size := by rw [World.size_alloc]; have := VR.1; omega
            have OLT := Hid.mk O.lt
            clear VY bq O B Bo VR hb CC
            go_wp2_with (at_builtin; go_loud (refine wpList_putSuite _ rfl _ _ rfl (w.heap.size + 1) c d os j HJ.out rfl O5.out ⟨w1.heap.size, 0, none⟩ 1 z rfl HNC.out (by omega) hb4 ?_))
            intro c6 d6 w6 O6 hg6 _
            have VR6 := Hid.mk (VR5.out.grownR hg6 (row_ne fun b hb => by have := (OLT.out b hb).1; omega))
            have B6 := Hid.mk (belowG B5.out hg6 (by omega) (fun b hb => by have := (OLT.out b hb).1; omega))
            have O6' := Hid.mk O6
            have HJ6 : Hid ((os ++ [z]).length = j + 1) := Hid.mk (by rw [List.length_append, HJ.out]; rfl)
            clear O6 hg6 O5 VR5 B5 HNC
            go_wp2
            go_roundw
            case rel => exact ⟨k + 1, j + 1, d6, c6, os ++ [z], by omega, by go_num, rfl, HS.out, HJ6.out, by omega, O6'.out, VR6.out, B6.out⟩
            case measure => simp [intOf]; omega
        · have hkn : k = n := by omega
          subst hkn
          rw [List.take_of_length_le (by omega)] at hos
          rw [hos] at eC eL
          have HJ := Hid.mk hj
          have OLT := Hid.mk O.lt
          cases hz : os with
          | nil =>
            rw [hz] at eC eL
            have hj0 : j = 0 := by rw [← hj, hz]; rfl
            subst hj0
            rw [if_pos rfl] at eC
            have HE := Hid.mk eC
            have HE2 := Hid.mk eL
            clear eC eL hj hz hos O
            have VF := Hid.mk (VR.filled [.int .i64 4, .slice none 0 0] rfl)
            have BR := belowCells B (show w.heap.size ≤ w.heap.size by (first | omega | (simp; done) | (simp; omega))) 0 [.int .i64 4, .slice none 0 0]
            have HT := Hid.mk VR.there
            replace BR := Hid.mk BR
            obtain ⟨s_VR, f_VR, z_VR⟩ := VR.open
            go_wp2_with (refine wpList_store_mid rfl 33 _ _ rfl (w.heap.size) 0 #[.int .i64 4, .slice none 0 0] rfl rfl HT.out (by kernel_rfl) (by kernel_rfl) ?_)
            refine bodyPost_ret (v := .agg #[.int .i64 4, .slice none 0 0]) (results_row Try.results15 _ _ (w.heap.size) [.int .i64 4, .slice none 0 0] _ rfl VF.out Try.underlying33 rfl (by kernel_rfl)) rfl ⟨none, 0, by rw [HE.out, HE2.out]; rfl, by rw [HE2.out]; exact OwnSuite.none, BR.out⟩
          | cons y r =>
            have hj1 : (j : Int) ≠ 0 := by rw [← hj, hz]; simp; omega
            have hj2 : ((j : Int) == 0) = false := by simpa using hj1
            rw [if_neg (by rw [hz]; simp)] at eC
            have HE := Hid.mk eC
            have HE2 := Hid.mk eL
            clear eC eL hj hz hos hj1
            have VF := Hid.mk (VR.filled [.int .i64 0, .slice c j d] rfl)
            have BR := belowCells B (show w.heap.size ≤ w.heap.size by (first | omega | (simp; done) | (simp; omega))) 0 [.int .i64 0, .slice c j d]
            have HT := Hid.mk VR.there
            replace BR := Hid.mk BR
            have OF := Hid.mk ((O.apart (B := w.heap.size) (fun b hb => by have := (OLT.out b hb).1; omega) 0 [.int .i64 0, .slice c j d]).mono (Nat.le_succ w.heap.size))
            clear O
            obtain ⟨s_VR, f_VR, z_VR⟩ := VR.open
            go_wp2_with (refine wpList_store_mid rfl 33 _ _ rfl (w.heap.size) 0 #[.int .i64 0, .slice c j d] rfl rfl HT.out (by kernel_rfl) (by kernel_rfl) ?_)
            refine bodyPost_ret (v := .agg #[.int .i64 0, .slice c j d]) (results_row Try.results15 _ _ (w.heap.size) [.int .i64 0, .slice c j d] _ rfl VF.out Try.underlying33 rfl (by kernel_rfl)) rfl ⟨c, d, by rw [HE.out, HE2.out, HJ.out], by rw [HE2.out]; exact OF.out, BR.out⟩
    · have eC := Hid.mk (show csC xs ys = ssF ys by simp [csC, h0, h1])
      have eL := Hid.mk (show csL xs ys = [] by simp [csL, h0, h1])
      have hne : (ssF ys != 0) = true := by simp [h1]
      simp only [h0] at CX
      generalize ssF ys = kc at *
      clear h0 h1 hx hc hn hy hd hm
      go_enter Try.func15, Try.ntmps15
      have B := Below.refl w.heap.size w
      replace ha := ha.kept (belowA w (.cells #[.int .i64 0, .slice none 0 0] 33))
      replace hb := hb.kept (belowA w (.cells #[.int .i64 0, .slice none 0 0] 33))
      replace B := thenB B (belowA w (.cells #[.int .i64 0, .slice none 0 0] 33))
      have VR := V.new w [.int .i64 0, .slice none 0 0] 33
      obtain ⟨s_VR, f_VR, z_VR⟩ := VR.open
      have Bo := B
      go_wp2_with fail
      refine (CX.out _ ha).mono ?_
      rintro e w1 ⟨rfl, b1⟩
      clear s_VR f_VR z_VR
      have S1 := b1.size
      simp only [World.size_alloc] at S1
      replace VR := VR.kept b1
      replace ha := ha.kept b1
      replace hb := hb.kept b1
      replace B := thenB B b1
      clear b1
      obtain ⟨s_VR, f_VR, z_VR⟩ := VR.open
      have Bo := B
      go_wp2_with fail
      refine (CY.out _ hb).mono ?_
      rintro e w2 ⟨rfl, b2⟩
      clear s_VR f_VR z_VR
      have S2 := b2.size
      replace VR := VR.kept b2
      replace ha := ha.kept b2
      replace hb := hb.kept b2
      replace B := thenB B b2
      clear b2
      obtain ⟨s_VR, f_VR, z_VR⟩ := VR.open
      have Bo := B
      clear s_VR f_VR z_VR
      have VF := Hid.mk (VR.filled [.int .i64 kc, .slice none 0 0] rfl)
      have BR := belowCells B (show w.heap.size ≤ w.heap.size by (first | omega | (simp; done) | (simp; omega))) 0 [.int .i64 kc, .slice none 0 0]
      have HT := Hid.mk VR.there
      replace BR := Hid.mk BR
      obtain ⟨s_VR, f_VR, z_VR⟩ := VR.open
      go_wp2_with (refine wpList_store_mid rfl 33 _ _ rfl (w.heap.size) 0 #[.int .i64 kc, .slice none 0 0] rfl rfl HT.out (by kernel_rfl) (by kernel_rfl) ?_)
      refine bodyPost_ret (v := .agg #[.int .i64 kc, .slice none 0 0]) (results_row Try.results15 _ _ (w.heap.size) [.int .i64 kc, .slice none 0 0] _ rfl VF.out Try.underlying33 rfl (by kernel_rfl)) rfl ⟨none, 0, by rw [eC.out, eL.out]; rfl, by rw [eL.out]; exact OwnSuite.none, BR.out⟩
  · have eC := Hid.mk (show csC xs ys = ssF xs by simp [csC, h0])
    have eL := Hid.mk (show csL xs ys = [] by simp [csL, h0])
    have hne : (ssF xs != 0) = true := by simp [h0]
    generalize ssF xs = kc at *
    clear h0 hx hc hn hy hd hm
    go_enter Try.func15, Try.ntmps15
    have B := Below.refl w.heap.size w
    replace ha := ha.kept (belowA w (.cells #[.int .i64 0, .slice none 0 0] 33))
    replace hb := hb.kept (belowA w (.cells #[.int .i64 0, .slice none 0 0] 33))
    replace B := thenB B (belowA w (.cells #[.int .i64 0, .slice none 0 0] 33))
    have VR := V.new w [.int .i64 0, .slice none 0 0] 33
    obtain ⟨s_VR, f_VR, z_VR⟩ := VR.open
    have Bo := B
    go_wp2_with fail
    refine (CX.out _ ha).mono ?_
    rintro e w1 ⟨rfl, b1⟩
    clear s_VR f_VR z_VR
    have S1 := b1.size
    simp only [World.size_alloc] at S1
    replace VR := VR.kept b1
    replace ha := ha.kept b1
    replace hb := hb.kept b1
    replace B := thenB B b1
    clear b1
    obtain ⟨s_VR, f_VR, z_VR⟩ := VR.open
    have Bo := B
    clear s_VR f_VR z_VR
    have VF := Hid.mk (VR.filled [.int .i64 kc, .slice none 0 0] rfl)
    have BR := belowCells B (show w.heap.size ≤ w.heap.size by (first | omega | (simp; done) | (simp; omega))) 0 [.int .i64 kc, .slice none 0 0]
    have HT := Hid.mk VR.there
    replace BR := Hid.mk BR
    obtain ⟨s_VR, f_VR, z_VR⟩ := VR.open
    go_wp2_with (refine wpList_store_mid rfl 33 _ _ rfl (w.heap.size) 0 #[.int .i64 kc, .slice none 0 0] rfl rfl HT.out (by kernel_rfl) (by kernel_rfl) ?_)
    refine bodyPost_ret (v := .agg #[.int .i64 kc, .slice none 0 0]) (results_row Try.results15 _ _ (w.heap.size) [.int .i64 kc, .slice none 0 0] _ rfl VF.out Try.underlying33 rfl (by kernel_rfl)) rfl ⟨none, 0, by rw [eC.out, eL.out]; rfl, by rw [eL.out]; exact OwnSuite.none, BR.out⟩

end Go.Proofs.Ythaaompkcomfcaa
