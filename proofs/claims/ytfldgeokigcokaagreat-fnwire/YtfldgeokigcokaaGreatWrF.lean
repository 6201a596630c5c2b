/- EncodeTerm: the model. -/
import Derived.Test.YtfldgeokigcokaaGreatWrE
import Derived.Test.YtfldgeokigcokaaGreatWrB
namespace Go.Proofs.YtfldgeokigcokaaGreat
open Go.RowKit

theorem Own.apart8 {w : World} {base : Nat} {a : Option Addr} {cap : Nat} {zs : List Int} {B : Nat} (h : Own .u8 5 w base a cap zs) (hB : ∀ b : Addr, a = some b → b.block ≠ B) (o : Nat) (vs : List Value) : Own .u8 5 (w.setCells B o vs) base a cap zs :=
  h.sm (X := fun k => k = B) (Sm.cells (X := fun k => k = B) (B := B) rfl o vs) (fun b hb e => hB b hb e)

theorem build_brc (c : Int) (w : World) : (Instr.build 31 #[(0, .int .i64 c)]).run Tryz.prog w = .ok (.agg #[.int .i64 c, .slice none 0 0]) w := run_build w 31 _ _ (by kernel_rfl)
theorem build_brv (c : Option Addr) (n d : Nat) (w : World) : (Instr.build 31 #[(1, .slice c n d)]).run Tryz.prog w = .ok (.agg #[.int .i64 0, .slice c n d]) w := run_build w 31 _ _ (by kernel_rfl)

set_option maxRecDepth 20000 in
set_option maxHeartbeats 8000000 in
theorem specEncodeTerm_ok (a : Option Addr) (n ca : Nat) (xs : List T4) (q : Int) (w : World) (ha : RdTerm w a xs) (hn : xs.length = n) (hx : n ≤ maxLen) (hca : n ≤ ca) :
    Calls Tryz.prog 10 #[.slice a n ca, .int .i64 q] w fun e w' => ∃ c d, e = .returned (.agg #[.int .i64 (enC xs q), .slice c (enB xs q).length d]) ∧ Own .u8 5 w' w.heap.size c d (enB xs q) ∧ Below w.heap.size w w' := by
  have q1 := build_brc
  have q2 := build_brv
  have CA := Hid.mk (fun w h => l5Asked_ok a n ca xs q w h hn hx hca)
  have HW := en_ways xs q
  by_cases h1 : akC xs q = 0
  case neg =>
    rcases HW with ⟨_, e1, e2⟩ | ⟨h, _⟩ | ⟨h, _⟩ | ⟨h, _⟩
    · rw [e1, e2]
      have h2 : (akC xs q != 0) = true := by simp [h1]
      clear h1 e1 e2
      generalize akC xs q = kk at *
      go_enter Tryz.func10, Tryz.ntmps10
      have B := Below.refl w.heap.size w
      replace ha := ha.kept (belowA w (.cells #[.int .i64 0, .slice none 0 0] 31))
      replace B := thenB B (belowA w (.cells #[.int .i64 0, .slice none 0 0] 31))
      have VR := V.new w [.int .i64 0, .slice none 0 0] 31
      obtain ⟨s_VR, f_VR, z_VR⟩ := VR.open
      have Bo := B
      go_wp2_with fail
      refine (CA.out _ ha).mono ?_
      rintro e w1 ⟨rfl, b1⟩
      clear s_VR f_VR z_VR
      have S1 := b1.size
      simp only [World.size_alloc] at S1
      replace VR := VR.kept b1
      replace ha := ha.kept b1
      replace B := thenB B b1
      clear b1
      obtain ⟨s_VR, f_VR, z_VR⟩ := VR.open
      have Bo := B
      clear s_VR f_VR z_VR
      have VF := Hid.mk (VR.filled [.int .i64 kk, .slice none 0 0] rfl)
      have HT := Hid.mk VR.there
      have BR := belowCells B (show w.heap.size ≤ w.heap.size by (first | omega | (simp; done) | (simp; omega))) 0 [.int .i64 kk, .slice none 0 0]
      replace BR := Hid.mk BR
      obtain ⟨s_VR, f_VR, z_VR⟩ := VR.open
      go_wp2_with (refine wpList_store_mid rfl 31 _ _ rfl (w.heap.size) 0 #[.int .i64 kk, .slice none 0 0] rfl rfl HT.out (by kernel_rfl) (by kernel_rfl) ?_)
      refine bodyPost_ret (v := .agg #[.int .i64 kk, .slice none 0 0]) (results_row Tryz.results10 _ _ (w.heap.size) [.int .i64 kk, .slice none 0 0] _ rfl VF.out Tryz.underlying31 rfl (by kernel_rfl)) rfl ⟨none, 0, rfl, own_none, BR.out⟩
    all_goals exact absurd h h1
  obtain ⟨hv, hq0, hq1⟩ := ak_zero h1
  rw [h1] at CA
  obtain ⟨m, rfl⟩ : ∃ m : Nat, q = (m : Int) := ⟨q.toNat, by omega⟩
  rw [Int.toNat_natCast] at HW
  have CD := Hid.mk (fun w h => l7Depths_ok a n ca xs w h hn hv)
  have CS := Hid.mk (fun w h => l5Sizes_ok a n ca xs w h hn hv)
  have CE := l7Encode_ok a n ca xs hn hv m (by omega)
  have hzm := dpL_at xs n m (by omega)
  have hzl := Hid.mk (dpL_len xs n)
  have hsm := szL_at xs n m (by omega)
  have hsl := Hid.mk (szL_len xs n)
  have hel := (den xs m).enc_len
  have hm1 : (m : Int) < (n : Int) := by omega
  obtain ⟨T, hT⟩ : ∃ T, den xs m = T := ⟨_, rfl⟩
  rw [hT] at HW CE hzm hsm hel
  obtain ⟨D, hD⟩ : ∃ D, T.dp = D := ⟨_, rfl⟩
  obtain ⟨S, hS⟩ : ∃ S, T.sz = S := ⟨_, rfl⟩
  obtain ⟨l, hl⟩ : ∃ l, T.enc.length = l := ⟨_, rfl⟩
  rw [hD, hS, hl] at HW
  rw [hD] at hzm
  rw [hS] at hsm hel CE
  rw [hl] at hel CE
  replace hzm := Hid.mk hzm
  replace hsm := Hid.mk hsm
  have hll := Hid.mk hl
  clear hT hD hS hl hq0 hq1 hv
  rcases HW with ⟨h, _⟩ | ⟨_, h2, e1, e2⟩ | ⟨_, h2, h3, h4, e1, e2⟩ | ⟨_, h2, h3, h4, e1, e2⟩
  · exact absurd h1 h
  · rw [e1, e2]
    clear h1 e1 e2 CE hel
    by_cases h3 : 30 < D
    · clear h2 CS hsm hsl
      go_enter Tryz.func10, Tryz.ntmps10
      have B := Below.refl w.heap.size w
      replace ha := ha.kept (belowA w (.cells #[.int .i64 0, .slice none 0 0] 31))
      replace B := thenB B (belowA w (.cells #[.int .i64 0, .slice none 0 0] 31))
      have VR := V.new w [.int .i64 0, .slice none 0 0] 31
      obtain ⟨s_VR, f_VR, z_VR⟩ := VR.open
      have Bo := B
      go_wp2_with fail
      refine (CA.out _ ha).mono ?_
      rintro e w21 ⟨rfl, b21⟩
      clear s_VR f_VR z_VR
      have S21 := b21.size
      simp only [World.size_alloc] at S21
      replace VR := VR.kept b21
      replace ha := ha.kept b21
      replace B := thenB B b21
      clear b21
      obtain ⟨s_VR, f_VR, z_VR⟩ := VR.open
      have Bo := B
      go_wp2_with fail
      refine (CD.out _ ha).mono ?_
      rintro e w22 ⟨c, d, rfl, O, b22⟩
      clear s_VR f_VR z_VR
      have S22 := b22.size
      replace VR := VR.kept b22
      replace ha := ha.kept b22
      replace B := thenB B b22
      clear b22
      obtain ⟨s_VR, f_VR, z_VR⟩ := VR.open
      have Bo := B
      rcases O.rd with h0 | ⟨b1, o1, rfl, hca2⟩
      · have := hzl.out; rw [h0] at this; simp at this; omega
      have p0 := hca2 m (by have := hzl.out; omega)
      rw [hzm.out] at p0
      clear hca2 O
      clear s_VR f_VR z_VR
      have VF := Hid.mk (VR.filled [.int .i64 2, .slice none 0 0] rfl)
      have HT := Hid.mk VR.there
      have BR := belowCells B (show w.heap.size ≤ w.heap.size by (first | omega | (simp; done) | (simp; omega))) 0 [.int .i64 2, .slice none 0 0]
      replace BR := Hid.mk BR
      obtain ⟨s_VR, f_VR, z_VR⟩ := VR.open
      go_wp2_with (refine wpList_store_mid rfl 31 _ _ rfl (w.heap.size) 0 #[.int .i64 2, .slice none 0 0] rfl rfl HT.out (by kernel_rfl) (by kernel_rfl) ?_)
      refine bodyPost_ret (v := .agg #[.int .i64 2, .slice none 0 0]) (results_row Tryz.results10 _ _ (w.heap.size) [.int .i64 2, .slice none 0 0] _ rfl VF.out Tryz.underlying31 rfl (by kernel_rfl)) rfl ⟨none, 0, rfl, own_none, BR.out⟩
    · have h4 : 200 < S := by omega
      have h5 : D ≤ 30 := by omega
      clear h2 h3
      go_enter Tryz.func10, Tryz.ntmps10
      have B := Below.refl w.heap.size w
      replace ha := ha.kept (belowA w (.cells #[.int .i64 0, .slice none 0 0] 31))
      replace B := thenB B (belowA w (.cells #[.int .i64 0, .slice none 0 0] 31))
      have VR := V.new w [.int .i64 0, .slice none 0 0] 31
      obtain ⟨s_VR, f_VR, z_VR⟩ := VR.open
      have Bo := B
      go_wp2_with fail
      refine (CA.out _ ha).mono ?_
      rintro e w41 ⟨rfl, b41⟩
      clear s_VR f_VR z_VR
      have S41 := b41.size
      simp only [World.size_alloc] at S41
      replace VR := VR.kept b41
      replace ha := ha.kept b41
      replace B := thenB B b41
      clear b41
      obtain ⟨s_VR, f_VR, z_VR⟩ := VR.open
      have Bo := B
      go_wp2_with fail
      refine (CD.out _ ha).mono ?_
      rintro e w42 ⟨c, d, rfl, O, b42⟩
      clear s_VR f_VR z_VR
      have S42 := b42.size
      replace VR := VR.kept b42
      replace ha := ha.kept b42
      replace B := thenB B b42
      clear b42
      obtain ⟨s_VR, f_VR, z_VR⟩ := VR.open
      have Bo := B
      rcases O.rd with h0 | ⟨b1, o1, rfl, hca2⟩
      · have := hzl.out; rw [h0] at this; simp at this; omega
      have p0 := hca2 m (by have := hzl.out; omega)
      rw [hzm.out] at p0
      clear hca2 O
      go_wp2_with fail
      refine (CS.out _ ha).mono ?_
      rintro e w43 ⟨c2, d2, rfl, O2, b43⟩
      clear s_VR f_VR z_VR
      have S43 := b43.size
      replace VR := VR.kept b43
      replace ha := ha.kept b43
      replace B := thenB B b43
      clear b43
      obtain ⟨s_VR, f_VR, z_VR⟩ := VR.open
      have Bo := B
      rcases O2.rd with h0 | ⟨b2, o2, rfl, hca3⟩
      · have := hsl.out; rw [h0] at this; simp at this; omega
      have p1 := hca3 m (by have := hsl.out; omega)
      rw [hsm.out] at p1
      clear hca3 O2
      clear s_VR f_VR z_VR
      have VF := Hid.mk (VR.filled [.int .i64 2, .slice none 0 0] rfl)
      have HT := Hid.mk VR.there
      have BR := belowCells B (show w.heap.size ≤ w.heap.size by (first | omega | (simp; done) | (simp; omega))) 0 [.int .i64 2, .slice none 0 0]
      replace BR := Hid.mk BR
      obtain ⟨s_VR, f_VR, z_VR⟩ := VR.open
      go_wp2_with (refine wpList_store_mid rfl 31 _ _ rfl (w.heap.size) 0 #[.int .i64 2, .slice none 0 0] rfl rfl HT.out (by kernel_rfl) (by kernel_rfl) ?_)
      refine bodyPost_ret (v := .agg #[.int .i64 2, .slice none 0 0]) (results_row Tryz.results10 _ _ (w.heap.size) [.int .i64 2, .slice none 0 0] _ rfl VF.out Tryz.underlying31 rfl (by kernel_rfl)) rfl ⟨none, 0, rfl, own_none, BR.out⟩
  · rw [e1, e2]
    have hl4 : (l : Int) > 400 := by omega
    replace CE := Hid.mk (CE (by omega))
    clear h1 e1 e2
    go_enter Tryz.func10, Tryz.ntmps10
    have B := Below.refl w.heap.size w
    replace ha := ha.kept (belowA w (.cells #[.int .i64 0, .slice none 0 0] 31))
    replace B := thenB B (belowA w (.cells #[.int .i64 0, .slice none 0 0] 31))
    have VR := V.new w [.int .i64 0, .slice none 0 0] 31
    obtain ⟨s_VR, f_VR, z_VR⟩ := VR.open
    have Bo := B
    go_wp2_with fail
    refine (CA.out _ ha).mono ?_
    rintro e w41 ⟨rfl, b41⟩
    clear s_VR f_VR z_VR
    have S41 := b41.size
    simp only [World.size_alloc] at S41
    replace VR := VR.kept b41
    replace ha := ha.kept b41
    replace B := thenB B b41
    clear b41
    obtain ⟨s_VR, f_VR, z_VR⟩ := VR.open
    have Bo := B
    go_wp2_with fail
    refine (CD.out _ ha).mono ?_
    rintro e w42 ⟨c, d, rfl, O, b42⟩
    clear s_VR f_VR z_VR
    have S42 := b42.size
    replace VR := VR.kept b42
    replace ha := ha.kept b42
    replace B := thenB B b42
    clear b42
    obtain ⟨s_VR, f_VR, z_VR⟩ := VR.open
    have Bo := B
    rcases O.rd with h0 | ⟨b1, o1, rfl, hca2⟩
    · have := hzl.out; rw [h0] at this; simp at this; omega
    have p0 := hca2 m (by have := hzl.out; omega)
    rw [hzm.out] at p0
    clear hca2 O
    go_wp2_with fail
    refine (CS.out _ ha).mono ?_
    rintro e w43 ⟨c2, d2, rfl, O2, b43⟩
    clear s_VR f_VR z_VR
    have S43 := b43.size
    replace VR := VR.kept b43
    replace ha := ha.kept b43
    replace B := thenB B b43
    clear b43
    obtain ⟨s_VR, f_VR, z_VR⟩ := VR.open
    have Bo := B
    rcases O2.rd with h0 | ⟨b2, o2, rfl, hca3⟩
    · have := hsl.out; rw [h0] at this; simp at this; omega
    have p1 := hca3 m (by have := hsl.out; omega)
    rw [hsm.out] at p1
    clear hca3 O2
    go_wp2_with fail
    refine (CE.out _ ha).mono ?_
    rintro e w44 ⟨c3, d3, rfl, O, b44⟩
    clear s_VR f_VR z_VR
    have S44 := b44.size
    replace VR := VR.kept b44
    replace ha := ha.kept b44
    replace B := thenB B b44
    clear b44
    obtain ⟨s_VR, f_VR, z_VR⟩ := VR.open
    have Bo := B
    clear s_VR f_VR z_VR
    have VF := Hid.mk (VR.filled [.int .i64 2, .slice none 0 0] rfl)
    have HT := Hid.mk VR.there
    have BR := belowCells B (show w.heap.size ≤ w.heap.size by (first | omega | (simp; done) | (simp; omega))) 0 [.int .i64 2, .slice none 0 0]
    replace BR := Hid.mk BR
    obtain ⟨s_VR, f_VR, z_VR⟩ := VR.open
    go_wp2_with (refine wpList_store_mid rfl 31 _ _ rfl (w.heap.size) 0 #[.int .i64 2, .slice none 0 0] rfl rfl HT.out (by kernel_rfl) (by kernel_rfl) ?_)
    refine bodyPost_ret (v := .agg #[.int .i64 2, .slice none 0 0]) (results_row Tryz.results10 _ _ (w.heap.size) [.int .i64 2, .slice none 0 0] _ rfl VF.out Tryz.underlying31 rfl (by kernel_rfl)) rfl ⟨none, 0, rfl, own_none, BR.out⟩
  · rw [e1, e2]
    have hl4 : (l : Int) ≤ 400 := by omega
    replace CE := Hid.mk (CE (by omega))
    clear h1 e1 e2
    go_enter Tryz.func10, Tryz.ntmps10
    have B := Below.refl w.heap.size w
    replace ha := ha.kept (belowA w (.cells #[.int .i64 0, .slice none 0 0] 31))
    replace B := thenB B (belowA w (.cells #[.int .i64 0, .slice none 0 0] 31))
    have VR := V.new w [.int .i64 0, .slice none 0 0] 31
    obtain ⟨s_VR, f_VR, z_VR⟩ := VR.open
    have Bo := B
    go_wp2_with fail
    refine (CA.out _ ha).mono ?_
    rintro e w41 ⟨rfl, b41⟩
    clear s_VR f_VR z_VR
    have S41 := b41.size
    simp only [World.size_alloc] at S41
    replace VR := VR.kept b41
    replace ha := ha.kept b41
    replace B := thenB B b41
    clear b41
    obtain ⟨s_VR, f_VR, z_VR⟩ := VR.open
    have Bo := B
    go_wp2_with fail
    refine (CD.out _ ha).mono ?_
    rintro e w42 ⟨c, d, rfl, O, b42⟩
    clear s_VR f_VR z_VR
    have S42 := b42.size
    replace VR := VR.kept b42
    replace ha := ha.kept b42
    replace B := thenB B b42
    clear b42
    obtain ⟨s_VR, f_VR, z_VR⟩ := VR.open
    have Bo := B
    rcases O.rd with h0 | ⟨b1, o1, rfl, hca2⟩
    · have := hzl.out; rw [h0] at this; simp at this; omega
    have p0 := hca2 m (by have := hzl.out; omega)
    rw [hzm.out] at p0
    clear hca2 O
    go_wp2_with fail
    refine (CS.out _ ha).mono ?_
    rintro e w43 ⟨c2, d2, rfl, O2, b43⟩
    clear s_VR f_VR z_VR
    have S43 := b43.size
    replace VR := VR.kept b43
    replace ha := ha.kept b43
    replace B := thenB B b43
    clear b43
    obtain ⟨s_VR, f_VR, z_VR⟩ := VR.open
    have Bo := B
    rcases O2.rd with h0 | ⟨b2, o2, rfl, hca3⟩
    · have := hsl.out; rw [h0] at this; simp at this; omega
    have p1 := hca3 m (by have := hsl.out; omega)
    rw [hsm.out] at p1
    clear hca3 O2
    go_wp2_with fail
    refine (CE.out _ ha).mono ?_
    rintro e w44 ⟨c3, d3, rfl, O, b44⟩
    clear s_VR f_VR z_VR
    have S44 := b44.size
    replace VR := VR.kept b44
    replace ha := ha.kept b44
    replace B := thenB B b44
    clear b44
    obtain ⟨s_VR, f_VR, z_VR⟩ := VR.open
    have Bo := B
    have OL := Hid.mk (fun b hb => (O.lt b hb).1)
    clear s_VR f_VR z_VR
    have VF := Hid.mk (VR.filled [.int .i64 0, .slice c3 l d3] rfl)
    have HT := Hid.mk VR.there
    have BR := belowCells B (show w.heap.size ≤ w.heap.size by (first | omega | (simp; done) | (simp; omega))) 0 [.int .i64 0, .slice c3 l d3]
    replace BR := Hid.mk BR
    have HO := Hid.mk ((O.mono (show w.heap.size ≤ _ by first | omega | (simp; done) | (simp; omega))).apart8 (B := w.heap.size) (by intro b hb; have := OL.out b hb; first | omega | (simp at this; omega)) 0 [.int .i64 0, .slice c3 l d3])
    obtain ⟨s_VR, f_VR, z_VR⟩ := VR.open
    go_wp2_with (refine wpList_store_mid rfl 31 _ _ rfl (w.heap.size) 0 #[.int .i64 0, .slice c3 l d3] rfl rfl HT.out (by kernel_rfl) (by kernel_rfl) ?_)
    refine bodyPost_ret (v := .agg #[.int .i64 0, .slice c3 l d3]) (results_row Tryz.results10 _ _ (w.heap.size) [.int .i64 0, .slice c3 l d3] _ rfl VF.out Tryz.underlying31 rfl (by kernel_rfl)) rfl ⟨c3, d3, by rw [hll.out], HO.out, BR.out⟩

end Go.Proofs.YtfldgeokigcokaaGreat
