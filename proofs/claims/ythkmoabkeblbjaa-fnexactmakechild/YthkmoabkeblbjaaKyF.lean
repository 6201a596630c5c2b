/- MakeChild of the model. -/
import Derived.Test.YthkmoabkeblbjaaMa
namespace Go.Proofs.Ythkmoabkeblbjaa
open Go.RowKit

/-- What comes of two children: the code, the places, the table. -/
structure Put2 where
  c : Int
  o : Int
  b : Int
  l : List T4

@[irreducible] def mcR (xs : List T4) (down ni nr si sr : Int) : Put2 :=
  if aqC xs [down, ni, nr] = 0 then (if (btw si 0 9999 && btw sr 0 9999) = true then (if (chK (chK ⟨xs, 0⟩ 4 down ni nr si sr).1 5 down ni nr si sr).1.c = 0 then ⟨0, (chK ⟨xs, 0⟩ 4 down ni nr si sr).2, (chK (chK ⟨xs, 0⟩ 4 down ni nr si sr).1 5 down ni nr si sr).2, (chK (chK ⟨xs, 0⟩ 4 down ni nr si sr).1 5 down ni nr si sr).1.l⟩ else ⟨(chK (chK ⟨xs, 0⟩ 4 down ni nr si sr).1 5 down ni nr si sr).1.c, 0, 0, []⟩) else ⟨3, 0, 0, []⟩) else ⟨aqC xs [down, ni, nr], 0, 0, []⟩

theorem mc_ways (xs : List T4) (down ni nr si sr : Int) : (aqC xs [down, ni, nr] ≠ 0 ∧ mcR xs down ni nr si sr = ⟨aqC xs [down, ni, nr], 0, 0, []⟩) ∨ (aqC xs [down, ni, nr] = 0 ∧ btw si 0 9999 = false ∧ mcR xs down ni nr si sr = ⟨3, 0, 0, []⟩) ∨ (aqC xs [down, ni, nr] = 0 ∧ btw si 0 9999 = true ∧ btw sr 0 9999 = false ∧ mcR xs down ni nr si sr = ⟨3, 0, 0, []⟩) ∨
    (aqC xs [down, ni, nr] = 0 ∧ btw si 0 9999 = true ∧ btw sr 0 9999 = true ∧ (chK (chK ⟨xs, 0⟩ 4 down ni nr si sr).1 5 down ni nr si sr).1.c ≠ 0 ∧ mcR xs down ni nr si sr = ⟨(chK (chK ⟨xs, 0⟩ 4 down ni nr si sr).1 5 down ni nr si sr).1.c, 0, 0, []⟩) ∨
    (aqC xs [down, ni, nr] = 0 ∧ btw si 0 9999 = true ∧ btw sr 0 9999 = true ∧ (chK (chK ⟨xs, 0⟩ 4 down ni nr si sr).1 5 down ni nr si sr).1.c = 0 ∧ mcR xs down ni nr si sr = ⟨0, (chK ⟨xs, 0⟩ 4 down ni nr si sr).2, (chK (chK ⟨xs, 0⟩ 4 down ni nr si sr).1 5 down ni nr si sr).2, (chK (chK ⟨xs, 0⟩ 4 down ni nr si sr).1 5 down ni nr si sr).1.l⟩) := by
  unfold mcR
  by_cases h1 : aqC xs [down, ni, nr] = 0
  · cases h2 : btw si 0 9999
    · exact .inr (.inl ⟨h1, rfl, by simp [h1]⟩)
    · cases h4 : btw sr 0 9999
      · exact .inr (.inr (.inl ⟨h1, rfl, rfl, by simp [h1]⟩))
      · by_cases h3 : (chK (chK ⟨xs, 0⟩ 4 down ni nr si sr).1 5 down ni nr si sr).1.c = 0
        · exact .inr (.inr (.inr (.inr ⟨h1, rfl, rfl, h3, by simp [h1, h3]⟩)))
        · exact .inr (.inr (.inr (.inl ⟨h1, rfl, rfl, h3, by simp [h1, h3]⟩)))
  · exact .inl ⟨h1, by simp [h1]⟩

set_option maxRecDepth 20000 in
set_option maxHeartbeats 8000000 in
theorem specMakeChild_ok (a : Option Addr) (n ca : Nat) (xs : List T4) (down ni nr si sr : Int) (w : World) (ha : RdTerm w a xs) (hn : xs.length = n) (hx : n ≤ 1048576) (hca : n ≤ ca) (hcn : a = none → ca = 0) :
    Calls Try.prog 43 #[.slice a n ca, .int .i64 down, .int .i64 ni, .int .i64 nr, .int .i64 si, .int .i64 sr] w fun e w' => ∃ c d, e = .returned (.agg #[.int .i64 (mcR xs down ni nr si sr).c, .int .i64 (mcR xs down ni nr si sr).o, .int .i64 (mcR xs down ni nr si sr).b, .slice c (mcR xs down ni nr si sr).l.length d]) ∧ OwnTerm w' w.heap.size c d (mcR xs down ni nr si sr).l ∧ Below w.heap.size w w' := by
  have CA := Hid.mk (fun b w h hp => l9Asked_ok a n ca xs b 3 3 [down, ni, nr] w h hp hn rfl (by unfold maxLen; omega) hca (by omega))
  have CW1 := Hid.mk (l9Word_ok si)
  have CW2 := Hid.mk (l9Word_ok sr)
  have CC := Hid.mk (fun (h4 : tfC xs = 0) w h => l5Copy_ok a n ca xs w h hn (by have := (tfC_zero h4).1; omega) hcn)
  rcases mc_ways xs down ni nr si sr with ⟨h1, e⟩ | ⟨h1, h2, e⟩ | ⟨h1, h2, h4, e⟩ | ⟨h1, h2, h4, h3, e⟩ | ⟨h1, h2, h4, h3, e⟩
  · have hne : (aqC xs [down, ni, nr] != 0) = true := by simpa using h1
    rw [e]
    generalize aqC xs [down, ni, nr] = kc at *
    clear e h1
    go_enter Try.func43, Try.ntmps43
    have B := Below.refl w.heap.size w
    replace ha := ha.kept (belowA w (.cells #[.int .i64 0, .int .i64 0, .int .i64 0, .slice none 0 0] 67))
    replace B := thenB B (belowA w (.cells #[.int .i64 0, .int .i64 0, .int .i64 0, .slice none 0 0] 67))
    have VR := V.new w [.int .i64 0, .int .i64 0, .int .i64 0, .slice none 0 0] 67
    obtain ⟨s_VR, f_VR, z_VR⟩ := VR.open
    have Bo := B
    have RP := Rd.litI (w.alloc (.cells #[.int .i64 0, .int .i64 0, .int .i64 0, .slice none 0 0] 67)) [down, ni, nr]
    simp only [World.size_alloc] at RP
    have VRa := VR.kept (belowA (w.alloc (.cells #[.int .i64 0, .int .i64 0, .int .i64 0, .slice none 0 0] 67)) (.cells #[.int .i64 down, .int .i64 ni, .int .i64 nr] 2))
    have Ba := thenB B (belowA (w.alloc (.cells #[.int .i64 0, .int .i64 0, .int .i64 0, .slice none 0 0] 67)) (.cells #[.int .i64 down, .int .i64 ni, .int .i64 nr] 2))
    have haa := ha.kept (belowA (w.alloc (.cells #[.int .i64 0, .int .i64 0, .int .i64 0, .slice none 0 0] 67)) (.cells #[.int .i64 down, .int .i64 ni, .int .i64 nr] 2))
    go_wp2_with fail
    refine (CA.out _ _ haa RP).mono ?_
    rintro e9 w1 ⟨rfl, b1⟩
    have S1 := b1.size
    simp only [World.size_alloc] at S1
    replace VR := VRa.kept b1
    replace ha := haa.kept b1
    replace B := thenB Ba b1
    clear RP VRa Ba haa b1
    clear s_VR f_VR z_VR
    obtain ⟨s_VR, f_VR, z_VR⟩ := VR.open
    have Bo := B
    clear s_VR f_VR z_VR
    have VF := Hid.mk (VR.filled [.int .i64 kc, .int .i64 0, .int .i64 0, .slice none 0 0] rfl)
    have BR := belowCells B (show w.heap.size ≤ w.heap.size by (first | omega | (simp; done) | (simp; omega))) 0 [.int .i64 kc, .int .i64 0, .int .i64 0, .slice none 0 0]
    have HT := Hid.mk VR.there
    replace BR := Hid.mk BR
    obtain ⟨s_VR, f_VR, z_VR⟩ := VR.open
    go_wp2_with (refine wpList_store_mid rfl 67 _ _ rfl (w.heap.size) 0 #[.int .i64 kc, .int .i64 0, .int .i64 0, .slice none 0 0] rfl rfl HT.out (by kernel_rfl) (by kernel_rfl) ?_)
    refine bodyPost_ret (v := .agg #[.int .i64 kc, .int .i64 0, .int .i64 0, .slice none 0 0]) (results_row Try.results43 _ _ (w.heap.size) [.int .i64 kc, .int .i64 0, .int .i64 0, .slice none 0 0] _ rfl VF.out Try.underlying67 rfl (by kernel_rfl)) rfl ⟨none, 0, rfl, OwnTerm.none, BR.out⟩
  · rw [e]
    rw [h1] at CA
    simp only [h2] at CW1
    skip
    clear e h1 h2
    go_enter Try.func43, Try.ntmps43
    have B := Below.refl w.heap.size w
    replace ha := ha.kept (belowA w (.cells #[.int .i64 0, .int .i64 0, .int .i64 0, .slice none 0 0] 67))
    replace B := thenB B (belowA w (.cells #[.int .i64 0, .int .i64 0, .int .i64 0, .slice none 0 0] 67))
    have VR := V.new w [.int .i64 0, .int .i64 0, .int .i64 0, .slice none 0 0] 67
    obtain ⟨s_VR, f_VR, z_VR⟩ := VR.open
    have Bo := B
    have RP := Rd.litI (w.alloc (.cells #[.int .i64 0, .int .i64 0, .int .i64 0, .slice none 0 0] 67)) [down, ni, nr]
    simp only [World.size_alloc] at RP
    have VRa := VR.kept (belowA (w.alloc (.cells #[.int .i64 0, .int .i64 0, .int .i64 0, .slice none 0 0] 67)) (.cells #[.int .i64 down, .int .i64 ni, .int .i64 nr] 2))
    have Ba := thenB B (belowA (w.alloc (.cells #[.int .i64 0, .int .i64 0, .int .i64 0, .slice none 0 0] 67)) (.cells #[.int .i64 down, .int .i64 ni, .int .i64 nr] 2))
    have haa := ha.kept (belowA (w.alloc (.cells #[.int .i64 0, .int .i64 0, .int .i64 0, .slice none 0 0] 67)) (.cells #[.int .i64 down, .int .i64 ni, .int .i64 nr] 2))
    go_wp2_with fail
    refine (CA.out _ _ haa RP).mono ?_
    rintro e9 w1 ⟨rfl, b1⟩
    have S1 := b1.size
    simp only [World.size_alloc] at S1
    replace VR := VRa.kept b1
    replace ha := haa.kept b1
    replace B := thenB Ba b1
    clear RP VRa Ba haa b1
    clear s_VR f_VR z_VR
    obtain ⟨s_VR, f_VR, z_VR⟩ := VR.open
    have Bo := B
    go_wp2_with fail
    refine (CW1.out _).mono ?_
    rintro e9 wq ⟨rfl, rfl⟩
    clear s_VR f_VR z_VR
    have VF := Hid.mk (VR.filled [.int .i64 3, .int .i64 0, .int .i64 0, .slice none 0 0] rfl)
    have BR := belowCells B (show w.heap.size ≤ w.heap.size by (first | omega | (simp; done) | (simp; omega))) 0 [.int .i64 3, .int .i64 0, .int .i64 0, .slice none 0 0]
    have HT := Hid.mk VR.there
    replace BR := Hid.mk BR
    obtain ⟨s_VR, f_VR, z_VR⟩ := VR.open
    go_wp2_with (refine wpList_store_mid rfl 67 _ _ rfl (w.heap.size) 0 #[.int .i64 3, .int .i64 0, .int .i64 0, .slice none 0 0] rfl rfl HT.out (by kernel_rfl) (by kernel_rfl) ?_)
    refine bodyPost_ret (v := .agg #[.int .i64 3, .int .i64 0, .int .i64 0, .slice none 0 0]) (results_row Try.results43 _ _ (w.heap.size) [.int .i64 3, .int .i64 0, .int .i64 0, .slice none 0 0] _ rfl VF.out Try.underlying67 rfl (by kernel_rfl)) rfl ⟨none, 0, rfl, OwnTerm.none, BR.out⟩
  · rw [e]
    rw [h1] at CA
    simp only [h2] at CW1
    simp only [h4] at CW2
    clear e h1 h2 h4
    go_enter Try.func43, Try.ntmps43
    have B := Below.refl w.heap.size w
    replace ha := ha.kept (belowA w (.cells #[.int .i64 0, .int .i64 0, .int .i64 0, .slice none 0 0] 67))
    replace B := thenB B (belowA w (.cells #[.int .i64 0, .int .i64 0, .int .i64 0, .slice none 0 0] 67))
    have VR := V.new w [.int .i64 0, .int .i64 0, .int .i64 0, .slice none 0 0] 67
    obtain ⟨s_VR, f_VR, z_VR⟩ := VR.open
    have Bo := B
    have RP := Rd.litI (w.alloc (.cells #[.int .i64 0, .int .i64 0, .int .i64 0, .slice none 0 0] 67)) [down, ni, nr]
    simp only [World.size_alloc] at RP
    have VRa := VR.kept (belowA (w.alloc (.cells #[.int .i64 0, .int .i64 0, .int .i64 0, .slice none 0 0] 67)) (.cells #[.int .i64 down, .int .i64 ni, .int .i64 nr] 2))
    have Ba := thenB B (belowA (w.alloc (.cells #[.int .i64 0, .int .i64 0, .int .i64 0, .slice none 0 0] 67)) (.cells #[.int .i64 down, .int .i64 ni, .int .i64 nr] 2))
    have haa := ha.kept (belowA (w.alloc (.cells #[.int .i64 0, .int .i64 0, .int .i64 0, .slice none 0 0] 67)) (.cells #[.int .i64 down, .int .i64 ni, .int .i64 nr] 2))
    go_wp2_with fail
    refine (CA.out _ _ haa RP).mono ?_
    rintro e9 w1 ⟨rfl, b1⟩
    have S1 := b1.size
    simp only [World.size_alloc] at S1
    replace VR := VRa.kept b1
    replace ha := haa.kept b1
    replace B := thenB Ba b1
    clear RP VRa Ba haa b1
    clear s_VR f_VR z_VR
    obtain ⟨s_VR, f_VR, z_VR⟩ := VR.open
    have Bo := B
    go_wp2_with fail
    refine (CW1.out _).mono ?_
    rintro e9 wq ⟨rfl, rfl⟩
    go_wp2_with fail
    refine (CW2.out _).mono ?_
    rintro e9 wq ⟨rfl, rfl⟩
    clear s_VR f_VR z_VR
    have VF := Hid.mk (VR.filled [.int .i64 3, .int .i64 0, .int .i64 0, .slice none 0 0] rfl)
    have BR := belowCells B (show w.heap.size ≤ w.heap.size by (first | omega | (simp; done) | (simp; omega))) 0 [.int .i64 3, .int .i64 0, .int .i64 0, .slice none 0 0]
    have HT := Hid.mk VR.there
    replace BR := Hid.mk BR
    obtain ⟨s_VR, f_VR, z_VR⟩ := VR.open
    go_wp2_with (refine wpList_store_mid rfl 67 _ _ rfl (w.heap.size) 0 #[.int .i64 3, .int .i64 0, .int .i64 0, .slice none 0 0] rfl rfl HT.out (by kernel_rfl) (by kernel_rfl) ?_)
    refine bodyPost_ret (v := .agg #[.int .i64 3, .int .i64 0, .int .i64 0, .slice none 0 0]) (results_row Try.results43 _ _ (w.heap.size) [.int .i64 3, .int .i64 0, .int .i64 0, .slice none 0 0] _ rfl VF.out Try.underlying67 rfl (by kernel_rfl)) rfl ⟨none, 0, rfl, OwnTerm.none, BR.out⟩
  · rw [e]
    have hl4 : xs.length ≤ 400 := (tfC_zero (aq_table h1)).1
    replace CC := Hid.mk (CC.out (aq_table h1))
    rw [h1] at CA
    simp only [h2] at CW1
    simp only [h4] at CW2
    have CPf := Hid.mk (fun base Q w h => l9Child_ok base Q ⟨xs, 0⟩ down ni nr si sr w h hl4)
    generalize (chK ⟨xs, 0⟩ 4 down ni nr si sr).2 = po at *
    generalize chK (chK ⟨xs, 0⟩ 4 down ni nr si sr).1 5 down ni nr si sr = P at *
    obtain ⟨⟨pl, pc⟩, pv⟩ := P
    simp only at h3 CPf ⊢
    obtain ⟨k, hk⟩ : ∃ k, pl.length = k := ⟨_, rfl⟩
    have HK := Hid.mk hk
    have hne : (pc != 0) = true := by simpa using h3
    clear e h1 h2 h4 h3 hl4 hk
    go_enter Try.func43, Try.ntmps43
    have B := Below.refl w.heap.size w
    replace ha := ha.kept (belowA w (.cells #[.int .i64 0, .int .i64 0, .int .i64 0, .slice none 0 0] 67))
    replace B := thenB B (belowA w (.cells #[.int .i64 0, .int .i64 0, .int .i64 0, .slice none 0 0] 67))
    have VR := V.new w [.int .i64 0, .int .i64 0, .int .i64 0, .slice none 0 0] 67
    obtain ⟨s_VR, f_VR, z_VR⟩ := VR.open
    have Bo := B
    have RP := Rd.litI (w.alloc (.cells #[.int .i64 0, .int .i64 0, .int .i64 0, .slice none 0 0] 67)) [down, ni, nr]
    simp only [World.size_alloc] at RP
    have VRa := VR.kept (belowA (w.alloc (.cells #[.int .i64 0, .int .i64 0, .int .i64 0, .slice none 0 0] 67)) (.cells #[.int .i64 down, .int .i64 ni, .int .i64 nr] 2))
    have Ba := thenB B (belowA (w.alloc (.cells #[.int .i64 0, .int .i64 0, .int .i64 0, .slice none 0 0] 67)) (.cells #[.int .i64 down, .int .i64 ni, .int .i64 nr] 2))
    have haa := ha.kept (belowA (w.alloc (.cells #[.int .i64 0, .int .i64 0, .int .i64 0, .slice none 0 0] 67)) (.cells #[.int .i64 down, .int .i64 ni, .int .i64 nr] 2))
    go_wp2_with fail
    refine (CA.out _ _ haa RP).mono ?_
    rintro e9 w1 ⟨rfl, b1⟩
    have S1 := b1.size
    simp only [World.size_alloc] at S1
    replace VR := VRa.kept b1
    replace ha := haa.kept b1
    replace B := thenB Ba b1
    clear RP VRa Ba haa b1
    clear s_VR f_VR z_VR
    obtain ⟨s_VR, f_VR, z_VR⟩ := VR.open
    have Bo := B
    go_wp2_with fail
    refine (CW1.out _).mono ?_
    rintro e9 wq ⟨rfl, rfl⟩
    go_wp2_with fail
    refine (CW2.out _).mono ?_
    rintro e9 wq ⟨rfl, rfl⟩
    go_wp2_with fail
    refine (CC.out _ ha).mono ?_
    rintro e w2 ⟨c1, d1, rfl, O1, b2⟩
    clear s_VR f_VR z_VR
    have S2 := b2.size
    replace VR := VR.kept b2
    replace ha := ha.kept b2
    replace B := thenB B b2
    clear b2
    obtain ⟨s_VR, f_VR, z_VR⟩ := VR.open
    have Bo := B
    have OLT := Hid.mk O1.lt
    replace VR := VR.kept (belowA w2 (.cells #[.slice c1 n d1, .int .i64 0] 104))
    replace ha := ha.kept (belowA w2 (.cells #[.slice c1 n d1, .int .i64 0] 104))
    replace O1 := O1.kept (belowA w2 (.cells #[.slice c1 n d1, .int .i64 0] 104))
    replace B := thenB B (belowA w2 (.cells #[.slice c1 n d1, .int .i64 0] 104))
    have VQ := V.new w2 [.slice c1 n d1, .int .i64 0] 104
    clear s_VR f_VR z_VR
    obtain ⟨s_VR, f_VR, z_VR⟩ := VR.open
    obtain ⟨s_VQ, f_VQ, z_VQ⟩ := VQ.open
    have Bo := B
    have M := MkB.made hn VQ (O1.mono (show w.heap.size + 1 ≤ _ by have := VR.1; omega)) (by have := VR.1; (try simp only [World.size_alloc] at *); omega) (fun b hb => by have := (OLT.out b hb).2; omega)
    have hQ1 : w.heap.size + 1 ≤ w2.heap.size := by omega
    clear O1 VQ
    go_wp2_with fail
    refine (CPf.out _ _ _ M).mono ?_
    rintro e9 w5 ⟨rfl, M5, G5⟩
    have VR5 := VR.grownB G5 (by omega)
    have B5 := B.grown G5 (by (try simp only [World.size_alloc]); omega) (by intro q hq; simp at hq; omega)
    clear M G5 VR B ha Bo
    obtain ⟨c2, d2, VQ, O2, hb5, hne5⟩ := M5
    simp only at VQ O2
    rw [HK.out] at VQ
    have VR := VR5
    have B := B5
    clear VR5 B5
    have OL2 := Hid.mk O2.lt
    clear s_VR f_VR z_VR s_VQ f_VQ z_VQ
    have VF := Hid.mk (VR.filled [.int .i64 pc, .int .i64 0, .int .i64 0, .slice none 0 0] rfl)
    have BR := belowCells B (show w.heap.size ≤ w.heap.size by (first | omega | (simp; done) | (simp; omega))) 0 [.int .i64 pc, .int .i64 0, .int .i64 0, .slice none 0 0]
    have HT := Hid.mk VR.there
    replace BR := Hid.mk BR
    clear O2
    obtain ⟨s_VR, f_VR, z_VR⟩ := VR.open
    obtain ⟨s_VQ, f_VQ, z_VQ⟩ := VQ.open
    go_wp2_with (refine wpList_store_mid rfl 67 _ _ rfl (w.heap.size) 0 #[.int .i64 pc, .int .i64 0, .int .i64 0, .slice none 0 0] rfl rfl HT.out (by kernel_rfl) (by kernel_rfl) ?_)
    refine bodyPost_ret (v := .agg #[.int .i64 pc, .int .i64 0, .int .i64 0, .slice none 0 0]) (results_row Try.results43 _ _ (w.heap.size) [.int .i64 pc, .int .i64 0, .int .i64 0, .slice none 0 0] _ rfl VF.out Try.underlying67 rfl (by kernel_rfl)) rfl ⟨none, 0, rfl, OwnTerm.none, BR.out⟩
  · rw [e]
    have hl4 : xs.length ≤ 400 := (tfC_zero (aq_table h1)).1
    replace CC := Hid.mk (CC.out (aq_table h1))
    rw [h1] at CA
    simp only [h2] at CW1
    simp only [h4] at CW2
    have CPf := Hid.mk (fun base Q w h => l9Child_ok base Q ⟨xs, 0⟩ down ni nr si sr w h hl4)
    generalize (chK ⟨xs, 0⟩ 4 down ni nr si sr).2 = po at *
    generalize chK (chK ⟨xs, 0⟩ 4 down ni nr si sr).1 5 down ni nr si sr = P at *
    obtain ⟨⟨pl, pc⟩, pv⟩ := P
    simp only at h3 CPf ⊢
    obtain ⟨k, hk⟩ : ∃ k, pl.length = k := ⟨_, rfl⟩
    have HK := Hid.mk hk
    subst h3
    clear e h1 h2 h4 hl4 hk
    go_enter Try.func43, Try.ntmps43
    have B := Below.refl w.heap.size w
    replace ha := ha.kept (belowA w (.cells #[.int .i64 0, .int .i64 0, .int .i64 0, .slice none 0 0] 67))
    replace B := thenB B (belowA w (.cells #[.int .i64 0, .int .i64 0, .int .i64 0, .slice none 0 0] 67))
    have VR := V.new w [.int .i64 0, .int .i64 0, .int .i64 0, .slice none 0 0] 67
    obtain ⟨s_VR, f_VR, z_VR⟩ := VR.open
    have Bo := B
    have RP := Rd.litI (w.alloc (.cells #[.int .i64 0, .int .i64 0, .int .i64 0, .slice none 0 0] 67)) [down, ni, nr]
    simp only [World.size_alloc] at RP
    have VRa := VR.kept (belowA (w.alloc (.cells #[.int .i64 0, .int .i64 0, .int .i64 0, .slice none 0 0] 67)) (.cells #[.int .i64 down, .int .i64 ni, .int .i64 nr] 2))
    have Ba := thenB B (belowA (w.alloc (.cells #[.int .i64 0, .int .i64 0, .int .i64 0, .slice none 0 0] 67)) (.cells #[.int .i64 down, .int .i64 ni, .int .i64 nr] 2))
    have haa := ha.kept (belowA (w.alloc (.cells #[.int .i64 0, .int .i64 0, .int .i64 0, .slice none 0 0] 67)) (.cells #[.int .i64 down, .int .i64 ni, .int .i64 nr] 2))
    go_wp2_with fail
    refine (CA.out _ _ haa RP).mono ?_
    rintro e9 w1 ⟨rfl, b1⟩
    have S1 := b1.size
    simp only [World.size_alloc] at S1
    replace VR := VRa.kept b1
    replace ha := haa.kept b1
    replace B := thenB Ba b1
    clear RP VRa Ba haa b1
    clear s_VR f_VR z_VR
    obtain ⟨s_VR, f_VR, z_VR⟩ := VR.open
    have Bo := B
    go_wp2_with fail
    refine (CW1.out _).mono ?_
    rintro e9 wq ⟨rfl, rfl⟩
    go_wp2_with fail
    refine (CW2.out _).mono ?_
    rintro e9 wq ⟨rfl, rfl⟩
    go_wp2_with fail
    refine (CC.out _ ha).mono ?_
    rintro e w2 ⟨c1, d1, rfl, O1, b2⟩
    clear s_VR f_VR z_VR
    have S2 := b2.size
    replace VR := VR.kept b2
    replace ha := ha.kept b2
    replace B := thenB B b2
    clear b2
    obtain ⟨s_VR, f_VR, z_VR⟩ := VR.open
    have Bo := B
    have OLT := Hid.mk O1.lt
    replace VR := VR.kept (belowA w2 (.cells #[.slice c1 n d1, .int .i64 0] 104))
    replace ha := ha.kept (belowA w2 (.cells #[.slice c1 n d1, .int .i64 0] 104))
    replace O1 := O1.kept (belowA w2 (.cells #[.slice c1 n d1, .int .i64 0] 104))
    replace B := thenB B (belowA w2 (.cells #[.slice c1 n d1, .int .i64 0] 104))
    have VQ := V.new w2 [.slice c1 n d1, .int .i64 0] 104
    clear s_VR f_VR z_VR
    obtain ⟨s_VR, f_VR, z_VR⟩ := VR.open
    obtain ⟨s_VQ, f_VQ, z_VQ⟩ := VQ.open
    have Bo := B
    have M := MkB.made hn VQ (O1.mono (show w.heap.size + 1 ≤ _ by have := VR.1; omega)) (by have := VR.1; (try simp only [World.size_alloc] at *); omega) (fun b hb => by have := (OLT.out b hb).2; omega)
    have hQ1 : w.heap.size + 1 ≤ w2.heap.size := by omega
    clear O1 VQ
    go_wp2_with fail
    refine (CPf.out _ _ _ M).mono ?_
    rintro e9 w5 ⟨rfl, M5, G5⟩
    have VR5 := VR.grownB G5 (by omega)
    have B5 := B.grown G5 (by (try simp only [World.size_alloc]); omega) (by intro q hq; simp at hq; omega)
    clear M G5 VR B ha Bo
    obtain ⟨c2, d2, VQ, O2, hb5, hne5⟩ := M5
    simp only at VQ O2
    rw [HK.out] at VQ
    have VR := VR5
    have B := B5
    clear VR5 B5
    have OL2 := Hid.mk O2.lt
    clear s_VR f_VR z_VR s_VQ f_VQ z_VQ
    have VF := Hid.mk (VR.filled [.int .i64 0, .int .i64 po, .int .i64 pv, .slice c2 k d2] rfl)
    have BR := belowCells B (show w.heap.size ≤ w.heap.size by (first | omega | (simp; done) | (simp; omega))) 0 [.int .i64 0, .int .i64 po, .int .i64 pv, .slice c2 k d2]
    have HT := Hid.mk VR.there
    replace BR := Hid.mk BR
    have OF := Hid.mk ((O2.apart (B := w.heap.size) (fun b hb => by have := (OL2.out b hb).1; omega) 0 [.int .i64 0, .int .i64 po, .int .i64 pv, .slice c2 k d2]).mono (Nat.le_succ w.heap.size))
    clear O2
    obtain ⟨s_VR, f_VR, z_VR⟩ := VR.open
    obtain ⟨s_VQ, f_VQ, z_VQ⟩ := VQ.open
    go_wp2_with (refine wpList_store_mid rfl 67 _ _ rfl (w.heap.size) 0 #[.int .i64 0, .int .i64 po, .int .i64 pv, .slice c2 k d2] rfl rfl HT.out (by kernel_rfl) (by kernel_rfl) ?_)
    refine bodyPost_ret (v := .agg #[.int .i64 0, .int .i64 po, .int .i64 pv, .slice c2 k d2]) (results_row Try.results43 _ _ (w.heap.size) [.int .i64 0, .int .i64 po, .int .i64 pv, .slice c2 k d2] _ rfl VF.out Try.underlying67 rfl (by kernel_rfl)) rfl ⟨c2, d2, by rw [HK.out], OF.out, BR.out⟩

end Go.Proofs.Ythkmoabkeblbjaa
