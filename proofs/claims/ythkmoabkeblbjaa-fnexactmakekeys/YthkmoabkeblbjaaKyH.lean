/- MakeKeys of the model. -/
import Derived.Test.YthkmoabkeblbjaaKyG
namespace Go.Proofs.Ythkmoabkeblbjaa
open Go.RowKit

/-- What comes of keys: the code, the keys, the table. -/
structure KRes where
  c : Int
  k : K4
  l : List T4

@[irreducible] def mkR (xs : List T4) (ni nr own half si sr : Int) : KRes :=
  if aqC xs [ni, nr, own, half] = 0 then (if (btw si 0 9999 && btw sr 0 9999) = true then (if (tmAt xs own).o = 2 ∧ (tmAt xs half).o = 6 then (if (kyR ⟨xs, 0⟩ ni nr own (tmAt xs half).a si sr).1.c = 0 then ⟨0, (kyR ⟨xs, 0⟩ ni nr own (tmAt xs half).a si sr).2, (kyR ⟨xs, 0⟩ ni nr own (tmAt xs half).a si sr).1.l⟩ else ⟨(kyR ⟨xs, 0⟩ ni nr own (tmAt xs half).a si sr).1.c, ⟨0, 0, 0, 0⟩, []⟩) else ⟨1, ⟨0, 0, 0, 0⟩, []⟩) else ⟨3, ⟨0, 0, 0, 0⟩, []⟩) else ⟨aqC xs [ni, nr, own, half], ⟨0, 0, 0, 0⟩, []⟩

theorem mk_ways6 (xs : List T4) (ni nr own half si sr : Int) : (aqC xs [ni, nr, own, half] ≠ 0 ∧ mkR xs ni nr own half si sr = ⟨aqC xs [ni, nr, own, half], ⟨0, 0, 0, 0⟩, []⟩) ∨ (aqC xs [ni, nr, own, half] = 0 ∧ btw si 0 9999 = false ∧ mkR xs ni nr own half si sr = ⟨3, ⟨0, 0, 0, 0⟩, []⟩) ∨ (aqC xs [ni, nr, own, half] = 0 ∧ btw si 0 9999 = true ∧ btw sr 0 9999 = false ∧ mkR xs ni nr own half si sr = ⟨3, ⟨0, 0, 0, 0⟩, []⟩) ∨
    (aqC xs [ni, nr, own, half] = 0 ∧ btw si 0 9999 = true ∧ btw sr 0 9999 = true ∧ (tmAt xs own).o ≠ 2 ∧ mkR xs ni nr own half si sr = ⟨1, ⟨0, 0, 0, 0⟩, []⟩) ∨
    (aqC xs [ni, nr, own, half] = 0 ∧ btw si 0 9999 = true ∧ btw sr 0 9999 = true ∧ (tmAt xs own).o = 2 ∧ (tmAt xs half).o ≠ 6 ∧ mkR xs ni nr own half si sr = ⟨1, ⟨0, 0, 0, 0⟩, []⟩) ∨
    (aqC xs [ni, nr, own, half] = 0 ∧ btw si 0 9999 = true ∧ btw sr 0 9999 = true ∧ (tmAt xs own).o = 2 ∧ (tmAt xs half).o = 6 ∧ (kyR ⟨xs, 0⟩ ni nr own (tmAt xs half).a si sr).1.c ≠ 0 ∧ mkR xs ni nr own half si sr = ⟨(kyR ⟨xs, 0⟩ ni nr own (tmAt xs half).a si sr).1.c, ⟨0, 0, 0, 0⟩, []⟩) ∨
    (aqC xs [ni, nr, own, half] = 0 ∧ btw si 0 9999 = true ∧ btw sr 0 9999 = true ∧ (tmAt xs own).o = 2 ∧ (tmAt xs half).o = 6 ∧ (kyR ⟨xs, 0⟩ ni nr own (tmAt xs half).a si sr).1.c = 0 ∧ mkR xs ni nr own half si sr = ⟨0, (kyR ⟨xs, 0⟩ ni nr own (tmAt xs half).a si sr).2, (kyR ⟨xs, 0⟩ ni nr own (tmAt xs half).a si sr).1.l⟩) := by
  unfold mkR
  by_cases h1 : aqC xs [ni, nr, own, half] = 0
  · cases h2 : btw si 0 9999
    · exact .inr (.inl ⟨h1, rfl, by simp [h1]⟩)
    · cases h4 : btw sr 0 9999
      · exact .inr (.inr (.inl ⟨h1, rfl, rfl, by simp [h1]⟩))
      · by_cases h5 : (tmAt xs own).o = 2
        · by_cases h6 : (tmAt xs half).o = 6
          · by_cases h3 : (kyR ⟨xs, 0⟩ ni nr own (tmAt xs half).a si sr).1.c = 0
            · exact .inr (.inr (.inr (.inr (.inr (.inr ⟨h1, rfl, rfl, h5, h6, h3, by simp [h1, h3, h5, h6]⟩)))))
            · exact .inr (.inr (.inr (.inr (.inr (.inl ⟨h1, rfl, rfl, h5, h6, h3, by simp [h1, h3, h5, h6]⟩)))))
          · exact .inr (.inr (.inr (.inr (.inl ⟨h1, rfl, rfl, h5, h6, by simp [h1, h5, h6]⟩))))
        · exact .inr (.inr (.inr (.inl ⟨h1, rfl, rfl, h5, by simp [h1, h5]⟩)))
  · exact .inl ⟨h1, by simp [h1]⟩

theorem aq_places {xs : List T4} {ps : List Int} (h : aqC xs ps = 0) : ∀ z ∈ ps, 0 ≤ z ∧ z < xs.length := by
  rcases aq_ways xs ps with ⟨h1, h2⟩ | ⟨_, _, h2⟩ | ⟨_, h1, _⟩
  · rw [h2] at h; exact absurd h h1
  · rw [h2] at h; cases h
  · intro z hz
    have h3 := List.all_eq_true.1 h1 z hz
    rw [btw_iff] at h3
    omega

set_option maxRecDepth 20000 in
set_option maxHeartbeats 8000000 in
theorem specMakeKeys_ok (a : Option Addr) (n ca : Nat) (xs : List T4) (ni nr own half si sr : Int) (w : World) (ha : RdTerm w a xs) (hn : xs.length = n) (hx : n ≤ 1048576) (hca : n ≤ ca) (hcn : a = none → ca = 0) :
    Calls Try.prog 16 #[.slice a n ca, .int .i64 ni, .int .i64 nr, .int .i64 own, .int .i64 half, .int .i64 si, .int .i64 sr] w fun e w' => ∃ c d, e = .returned (.agg #[.int .i64 (mkR xs ni nr own half si sr).c, .int .i64 (mkR xs ni nr own half si sr).k.s, .int .i64 (mkR xs ni nr own half si sr).k.d, .int .i64 (mkR xs ni nr own half si sr).k.o, .int .i64 (mkR xs ni nr own half si sr).k.b, .slice c (mkR xs ni nr own half si sr).l.length d]) ∧ OwnTerm w' w.heap.size c d (mkR xs ni nr own half si sr).l ∧ Below w.heap.size w w' := by
  have CA := Hid.mk (fun b w h hp => l9Asked_ok a n ca xs b 4 4 [ni, nr, own, half] w h hp hn rfl (by unfold maxLen; omega) hca (by omega))
  have CW1 := Hid.mk (l9Word_ok si)
  have CW2 := Hid.mk (l9Word_ok sr)
  have CC := Hid.mk (fun (h4 : tfC xs = 0) w h => l5Copy_ok a n ca xs w h hn (by have := (tfC_zero h4).1; omega) hcn)
  rcases mk_ways6 xs ni nr own half si sr with ⟨h1, e⟩ | ⟨h1, h2, e⟩ | ⟨h1, h2, h4, e⟩ | ⟨h1, h2, h4, h5, e⟩ | ⟨h1, h2, h4, h5, h6, e⟩ | ⟨h1, h2, h4, h5, h6, h3, e⟩ | ⟨h1, h2, h4, h5, h6, h3, e⟩
  · have hne : (aqC xs [ni, nr, own, half] != 0) = true := by simpa using h1
    rw [e]
    generalize aqC xs [ni, nr, own, half] = kc at *
    clear e h1
    go_enter Try.func16, Try.ntmps16
    have B := Below.refl w.heap.size w
    replace ha := ha.kept (belowA w (.cells #[.int .i64 0, .int .i64 0, .int .i64 0, .int .i64 0, .int .i64 0, .slice none 0 0] 30))
    replace B := thenB B (belowA w (.cells #[.int .i64 0, .int .i64 0, .int .i64 0, .int .i64 0, .int .i64 0, .slice none 0 0] 30))
    have VR := V.new w [.int .i64 0, .int .i64 0, .int .i64 0, .int .i64 0, .int .i64 0, .slice none 0 0] 30
    obtain ⟨s_VR, f_VR, z_VR⟩ := VR.open
    have Bo := B
    have RP := Rd.litI (w.alloc (.cells #[.int .i64 0, .int .i64 0, .int .i64 0, .int .i64 0, .int .i64 0, .slice none 0 0] 30)) [ni, nr, own, half]
    simp only [World.size_alloc] at RP
    have VRa := VR.kept (belowA (w.alloc (.cells #[.int .i64 0, .int .i64 0, .int .i64 0, .int .i64 0, .int .i64 0, .slice none 0 0] 30)) (.cells #[.int .i64 ni, .int .i64 nr, .int .i64 own, .int .i64 half] 2))
    have Ba := thenB B (belowA (w.alloc (.cells #[.int .i64 0, .int .i64 0, .int .i64 0, .int .i64 0, .int .i64 0, .slice none 0 0] 30)) (.cells #[.int .i64 ni, .int .i64 nr, .int .i64 own, .int .i64 half] 2))
    have haa := ha.kept (belowA (w.alloc (.cells #[.int .i64 0, .int .i64 0, .int .i64 0, .int .i64 0, .int .i64 0, .slice none 0 0] 30)) (.cells #[.int .i64 ni, .int .i64 nr, .int .i64 own, .int .i64 half] 2))
    go_wp2_with fail
    refine (CA.out _ _ haa RP).mono ?_
    rintro e9 w1 ⟨rfl, b1⟩
    have S1 := b1.size
    simp only [World.size_alloc] at S1
    replace VR := VRa.kept b1
    replace ha := haa.kept b1
    replace B := thenB Ba b1
    clear RP VRa Ba haa b1
    clear s_VR f_VR z_VR
    obtain ⟨s_VR, f_VR, z_VR⟩ := VR.open
    have Bo := B
    clear s_VR f_VR z_VR
    have VF := Hid.mk (VR.filled [.int .i64 kc, .int .i64 0, .int .i64 0, .int .i64 0, .int .i64 0, .slice none 0 0] rfl)
    have BR := belowCells B (show w.heap.size ≤ w.heap.size by (first | omega | (simp; done) | (simp; omega))) 0 [.int .i64 kc, .int .i64 0, .int .i64 0, .int .i64 0, .int .i64 0, .slice none 0 0]
    have HT := Hid.mk VR.there
    replace BR := Hid.mk BR
    obtain ⟨s_VR, f_VR, z_VR⟩ := VR.open
    go_wp2_with (refine wpList_store_mid rfl 30 _ _ rfl (w.heap.size) 0 #[.int .i64 kc, .int .i64 0, .int .i64 0, .int .i64 0, .int .i64 0, .slice none 0 0] rfl rfl HT.out (by kernel_rfl) (by kernel_rfl) ?_)
    refine bodyPost_ret (v := .agg #[.int .i64 kc, .int .i64 0, .int .i64 0, .int .i64 0, .int .i64 0, .slice none 0 0]) (results_row Try.results16 _ _ (w.heap.size) [.int .i64 kc, .int .i64 0, .int .i64 0, .int .i64 0, .int .i64 0, .slice none 0 0] _ rfl VF.out Try.underlying30 rfl (by kernel_rfl)) rfl ⟨none, 0, rfl, OwnTerm.none, BR.out⟩
  · rw [e]
    rw [h1] at CA
    simp only [h2] at CW1
    skip
    clear e h1 h2
    go_enter Try.func16, Try.ntmps16
    have B := Below.refl w.heap.size w
    replace ha := ha.kept (belowA w (.cells #[.int .i64 0, .int .i64 0, .int .i64 0, .int .i64 0, .int .i64 0, .slice none 0 0] 30))
    replace B := thenB B (belowA w (.cells #[.int .i64 0, .int .i64 0, .int .i64 0, .int .i64 0, .int .i64 0, .slice none 0 0] 30))
    have VR := V.new w [.int .i64 0, .int .i64 0, .int .i64 0, .int .i64 0, .int .i64 0, .slice none 0 0] 30
    obtain ⟨s_VR, f_VR, z_VR⟩ := VR.open
    have Bo := B
    have RP := Rd.litI (w.alloc (.cells #[.int .i64 0, .int .i64 0, .int .i64 0, .int .i64 0, .int .i64 0, .slice none 0 0] 30)) [ni, nr, own, half]
    simp only [World.size_alloc] at RP
    have VRa := VR.kept (belowA (w.alloc (.cells #[.int .i64 0, .int .i64 0, .int .i64 0, .int .i64 0, .int .i64 0, .slice none 0 0] 30)) (.cells #[.int .i64 ni, .int .i64 nr, .int .i64 own, .int .i64 half] 2))
    have Ba := thenB B (belowA (w.alloc (.cells #[.int .i64 0, .int .i64 0, .int .i64 0, .int .i64 0, .int .i64 0, .slice none 0 0] 30)) (.cells #[.int .i64 ni, .int .i64 nr, .int .i64 own, .int .i64 half] 2))
    have haa := ha.kept (belowA (w.alloc (.cells #[.int .i64 0, .int .i64 0, .int .i64 0, .int .i64 0, .int .i64 0, .slice none 0 0] 30)) (.cells #[.int .i64 ni, .int .i64 nr, .int .i64 own, .int .i64 half] 2))
    go_wp2_with fail
    refine (CA.out _ _ haa RP).mono ?_
    rintro e9 w1 ⟨rfl, b1⟩
    have S1 := b1.size
    simp only [World.size_alloc] at S1
    replace VR := VRa.kept b1
    replace ha := haa.kept b1
    replace B := thenB Ba b1
    clear RP VRa Ba haa b1
    clear s_VR f_VR z_VR
    obtain ⟨s_VR, f_VR, z_VR⟩ := VR.open
    have Bo := B
    go_wp2_with fail
    refine (CW1.out _).mono ?_
    rintro e9 wq ⟨rfl, rfl⟩
    clear s_VR f_VR z_VR
    have VF := Hid.mk (VR.filled [.int .i64 3, .int .i64 0, .int .i64 0, .int .i64 0, .int .i64 0, .slice none 0 0] rfl)
    have BR := belowCells B (show w.heap.size ≤ w.heap.size by (first | omega | (simp; done) | (simp; omega))) 0 [.int .i64 3, .int .i64 0, .int .i64 0, .int .i64 0, .int .i64 0, .slice none 0 0]
    have HT := Hid.mk VR.there
    replace BR := Hid.mk BR
    obtain ⟨s_VR, f_VR, z_VR⟩ := VR.open
    go_wp2_with (refine wpList_store_mid rfl 30 _ _ rfl (w.heap.size) 0 #[.int .i64 3, .int .i64 0, .int .i64 0, .int .i64 0, .int .i64 0, .slice none 0 0] rfl rfl HT.out (by kernel_rfl) (by kernel_rfl) ?_)
    refine bodyPost_ret (v := .agg #[.int .i64 3, .int .i64 0, .int .i64 0, .int .i64 0, .int .i64 0, .slice none 0 0]) (results_row Try.results16 _ _ (w.heap.size) [.int .i64 3, .int .i64 0, .int .i64 0, .int .i64 0, .int .i64 0, .slice none 0 0] _ rfl VF.out Try.underlying30 rfl (by kernel_rfl)) rfl ⟨none, 0, rfl, OwnTerm.none, BR.out⟩
  · rw [e]
    rw [h1] at CA
    simp only [h2] at CW1
    simp only [h4] at CW2
    clear e h1 h2 h4
    go_enter Try.func16, Try.ntmps16
    have B := Below.refl w.heap.size w
    replace ha := ha.kept (belowA w (.cells #[.int .i64 0, .int .i64 0, .int .i64 0, .int .i64 0, .int .i64 0, .slice none 0 0] 30))
    replace B := thenB B (belowA w (.cells #[.int .i64 0, .int .i64 0, .int .i64 0, .int .i64 0, .int .i64 0, .slice none 0 0] 30))
    have VR := V.new w [.int .i64 0, .int .i64 0, .int .i64 0, .int .i64 0, .int .i64 0, .slice none 0 0] 30
    obtain ⟨s_VR, f_VR, z_VR⟩ := VR.open
    have Bo := B
    have RP := Rd.litI (w.alloc (.cells #[.int .i64 0, .int .i64 0, .int .i64 0, .int .i64 0, .int .i64 0, .slice none 0 0] 30)) [ni, nr, own, half]
    simp only [World.size_alloc] at RP
    have VRa := VR.kept (belowA (w.alloc (.cells #[.int .i64 0, .int .i64 0, .int .i64 0, .int .i64 0, .int .i64 0, .slice none 0 0] 30)) (.cells #[.int .i64 ni, .int .i64 nr, .int .i64 own, .int .i64 half] 2))
    have Ba := thenB B (belowA (w.alloc (.cells #[.int .i64 0, .int .i64 0, .int .i64 0, .int .i64 0, .int .i64 0, .slice none 0 0] 30)) (.cells #[.int .i64 ni, .int .i64 nr, .int .i64 own, .int .i64 half] 2))
    have haa := ha.kept (belowA (w.alloc (.cells #[.int .i64 0, .int .i64 0, .int .i64 0, .int .i64 0, .int .i64 0, .slice none 0 0] 30)) (.cells #[.int .i64 ni, .int .i64 nr, .int .i64 own, .int .i64 half] 2))
    go_wp2_with fail
    refine (CA.out _ _ haa RP).mono ?_
    rintro e9 w1 ⟨rfl, b1⟩
    have S1 := b1.size
    simp only [World.size_alloc] at S1
    replace VR := VRa.kept b1
    replace ha := haa.kept b1
    replace B := thenB Ba b1
    clear RP VRa Ba haa b1
    clear s_VR f_VR z_VR
    obtain ⟨s_VR, f_VR, z_VR⟩ := VR.open
    have Bo := B
    go_wp2_with fail
    refine (CW1.out _).mono ?_
    rintro e9 wq ⟨rfl, rfl⟩
    go_wp2_with fail
    refine (CW2.out _).mono ?_
    rintro e9 wq ⟨rfl, rfl⟩
    clear s_VR f_VR z_VR
    have VF := Hid.mk (VR.filled [.int .i64 3, .int .i64 0, .int .i64 0, .int .i64 0, .int .i64 0, .slice none 0 0] rfl)
    have BR := belowCells B (show w.heap.size ≤ w.heap.size by (first | omega | (simp; done) | (simp; omega))) 0 [.int .i64 3, .int .i64 0, .int .i64 0, .int .i64 0, .int .i64 0, .slice none 0 0]
    have HT := Hid.mk VR.there
    replace BR := Hid.mk BR
    obtain ⟨s_VR, f_VR, z_VR⟩ := VR.open
    go_wp2_with (refine wpList_store_mid rfl 30 _ _ rfl (w.heap.size) 0 #[.int .i64 3, .int .i64 0, .int .i64 0, .int .i64 0, .int .i64 0, .slice none 0 0] rfl rfl HT.out (by kernel_rfl) (by kernel_rfl) ?_)
    refine bodyPost_ret (v := .agg #[.int .i64 3, .int .i64 0, .int .i64 0, .int .i64 0, .int .i64 0, .slice none 0 0]) (results_row Try.results16 _ _ (w.heap.size) [.int .i64 3, .int .i64 0, .int .i64 0, .int .i64 0, .int .i64 0, .slice none 0 0] _ rfl VF.out Try.underlying30 rfl (by kernel_rfl)) rfl ⟨none, 0, rfl, OwnTerm.none, BR.out⟩
  · rw [e]
    obtain ⟨on, rfl⟩ : ∃ k : Nat, own = (k : Int) := ⟨own.toNat, by have := (aq_places h1 own (by simp)).1; omega⟩
    obtain ⟨hn9, rfl⟩ : ∃ k : Nat, half = (k : Int) := ⟨half.toNat, by have := (aq_places h1 half (by simp)).1; omega⟩
    have o2 := (aq_places h1 on (by simp)).2
    have o4 := (aq_places h1 hn9 (by simp)).2
    have hl4 : xs.length ≤ 400 := (tfC_zero (aq_table h1)).1
    replace CC := Hid.mk (CC.out (aq_table h1))
    obtain ⟨x, hxo⟩ : ∃ x, xs.getD on zTerm = x := ⟨_, rfl⟩
    obtain ⟨y, hyh⟩ : ∃ y, xs.getD hn9 zTerm = y := ⟨_, rfl⟩
    have tq1 : tmAt xs (on : Int) = x := by unfold tmAt; rw [Int.toNat_natCast]; exact hxo
    have tq2 : tmAt xs (hn9 : Int) = y := by unfold tmAt; rw [Int.toNat_natCast]; exact hyh
    rw [hn] at o2 o4
    have o1 : on < n := by omega
    have o3 : hn9 < n := by omega
    rw [tq1] at h5
    rw [h1] at CA
    simp only [h2] at CW1
    simp only [h4] at CW2
    have hne : (x.o != 2) = true := by simpa using h5
    have Hx := Hid.mk hxo
    have Hy := Hid.mk hyh
    obtain ⟨xo, xa, xb, xn⟩ := x
    obtain ⟨yo, ya, yb, yn⟩ := y
    simp only at h5
    skip
    clear e h1 h2 h4 tq1 tq2 hxo hyh hl4 h5
    go_enter Try.func16, Try.ntmps16
    have B := Below.refl w.heap.size w
    replace ha := ha.kept (belowA w (.cells #[.int .i64 0, .int .i64 0, .int .i64 0, .int .i64 0, .int .i64 0, .slice none 0 0] 30))
    replace B := thenB B (belowA w (.cells #[.int .i64 0, .int .i64 0, .int .i64 0, .int .i64 0, .int .i64 0, .slice none 0 0] 30))
    have VR := V.new w [.int .i64 0, .int .i64 0, .int .i64 0, .int .i64 0, .int .i64 0, .slice none 0 0] 30
    obtain ⟨s_VR, f_VR, z_VR⟩ := VR.open
    have Bo := B
    have RP := Rd.litI (w.alloc (.cells #[.int .i64 0, .int .i64 0, .int .i64 0, .int .i64 0, .int .i64 0, .slice none 0 0] 30)) [ni, nr, (on : Int), (hn9 : Int)]
    simp only [World.size_alloc] at RP
    have VRa := VR.kept (belowA (w.alloc (.cells #[.int .i64 0, .int .i64 0, .int .i64 0, .int .i64 0, .int .i64 0, .slice none 0 0] 30)) (.cells #[.int .i64 ni, .int .i64 nr, .int .i64 (on : Int), .int .i64 (hn9 : Int)] 2))
    have Ba := thenB B (belowA (w.alloc (.cells #[.int .i64 0, .int .i64 0, .int .i64 0, .int .i64 0, .int .i64 0, .slice none 0 0] 30)) (.cells #[.int .i64 ni, .int .i64 nr, .int .i64 (on : Int), .int .i64 (hn9 : Int)] 2))
    have haa := ha.kept (belowA (w.alloc (.cells #[.int .i64 0, .int .i64 0, .int .i64 0, .int .i64 0, .int .i64 0, .slice none 0 0] 30)) (.cells #[.int .i64 ni, .int .i64 nr, .int .i64 (on : Int), .int .i64 (hn9 : Int)] 2))
    go_wp2_with fail
    refine (CA.out _ _ haa RP).mono ?_
    rintro e9 w1 ⟨rfl, b1⟩
    have S1 := b1.size
    simp only [World.size_alloc] at S1
    replace VR := VRa.kept b1
    replace ha := haa.kept b1
    replace B := thenB Ba b1
    clear RP VRa Ba haa b1
    clear s_VR f_VR z_VR
    obtain ⟨s_VR, f_VR, z_VR⟩ := VR.open
    have Bo := B
    go_wp2_with fail
    refine (CW1.out _).mono ?_
    rintro e9 wq ⟨rfl, rfl⟩
    go_wp2_with fail
    refine (CW2.out _).mono ?_
    rintro e9 wq ⟨rfl, rfl⟩
    have haH := Hid.mk ha
    rcases ha with ha | ⟨b1, q1, rfl, hca1⟩
    · rw [ha] at hn; simp at hn; omega
    obtain ⟨p0, p1, p2, p3⟩ := RdTerm.cells hca1 on (by omega) _ Hx.out
    obtain ⟨r0, r1, r2, r3⟩ := RdTerm.cells hca1 hn9 (by omega) _ Hy.out
    clear hca1 p1 p2 p3 r1 r2 r3
    dsimp only at p0 r0
    clear s_VR f_VR z_VR
    have VF := Hid.mk (VR.filled [.int .i64 1, .int .i64 0, .int .i64 0, .int .i64 0, .int .i64 0, .slice none 0 0] rfl)
    have BR := belowCells B (show w.heap.size ≤ w.heap.size by (first | omega | (simp; done) | (simp; omega))) 0 [.int .i64 1, .int .i64 0, .int .i64 0, .int .i64 0, .int .i64 0, .slice none 0 0]
    have HT := Hid.mk VR.there
    replace BR := Hid.mk BR
    obtain ⟨s_VR, f_VR, z_VR⟩ := VR.open
    go_wp2_with (refine wpList_store_mid rfl 30 _ _ rfl (w.heap.size) 0 #[.int .i64 1, .int .i64 0, .int .i64 0, .int .i64 0, .int .i64 0, .slice none 0 0] rfl rfl HT.out (by kernel_rfl) (by kernel_rfl) ?_)
    refine bodyPost_ret (v := .agg #[.int .i64 1, .int .i64 0, .int .i64 0, .int .i64 0, .int .i64 0, .slice none 0 0]) (results_row Try.results16 _ _ (w.heap.size) [.int .i64 1, .int .i64 0, .int .i64 0, .int .i64 0, .int .i64 0, .slice none 0 0] _ rfl VF.out Try.underlying30 rfl (by kernel_rfl)) rfl ⟨none, 0, rfl, OwnTerm.none, BR.out⟩
  · rw [e]
    obtain ⟨on, rfl⟩ : ∃ k : Nat, own = (k : Int) := ⟨own.toNat, by have := (aq_places h1 own (by simp)).1; omega⟩
    obtain ⟨hn9, rfl⟩ : ∃ k : Nat, half = (k : Int) := ⟨half.toNat, by have := (aq_places h1 half (by simp)).1; omega⟩
    have o2 := (aq_places h1 on (by simp)).2
    have o4 := (aq_places h1 hn9 (by simp)).2
    have hl4 : xs.length ≤ 400 := (tfC_zero (aq_table h1)).1
    replace CC := Hid.mk (CC.out (aq_table h1))
    obtain ⟨x, hxo⟩ : ∃ x, xs.getD on zTerm = x := ⟨_, rfl⟩
    obtain ⟨y, hyh⟩ : ∃ y, xs.getD hn9 zTerm = y := ⟨_, rfl⟩
    have tq1 : tmAt xs (on : Int) = x := by unfold tmAt; rw [Int.toNat_natCast]; exact hxo
    have tq2 : tmAt xs (hn9 : Int) = y := by unfold tmAt; rw [Int.toNat_natCast]; exact hyh
    rw [hn] at o2 o4
    have o1 : on < n := by omega
    have o3 : hn9 < n := by omega
    rw [tq1] at h5
    rw [h1] at CA
    simp only [h2] at CW1
    simp only [h4] at CW2
    rw [tq2] at h6
    have hne : (y.o != 6) = true := by simpa using h6
    have Hx := Hid.mk hxo
    have Hy := Hid.mk hyh
    obtain ⟨xo, xa, xb, xn⟩ := x
    obtain ⟨yo, ya, yb, yn⟩ := y
    simp only at h5 h6
    subst h5
    clear e h1 h2 h4 tq1 tq2 hxo hyh hl4 h6
    go_enter Try.func16, Try.ntmps16
    have B := Below.refl w.heap.size w
    replace ha := ha.kept (belowA w (.cells #[.int .i64 0, .int .i64 0, .int .i64 0, .int .i64 0, .int .i64 0, .slice none 0 0] 30))
    replace B := thenB B (belowA w (.cells #[.int .i64 0, .int .i64 0, .int .i64 0, .int .i64 0, .int .i64 0, .slice none 0 0] 30))
    have VR := V.new w [.int .i64 0, .int .i64 0, .int .i64 0, .int .i64 0, .int .i64 0, .slice none 0 0] 30
    obtain ⟨s_VR, f_VR, z_VR⟩ := VR.open
    have Bo := B
    have RP := Rd.litI (w.alloc (.cells #[.int .i64 0, .int .i64 0, .int .i64 0, .int .i64 0, .int .i64 0, .slice none 0 0] 30)) [ni, nr, (on : Int), (hn9 : Int)]
    simp only [World.size_alloc] at RP
    have VRa := VR.kept (belowA (w.alloc (.cells #[.int .i64 0, .int .i64 0, .int .i64 0, .int .i64 0, .int .i64 0, .slice none 0 0] 30)) (.cells #[.int .i64 ni, .int .i64 nr, .int .i64 (on : Int), .int .i64 (hn9 : Int)] 2))
    have Ba := thenB B (belowA (w.alloc (.cells #[.int .i64 0, .int .i64 0, .int .i64 0, .int .i64 0, .int .i64 0, .slice none 0 0] 30)) (.cells #[.int .i64 ni, .int .i64 nr, .int .i64 (on : Int), .int .i64 (hn9 : Int)] 2))
    have haa := ha.kept (belowA (w.alloc (.cells #[.int .i64 0, .int .i64 0, .int .i64 0, .int .i64 0, .int .i64 0, .slice none 0 0] 30)) (.cells #[.int .i64 ni, .int .i64 nr, .int .i64 (on : Int), .int .i64 (hn9 : Int)] 2))
    go_wp2_with fail
    refine (CA.out _ _ haa RP).mono ?_
    rintro e9 w1 ⟨rfl, b1⟩
    have S1 := b1.size
    simp only [World.size_alloc] at S1
    replace VR := VRa.kept b1
    replace ha := haa.kept b1
    replace B := thenB Ba b1
    clear RP VRa Ba haa b1
    clear s_VR f_VR z_VR
    obtain ⟨s_VR, f_VR, z_VR⟩ := VR.open
    have Bo := B
    go_wp2_with fail
    refine (CW1.out _).mono ?_
    rintro e9 wq ⟨rfl, rfl⟩
    go_wp2_with fail
    refine (CW2.out _).mono ?_
    rintro e9 wq ⟨rfl, rfl⟩
    have haH := Hid.mk ha
    rcases ha with ha | ⟨b1, q1, rfl, hca1⟩
    · rw [ha] at hn; simp at hn; omega
    obtain ⟨p0, p1, p2, p3⟩ := RdTerm.cells hca1 on (by omega) _ Hx.out
    obtain ⟨r0, r1, r2, r3⟩ := RdTerm.cells hca1 hn9 (by omega) _ Hy.out
    clear hca1 p1 p2 p3 r1 r2 r3
    dsimp only at p0 r0
    clear s_VR f_VR z_VR
    have VF := Hid.mk (VR.filled [.int .i64 1, .int .i64 0, .int .i64 0, .int .i64 0, .int .i64 0, .slice none 0 0] rfl)
    have BR := belowCells B (show w.heap.size ≤ w.heap.size by (first | omega | (simp; done) | (simp; omega))) 0 [.int .i64 1, .int .i64 0, .int .i64 0, .int .i64 0, .int .i64 0, .slice none 0 0]
    have HT := Hid.mk VR.there
    replace BR := Hid.mk BR
    obtain ⟨s_VR, f_VR, z_VR⟩ := VR.open
    go_wp2_with (refine wpList_store_mid rfl 30 _ _ rfl (w.heap.size) 0 #[.int .i64 1, .int .i64 0, .int .i64 0, .int .i64 0, .int .i64 0, .slice none 0 0] rfl rfl HT.out (by kernel_rfl) (by kernel_rfl) ?_)
    refine bodyPost_ret (v := .agg #[.int .i64 1, .int .i64 0, .int .i64 0, .int .i64 0, .int .i64 0, .slice none 0 0]) (results_row Try.results16 _ _ (w.heap.size) [.int .i64 1, .int .i64 0, .int .i64 0, .int .i64 0, .int .i64 0, .slice none 0 0] _ rfl VF.out Try.underlying30 rfl (by kernel_rfl)) rfl ⟨none, 0, rfl, OwnTerm.none, BR.out⟩
  · rw [e]
    obtain ⟨on, rfl⟩ : ∃ k : Nat, own = (k : Int) := ⟨own.toNat, by have := (aq_places h1 own (by simp)).1; omega⟩
    obtain ⟨hn9, rfl⟩ : ∃ k : Nat, half = (k : Int) := ⟨half.toNat, by have := (aq_places h1 half (by simp)).1; omega⟩
    have o2 := (aq_places h1 on (by simp)).2
    have o4 := (aq_places h1 hn9 (by simp)).2
    have hl4 : xs.length ≤ 400 := (tfC_zero (aq_table h1)).1
    replace CC := Hid.mk (CC.out (aq_table h1))
    obtain ⟨x, hxo⟩ : ∃ x, xs.getD on zTerm = x := ⟨_, rfl⟩
    obtain ⟨y, hyh⟩ : ∃ y, xs.getD hn9 zTerm = y := ⟨_, rfl⟩
    have tq1 : tmAt xs (on : Int) = x := by unfold tmAt; rw [Int.toNat_natCast]; exact hxo
    have tq2 : tmAt xs (hn9 : Int) = y := by unfold tmAt; rw [Int.toNat_natCast]; exact hyh
    rw [hn] at o2 o4
    have o1 : on < n := by omega
    have o3 : hn9 < n := by omega
    rw [tq1] at h5
    rw [h1] at CA
    simp only [h2] at CW1
    simp only [h4] at CW2
    rw [tq2] at h3 h6 ⊢
    have CPf := Hid.mk (fun base Q w h => l9Keys_ok base Q ⟨xs, 0⟩ ni nr on hn9 si sr y.a w h hl4 (by simp only; omega) (by simp only; rw [hyh]))
    generalize kyR ⟨xs, 0⟩ ni nr on y.a si sr = P at *
    obtain ⟨⟨pl, pc⟩, ⟨ks, kd, ko, kb⟩⟩ := P
    simp only at h3 CPf ⊢
    obtain ⟨k, hk⟩ : ∃ k, pl.length = k := ⟨_, rfl⟩
    have HK := Hid.mk hk
    have hne : (pc != 0) = true := by simpa using h3
    have Hx := Hid.mk hxo
    have Hy := Hid.mk hyh
    obtain ⟨xo, xa, xb, xn⟩ := x
    obtain ⟨yo, ya, yb, yn⟩ := y
    simp only at h5 h6
    subst h5
    subst h6
    clear e h1 h2 h4 tq1 tq2 hxo hyh hl4 hk h3
    go_enter Try.func16, Try.ntmps16
    have B := Below.refl w.heap.size w
    replace ha := ha.kept (belowA w (.cells #[.int .i64 0, .int .i64 0, .int .i64 0, .int .i64 0, .int .i64 0, .slice none 0 0] 30))
    replace B := thenB B (belowA w (.cells #[.int .i64 0, .int .i64 0, .int .i64 0, .int .i64 0, .int .i64 0, .slice none 0 0] 30))
    have VR := V.new w [.int .i64 0, .int .i64 0, .int .i64 0, .int .i64 0, .int .i64 0, .slice none 0 0] 30
    obtain ⟨s_VR, f_VR, z_VR⟩ := VR.open
    have Bo := B
    have RP := Rd.litI (w.alloc (.cells #[.int .i64 0, .int .i64 0, .int .i64 0, .int .i64 0, .int .i64 0, .slice none 0 0] 30)) [ni, nr, (on : Int), (hn9 : Int)]
    simp only [World.size_alloc] at RP
    have VRa := VR.kept (belowA (w.alloc (.cells #[.int .i64 0, .int .i64 0, .int .i64 0, .int .i64 0, .int .i64 0, .slice none 0 0] 30)) (.cells #[.int .i64 ni, .int .i64 nr, .int .i64 (on : Int), .int .i64 (hn9 : Int)] 2))
    have Ba := thenB B (belowA (w.alloc (.cells #[.int .i64 0, .int .i64 0, .int .i64 0, .int .i64 0, .int .i64 0, .slice none 0 0] 30)) (.cells #[.int .i64 ni, .int .i64 nr, .int .i64 (on : Int), .int .i64 (hn9 : Int)] 2))
    have haa := ha.kept (belowA (w.alloc (.cells #[.int .i64 0, .int .i64 0, .int .i64 0, .int .i64 0, .int .i64 0, .slice none 0 0] 30)) (.cells #[.int .i64 ni, .int .i64 nr, .int .i64 (on : Int), .int .i64 (hn9 : Int)] 2))
    go_wp2_with fail
    refine (CA.out _ _ haa RP).mono ?_
    rintro e9 w1 ⟨rfl, b1⟩
    have S1 := b1.size
    simp only [World.size_alloc] at S1
    replace VR := VRa.kept b1
    replace ha := haa.kept b1
    replace B := thenB Ba b1
    clear RP VRa Ba haa b1
    clear s_VR f_VR z_VR
    obtain ⟨s_VR, f_VR, z_VR⟩ := VR.open
    have Bo := B
    go_wp2_with fail
    refine (CW1.out _).mono ?_
    rintro e9 wq ⟨rfl, rfl⟩
    go_wp2_with fail
    refine (CW2.out _).mono ?_
    rintro e9 wq ⟨rfl, rfl⟩
    have haH := Hid.mk ha
    rcases ha with ha | ⟨b1, q1, rfl, hca1⟩
    · rw [ha] at hn; simp at hn; omega
    obtain ⟨p0, p1, p2, p3⟩ := RdTerm.cells hca1 on (by omega) _ Hx.out
    obtain ⟨r0, r1, r2, r3⟩ := RdTerm.cells hca1 hn9 (by omega) _ Hy.out
    clear hca1 p1 p2 p3 r1 r2 r3
    dsimp only at p0 r0
    have ha := haH.out
    go_wp2_with fail
    refine (CC.out _ ha).mono ?_
    rintro e w2 ⟨c1, d1, rfl, O1, b2⟩
    clear s_VR f_VR z_VR
    have S2 := b2.size
    replace VR := VR.kept b2
    replace ha := ha.kept b2
    replace B := thenB B b2
    clear b2
    obtain ⟨s_VR, f_VR, z_VR⟩ := VR.open
    have Bo := B
    clear p0 r0 haH
    have OLT := Hid.mk O1.lt
    replace VR := VR.kept (belowA w2 (.cells #[.slice c1 n d1, .int .i64 0] 104))
    replace ha := ha.kept (belowA w2 (.cells #[.slice c1 n d1, .int .i64 0] 104))
    replace O1 := O1.kept (belowA w2 (.cells #[.slice c1 n d1, .int .i64 0] 104))
    replace B := thenB B (belowA w2 (.cells #[.slice c1 n d1, .int .i64 0] 104))
    have VQ := V.new w2 [.slice c1 n d1, .int .i64 0] 104
    clear s_VR f_VR z_VR
    obtain ⟨s_VR, f_VR, z_VR⟩ := VR.open
    obtain ⟨s_VQ, f_VQ, z_VQ⟩ := VQ.open
    have Bo := B
    have M := MkB.made hn VQ (O1.mono (show w.heap.size + 1 ≤ _ by have := VR.1; omega)) (by have := VR.1; (try simp only [World.size_alloc] at *); omega) (fun b hb => by have := (OLT.out b hb).2; omega)
    have hQ1 : w.heap.size + 1 ≤ w2.heap.size := by omega
    clear O1 VQ
    go_wp2_with fail
    refine (CPf.out _ _ _ M).mono ?_
    rintro e9 w5 ⟨rfl, M5, G5⟩
    have VR5 := VR.grownB G5 (by omega)
    have B5 := B.grown G5 (by (try simp only [World.size_alloc]); omega) (by intro q hq; simp at hq; omega)
    clear M G5 VR B ha Bo
    obtain ⟨c2, d2, VQ, O2, hb5, hne5⟩ := M5
    simp only at VQ O2
    rw [HK.out] at VQ
    have VR := VR5
    have B := B5
    clear VR5 B5
    clear s_VR f_VR z_VR s_VQ f_VQ z_VQ
    replace VR := VR.kept (belowA w5 (.cells #[.int .i64 ks, .int .i64 kd, .int .i64 ko, .int .i64 kb] 28))
    replace VQ := VQ.kept (belowA w5 (.cells #[.int .i64 ks, .int .i64 kd, .int .i64 ko, .int .i64 kb] 28))
    replace O2 := O2.kept (belowA w5 (.cells #[.int .i64 ks, .int .i64 kd, .int .i64 ko, .int .i64 kb] 28))
    replace B := thenB B (belowA w5 (.cells #[.int .i64 ks, .int .i64 kd, .int .i64 ko, .int .i64 kb] 28))
    have VK := V.new w5 [.int .i64 ks, .int .i64 kd, .int .i64 ko, .int .i64 kb] 28
    obtain ⟨s_VR, f_VR, z_VR⟩ := VR.open
    obtain ⟨s_VQ, f_VQ, z_VQ⟩ := VQ.open
    obtain ⟨s_VK, f_VK, z_VK⟩ := VK.open
    have Bo := B
    have OL2 := Hid.mk O2.lt
    clear s_VR f_VR z_VR s_VQ f_VQ z_VQ s_VK f_VK z_VK
    have VF := Hid.mk (VR.filled [.int .i64 pc, .int .i64 0, .int .i64 0, .int .i64 0, .int .i64 0, .slice none 0 0] rfl)
    have BR := belowCells B (show w.heap.size ≤ w.heap.size by (first | omega | (simp; done) | (simp; omega))) 0 [.int .i64 pc, .int .i64 0, .int .i64 0, .int .i64 0, .int .i64 0, .slice none 0 0]
    have HT := Hid.mk VR.there
    replace BR := Hid.mk BR
    clear O2
    obtain ⟨s_VR, f_VR, z_VR⟩ := VR.open
    obtain ⟨s_VQ, f_VQ, z_VQ⟩ := VQ.open
    obtain ⟨s_VK, f_VK, z_VK⟩ := VK.open
    go_wp2_with (refine wpList_store_mid rfl 30 _ _ rfl (w.heap.size) 0 #[.int .i64 pc, .int .i64 0, .int .i64 0, .int .i64 0, .int .i64 0, .slice none 0 0] rfl rfl HT.out (by kernel_rfl) (by kernel_rfl) ?_)
    refine bodyPost_ret (v := .agg #[.int .i64 pc, .int .i64 0, .int .i64 0, .int .i64 0, .int .i64 0, .slice none 0 0]) (results_row Try.results16 _ _ (w.heap.size) [.int .i64 pc, .int .i64 0, .int .i64 0, .int .i64 0, .int .i64 0, .slice none 0 0] _ rfl VF.out Try.underlying30 rfl (by kernel_rfl)) rfl ⟨none, 0, rfl, OwnTerm.none, BR.out⟩
  · rw [e]
    obtain ⟨on, rfl⟩ : ∃ k : Nat, own = (k : Int) := ⟨own.toNat, by have := (aq_places h1 own (by simp)).1; omega⟩
    obtain ⟨hn9, rfl⟩ : ∃ k : Nat, half = (k : Int) := ⟨half.toNat, by have := (aq_places h1 half (by simp)).1; omega⟩
    have o2 := (aq_places h1 on (by simp)).2
    have o4 := (aq_places h1 hn9 (by simp)).2
    have hl4 : xs.length ≤ 400 := (tfC_zero (aq_table h1)).1
    replace CC := Hid.mk (CC.out (aq_table h1))
    obtain ⟨x, hxo⟩ : ∃ x, xs.getD on zTerm = x := ⟨_, rfl⟩
    obtain ⟨y, hyh⟩ : ∃ y, xs.getD hn9 zTerm = y := ⟨_, rfl⟩
    have tq1 : tmAt xs (on : Int) = x := by unfold tmAt; rw [Int.toNat_natCast]; exact hxo
    have tq2 : tmAt xs (hn9 : Int) = y := by unfold tmAt; rw [Int.toNat_natCast]; exact hyh
    rw [hn] at o2 o4
    have o1 : on < n := by omega
    have o3 : hn9 < n := by omega
    rw [tq1] at h5
    rw [h1] at CA
    simp only [h2] at CW1
    simp only [h4] at CW2
    rw [tq2] at h3 h6 ⊢
    have CPf := Hid.mk (fun base Q w h => l9Keys_ok base Q ⟨xs, 0⟩ ni nr on hn9 si sr y.a w h hl4 (by simp only; omega) (by simp only; rw [hyh]))
    generalize kyR ⟨xs, 0⟩ ni nr on y.a si sr = P at *
    obtain ⟨⟨pl, pc⟩, ⟨ks, kd, ko, kb⟩⟩ := P
    simp only at h3 CPf ⊢
    obtain ⟨k, hk⟩ : ∃ k, pl.length = k := ⟨_, rfl⟩
    have HK := Hid.mk hk
    subst h3
    have Hx := Hid.mk hxo
    have Hy := Hid.mk hyh
    obtain ⟨xo, xa, xb, xn⟩ := x
    obtain ⟨yo, ya, yb, yn⟩ := y
    simp only at h5 h6
    subst h5
    subst h6
    clear e h1 h2 h4 tq1 tq2 hxo hyh hl4 hk
    go_enter Try.func16, Try.ntmps16
    have B := Below.refl w.heap.size w
    replace ha := ha.kept (belowA w (.cells #[.int .i64 0, .int .i64 0, .int .i64 0, .int .i64 0, .int .i64 0, .slice none 0 0] 30))
    replace B := thenB B (belowA w (.cells #[.int .i64 0, .int .i64 0, .int .i64 0, .int .i64 0, .int .i64 0, .slice none 0 0] 30))
    have VR := V.new w [.int .i64 0, .int .i64 0, .int .i64 0, .int .i64 0, .int .i64 0, .slice none 0 0] 30
    obtain ⟨s_VR, f_VR, z_VR⟩ := VR.open
    have Bo := B
    have RP := Rd.litI (w.alloc (.cells #[.int .i64 0, .int .i64 0, .int .i64 0, .int .i64 0, .int .i64 0, .slice none 0 0] 30)) [ni, nr, (on : Int), (hn9 : Int)]
    simp only [World.size_alloc] at RP
    have VRa := VR.kept (belowA (w.alloc (.cells #[.int .i64 0, .int .i64 0, .int .i64 0, .int .i64 0, .int .i64 0, .slice none 0 0] 30)) (.cells #[.int .i64 ni, .int .i64 nr, .int .i64 (on : Int), .int .i64 (hn9 : Int)] 2))
    have Ba := thenB B (belowA (w.alloc (.cells #[.int .i64 0, .int .i64 0, .int .i64 0, .int .i64 0, .int .i64 0, .slice none 0 0] 30)) (.cells #[.int .i64 ni, .int .i64 nr, .int .i64 (on : Int), .int .i64 (hn9 : Int)] 2))
    have haa := ha.kept (belowA (w.alloc (.cells #[.int .i64 0, .int .i64 0, .int .i64 0, .int .i64 0, .int .i64 0, .slice none 0 0] 30)) (.cells #[.int .i64 ni, .int .i64 nr, .int .i64 (on : Int), .int .i64 (hn9 : Int)] 2))
    go_wp2_with fail
    refine (CA.out _ _ haa RP).mono ?_
    rintro e9 w1 ⟨rfl, b1⟩
    have S1 := b1.size
    simp only [World.size_alloc] at S1
    replace VR := VRa.kept b1
    replace ha := haa.kept b1
    replace B := thenB Ba b1
    clear RP VRa Ba haa b1
    clear s_VR f_VR z_VR
    obtain ⟨s_VR, f_VR, z_VR⟩ := VR.open
    have Bo := B
    go_wp2_with fail
    refine (CW1.out _).mono ?_
    rintro e9 wq ⟨rfl, rfl⟩
    go_wp2_with fail
    refine (CW2.out _).mono ?_
    rintro e9 wq ⟨rfl, rfl⟩
    have haH := Hid.mk ha
    rcases ha with ha | ⟨b1, q1, rfl, hca1⟩
    · rw [ha] at hn; simp at hn; omega
    obtain ⟨p0, p1, p2, p3⟩ := RdTerm.cells hca1 on (by omega) _ Hx.out
    obtain ⟨r0, r1, r2, r3⟩ := RdTerm.cells hca1 hn9 (by omega) _ Hy.out
    clear hca1 p1 p2 p3 r1 r2 r3
    dsimp only at p0 r0
    have ha := haH.out
    go_wp2_with fail
    refine (CC.out _ ha).mono ?_
    rintro e w2 ⟨c1, d1, rfl, O1, b2⟩
    clear s_VR f_VR z_VR
    have S2 := b2.size
    replace VR := VR.kept b2
    replace ha := ha.kept b2
    replace B := thenB B b2
    clear b2
    obtain ⟨s_VR, f_VR, z_VR⟩ := VR.open
    have Bo := B
    clear p0 r0 haH
    have OLT := Hid.mk O1.lt
    replace VR := VR.kept (belowA w2 (.cells #[.slice c1 n d1, .int .i64 0] 104))
    replace ha := ha.kept (belowA w2 (.cells #[.slice c1 n d1, .int .i64 0] 104))
    replace O1 := O1.kept (belowA w2 (.cells #[.slice c1 n d1, .int .i64 0] 104))
    replace B := thenB B (belowA w2 (.cells #[.slice c1 n d1, .int .i64 0] 104))
    have VQ := V.new w2 [.slice c1 n d1, .int .i64 0] 104
    clear s_VR f_VR z_VR
    obtain ⟨s_VR, f_VR, z_VR⟩ := VR.open
    obtain ⟨s_VQ, f_VQ, z_VQ⟩ := VQ.open
    have Bo := B
    have M := MkB.made hn VQ (O1.mono (show w.heap.size + 1 ≤ _ by have := VR.1; omega)) (by have := VR.1; (try simp only [World.size_alloc] at *); omega) (fun b hb => by have := (OLT.out b hb).2; omega)
    have hQ1 : w.heap.size + 1 ≤ w2.heap.size := by omega
    clear O1 VQ
    go_wp2_with fail
    refine (CPf.out _ _ _ M).mono ?_
    rintro e9 w5 ⟨rfl, M5, G5⟩
    have VR5 := VR.grownB G5 (by omega)
    have B5 := B.grown G5 (by (try simp only [World.size_alloc]); omega) (by intro q hq; simp at hq; omega)
    clear M G5 VR B ha Bo
    obtain ⟨c2, d2, VQ, O2, hb5, hne5⟩ := M5
    simp only at VQ O2
    rw [HK.out] at VQ
    have VR := VR5
    have B := B5
    clear VR5 B5
    clear s_VR f_VR z_VR s_VQ f_VQ z_VQ
    replace VR := VR.kept (belowA w5 (.cells #[.int .i64 ks, .int .i64 kd, .int .i64 ko, .int .i64 kb] 28))
    replace VQ := VQ.kept (belowA w5 (.cells #[.int .i64 ks, .int .i64 kd, .int .i64 ko, .int .i64 kb] 28))
    replace O2 := O2.kept (belowA w5 (.cells #[.int .i64 ks, .int .i64 kd, .int .i64 ko, .int .i64 kb] 28))
    replace B := thenB B (belowA w5 (.cells #[.int .i64 ks, .int .i64 kd, .int .i64 ko, .int .i64 kb] 28))
    have VK := V.new w5 [.int .i64 ks, .int .i64 kd, .int .i64 ko, .int .i64 kb] 28
    obtain ⟨s_VR, f_VR, z_VR⟩ := VR.open
    obtain ⟨s_VQ, f_VQ, z_VQ⟩ := VQ.open
    obtain ⟨s_VK, f_VK, z_VK⟩ := VK.open
    have Bo := B
    have OL2 := Hid.mk O2.lt
    clear s_VR f_VR z_VR s_VQ f_VQ z_VQ s_VK f_VK z_VK
    have VF := Hid.mk (VR.filled [.int .i64 0, .int .i64 ks, .int .i64 kd, .int .i64 ko, .int .i64 kb, .slice c2 k d2] rfl)
    have BR := belowCells B (show w.heap.size ≤ w.heap.size by (first | omega | (simp; done) | (simp; omega))) 0 [.int .i64 0, .int .i64 ks, .int .i64 kd, .int .i64 ko, .int .i64 kb, .slice c2 k d2]
    have HT := Hid.mk VR.there
    replace BR := Hid.mk BR
    have OF := Hid.mk ((O2.apart (B := w.heap.size) (fun b hb => by have := (OL2.out b hb).1; omega) 0 [.int .i64 0, .int .i64 ks, .int .i64 kd, .int .i64 ko, .int .i64 kb, .slice c2 k d2]).mono (Nat.le_succ w.heap.size))
    clear O2
    obtain ⟨s_VR, f_VR, z_VR⟩ := VR.open
    obtain ⟨s_VQ, f_VQ, z_VQ⟩ := VQ.open
    obtain ⟨s_VK, f_VK, z_VK⟩ := VK.open
    go_wp2_with (refine wpList_store_mid rfl 30 _ _ rfl (w.heap.size) 0 #[.int .i64 0, .int .i64 ks, .int .i64 kd, .int .i64 ko, .int .i64 kb, .slice c2 k d2] rfl rfl HT.out (by kernel_rfl) (by kernel_rfl) ?_)
    refine bodyPost_ret (v := .agg #[.int .i64 0, .int .i64 ks, .int .i64 kd, .int .i64 ko, .int .i64 kb, .slice c2 k d2]) (results_row Try.results16 _ _ (w.heap.size) [.int .i64 0, .int .i64 ks, .int .i64 kd, .int .i64 ko, .int .i64 kb, .slice c2 k d2] _ rfl VF.out Try.underlying30 rfl (by kernel_rfl)) rfl ⟨c2, d2, by rw [HK.out], OF.out, BR.out⟩

end Go.Proofs.Ythkmoabkeblbjaa
