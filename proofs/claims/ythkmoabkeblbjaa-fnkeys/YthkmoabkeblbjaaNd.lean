/- Put together: KyI, KyK, KyL. -/
import Derived.Test.YthkmoabkeblbjaaMg
import Derived.Test.YthkmoabkeblbjaaTmX

/- NameAt and OpenSeal of the model. -/
namespace Go.Proofs.Ythkmoabkeblbjaa
open Go.RowKit

/-- What a place's name is: the code, the number. -/
@[irreducible] def naR (xs : List T4) (at_ : Int) : Int × Int :=
  if aqC xs [at_] = 0 then (if (tmAt xs at_).o = 1 then (0, (tmAt xs at_).n) else (1, 0)) else (aqC xs [at_], 0)

theorem naR_ways (xs : List T4) (at_ : Int) : (aqC xs [at_] ≠ 0 ∧ naR xs at_ = (aqC xs [at_], 0)) ∨ (aqC xs [at_] = 0 ∧ (tmAt xs at_).o ≠ 1 ∧ naR xs at_ = (1, 0)) ∨ (aqC xs [at_] = 0 ∧ (tmAt xs at_).o = 1 ∧ naR xs at_ = (0, (tmAt xs at_).n)) := by
  unfold naR
  by_cases h1 : aqC xs [at_] = 0
  · by_cases h2 : (tmAt xs at_).o = 1
    · exact .inr (.inr ⟨h1, h2, by simp [h1, h2]⟩)
    · exact .inr (.inl ⟨h1, h2, by simp [h1, h2]⟩)
  · exact .inl ⟨h1, by simp [h1]⟩

set_option maxRecDepth 20000 in
set_option maxHeartbeats 4000000 in
theorem specNameAt_ok (a : Option Addr) (n ca : Nat) (xs : List T4) (at_ : Int) (w : World) (ha : RdTerm w a xs) (hn : xs.length = n) (hx : n ≤ 1048576) (hca : n ≤ ca) :
    Calls Try.prog 60 #[.slice a n ca, .int .i64 at_] w fun e w' => e = .returned (.agg #[.int .i64 (naR xs at_).1, .int .i64 (naR xs at_).2]) ∧ Below w.heap.size w w' := by
  have CA := Hid.mk (fun b w h hp => l9Asked_ok a n ca xs b 1 1 [at_] w h hp hn rfl (by unfold maxLen; omega) hca (by omega))
  rcases naR_ways xs at_ with ⟨h1, e⟩ | ⟨h1, h2, e⟩ | ⟨h1, h2, e⟩ 
  · have hne : (aqC xs [at_] != 0) = true := by simpa using h1
    rw [e]
    generalize aqC xs [at_] = kc at *
    clear e h1
    go_enter Try.func60, Try.ntmps60
    have B := Below.refl w.heap.size w
    replace ha := ha.kept (belowA w (.cells #[.int .i64 0, .int .i64 0] 51))
    replace B := thenB B (belowA w (.cells #[.int .i64 0, .int .i64 0] 51))
    have VR := V.new w [.int .i64 0, .int .i64 0] 51
    obtain ⟨s_VR, f_VR, z_VR⟩ := VR.open
    have Bo := B
    have RP := Rd.litI (w.alloc (.cells #[.int .i64 0, .int .i64 0] 51)) [at_]
    simp only [World.size_alloc] at RP
    have VRa := VR.kept (belowA (w.alloc (.cells #[.int .i64 0, .int .i64 0] 51)) (.cells #[.int .i64 at_] 2))
    have Ba := thenB B (belowA (w.alloc (.cells #[.int .i64 0, .int .i64 0] 51)) (.cells #[.int .i64 at_] 2))
    have haa := ha.kept (belowA (w.alloc (.cells #[.int .i64 0, .int .i64 0] 51)) (.cells #[.int .i64 at_] 2))
    go_wp2_with fail
    refine (CA.out _ _ haa RP).mono ?_
    rintro e9 w1 ⟨rfl, b1⟩
    have S1 := b1.size
    simp only [World.size_alloc] at S1
    replace VR := VRa.kept b1
    replace ha := haa.kept b1
    replace B := thenB Ba b1
    clear RP VRa Ba haa b1
    clear s_VR f_VR z_VR
    obtain ⟨s_VR, f_VR, z_VR⟩ := VR.open
    have Bo := B
    clear s_VR f_VR z_VR
    have VF := Hid.mk (VR.filled [.int .i64 kc, .int .i64 0] rfl)
    have BR := belowCells B (show w.heap.size ≤ w.heap.size by (first | omega | (simp; done) | (simp; omega))) 0 [.int .i64 kc, .int .i64 0]
    have HT := Hid.mk VR.there
    replace BR := Hid.mk BR
    obtain ⟨s_VR, f_VR, z_VR⟩ := VR.open
    go_wp2_with (refine wpList_store_mid rfl 51 _ _ rfl (w.heap.size) 0 #[.int .i64 kc, .int .i64 0] rfl rfl HT.out (by kernel_rfl) (by kernel_rfl) ?_)
    refine bodyPost_ret (v := .agg #[.int .i64 kc, .int .i64 0]) (results_row Try.results60 _ _ (w.heap.size) [.int .i64 kc, .int .i64 0] _ rfl VF.out Try.underlying51 rfl (by kernel_rfl)) rfl ⟨rfl, BR.out⟩
  · rw [e]
    obtain ⟨pn, rfl⟩ : ∃ k : Nat, at_ = (k : Int) := ⟨at_.toNat, by have := (aq_places h1 at_ (by simp)).1; omega⟩
    have o2 := (aq_places h1 pn (by simp)).2
    obtain ⟨x, hxo⟩ : ∃ x, xs.getD pn zTerm = x := ⟨_, rfl⟩
    have tq1 : tmAt xs (pn : Int) = x := by unfold tmAt; rw [Int.toNat_natCast]; exact hxo
    rw [hn] at o2
    have o1 : pn < n := by omega
    rw [h1] at CA
    rw [tq1] at h2
    (try rw [tq1])
    have Hx := Hid.mk hxo
    obtain ⟨xo, xa, xb, xn⟩ := x
    simp only at h2
    have hne : (xo != 1) = true := by simpa using h2
    clear h2
    clear e h1 tq1 hxo o2
    go_enter Try.func60, Try.ntmps60
    have B := Below.refl w.heap.size w
    replace ha := ha.kept (belowA w (.cells #[.int .i64 0, .int .i64 0] 51))
    replace B := thenB B (belowA w (.cells #[.int .i64 0, .int .i64 0] 51))
    have VR := V.new w [.int .i64 0, .int .i64 0] 51
    obtain ⟨s_VR, f_VR, z_VR⟩ := VR.open
    have Bo := B
    have RP := Rd.litI (w.alloc (.cells #[.int .i64 0, .int .i64 0] 51)) [(pn : Int)]
    simp only [World.size_alloc] at RP
    have VRa := VR.kept (belowA (w.alloc (.cells #[.int .i64 0, .int .i64 0] 51)) (.cells #[.int .i64 (pn : Int)] 2))
    have Ba := thenB B (belowA (w.alloc (.cells #[.int .i64 0, .int .i64 0] 51)) (.cells #[.int .i64 (pn : Int)] 2))
    have haa := ha.kept (belowA (w.alloc (.cells #[.int .i64 0, .int .i64 0] 51)) (.cells #[.int .i64 (pn : Int)] 2))
    go_wp2_with fail
    refine (CA.out _ _ haa RP).mono ?_
    rintro e9 w1 ⟨rfl, b1⟩
    have S1 := b1.size
    simp only [World.size_alloc] at S1
    replace VR := VRa.kept b1
    replace ha := haa.kept b1
    replace B := thenB Ba b1
    clear RP VRa Ba haa b1
    clear s_VR f_VR z_VR
    obtain ⟨s_VR, f_VR, z_VR⟩ := VR.open
    have Bo := B
    rcases ha with ha | ⟨b1, q1, rfl, hca1⟩
    · rw [ha] at hn; simp at hn; omega
    obtain ⟨p0, p1, p2, p3⟩ := RdTerm.cells hca1 pn (by omega) _ Hx.out
    clear hca1 p1 p2 p3
    dsimp only at p0 
    clear s_VR f_VR z_VR
    have VF := Hid.mk (VR.filled [.int .i64 1, .int .i64 0] rfl)
    have BR := belowCells B (show w.heap.size ≤ w.heap.size by (first | omega | (simp; done) | (simp; omega))) 0 [.int .i64 1, .int .i64 0]
    have HT := Hid.mk VR.there
    replace BR := Hid.mk BR
    obtain ⟨s_VR, f_VR, z_VR⟩ := VR.open
    go_wp2_with (refine wpList_store_mid rfl 51 _ _ rfl (w.heap.size) 0 #[.int .i64 1, .int .i64 0] rfl rfl HT.out (by kernel_rfl) (by kernel_rfl) ?_)
    refine bodyPost_ret (v := .agg #[.int .i64 1, .int .i64 0]) (results_row Try.results60 _ _ (w.heap.size) [.int .i64 1, .int .i64 0] _ rfl VF.out Try.underlying51 rfl (by kernel_rfl)) rfl ⟨rfl, BR.out⟩
  · rw [e]
    obtain ⟨pn, rfl⟩ : ∃ k : Nat, at_ = (k : Int) := ⟨at_.toNat, by have := (aq_places h1 at_ (by simp)).1; omega⟩
    have o2 := (aq_places h1 pn (by simp)).2
    obtain ⟨x, hxo⟩ : ∃ x, xs.getD pn zTerm = x := ⟨_, rfl⟩
    have tq1 : tmAt xs (pn : Int) = x := by unfold tmAt; rw [Int.toNat_natCast]; exact hxo
    rw [hn] at o2
    have o1 : pn < n := by omega
    rw [h1] at CA
    rw [tq1] at h2
    (try rw [tq1])
    have Hx := Hid.mk hxo
    obtain ⟨xo, xa, xb, xn⟩ := x
    simp only at h2
    subst h2
    clear e h1 tq1 hxo o2
    go_enter Try.func60, Try.ntmps60
    have B := Below.refl w.heap.size w
    replace ha := ha.kept (belowA w (.cells #[.int .i64 0, .int .i64 0] 51))
    replace B := thenB B (belowA w (.cells #[.int .i64 0, .int .i64 0] 51))
    have VR := V.new w [.int .i64 0, .int .i64 0] 51
    obtain ⟨s_VR, f_VR, z_VR⟩ := VR.open
    have Bo := B
    have RP := Rd.litI (w.alloc (.cells #[.int .i64 0, .int .i64 0] 51)) [(pn : Int)]
    simp only [World.size_alloc] at RP
    have VRa := VR.kept (belowA (w.alloc (.cells #[.int .i64 0, .int .i64 0] 51)) (.cells #[.int .i64 (pn : Int)] 2))
    have Ba := thenB B (belowA (w.alloc (.cells #[.int .i64 0, .int .i64 0] 51)) (.cells #[.int .i64 (pn : Int)] 2))
    have haa := ha.kept (belowA (w.alloc (.cells #[.int .i64 0, .int .i64 0] 51)) (.cells #[.int .i64 (pn : Int)] 2))
    go_wp2_with fail
    refine (CA.out _ _ haa RP).mono ?_
    rintro e9 w1 ⟨rfl, b1⟩
    have S1 := b1.size
    simp only [World.size_alloc] at S1
    replace VR := VRa.kept b1
    replace ha := haa.kept b1
    replace B := thenB Ba b1
    clear RP VRa Ba haa b1
    clear s_VR f_VR z_VR
    obtain ⟨s_VR, f_VR, z_VR⟩ := VR.open
    have Bo := B
    rcases ha with ha | ⟨b1, q1, rfl, hca1⟩
    · rw [ha] at hn; simp at hn; omega
    obtain ⟨p0, p1, p2, p3⟩ := RdTerm.cells hca1 pn (by omega) _ Hx.out
    clear hca1 p1 p2
    dsimp only at p0 p3
    clear s_VR f_VR z_VR
    have VF := Hid.mk (VR.filled [.int .i64 0, .int .i64 xn] rfl)
    have BR := belowCells B (show w.heap.size ≤ w.heap.size by (first | omega | (simp; done) | (simp; omega))) 0 [.int .i64 0, .int .i64 xn]
    have HT := Hid.mk VR.there
    replace BR := Hid.mk BR
    obtain ⟨s_VR, f_VR, z_VR⟩ := VR.open
    go_wp2_with (refine wpList_store_mid rfl 51 _ _ rfl (w.heap.size) 0 #[.int .i64 0, .int .i64 xn] rfl rfl HT.out (by kernel_rfl) (by kernel_rfl) ?_)
    refine bodyPost_ret (v := .agg #[.int .i64 0, .int .i64 xn]) (results_row Try.results60 _ _ (w.heap.size) [.int .i64 0, .int .i64 xn] _ rfl VF.out Try.underlying51 rfl (by kernel_rfl)) rfl ⟨rfl, BR.out⟩
/-- What a seal holds, opened with a key: the code, the place. -/
@[irreducible] def osR (xs : List T4) (at_ key : Int) : Int × Int :=
  if aqC xs [at_, key] = 0 then (if (tmAt xs at_).o = 5 then (if (tmAt xs at_).a = key then (0, (tmAt xs at_).b) else (9, 0)) else (1, 0)) else (aqC xs [at_, key], 0)

theorem osR_ways (xs : List T4) (at_ key : Int) : (aqC xs [at_, key] ≠ 0 ∧ osR xs at_ key = (aqC xs [at_, key], 0)) ∨ (aqC xs [at_, key] = 0 ∧ (tmAt xs at_).o ≠ 5 ∧ osR xs at_ key = (1, 0)) ∨ (aqC xs [at_, key] = 0 ∧ (tmAt xs at_).o = 5 ∧ (tmAt xs at_).a ≠ key ∧ osR xs at_ key = (9, 0)) ∨ (aqC xs [at_, key] = 0 ∧ (tmAt xs at_).o = 5 ∧ (tmAt xs at_).a = key ∧ osR xs at_ key = (0, (tmAt xs at_).b)) := by
  unfold osR
  by_cases h1 : aqC xs [at_, key] = 0
  · by_cases h2 : (tmAt xs at_).o = 5
    · by_cases h3 : (tmAt xs at_).a = key
      · exact .inr (.inr (.inr ⟨h1, h2, h3, by simp [h1, h2, h3]⟩))
      · exact .inr (.inr (.inl ⟨h1, h2, h3, by simp [h1, h2, h3]⟩))
    · exact .inr (.inl ⟨h1, h2, by simp [h1, h2]⟩)
  · exact .inl ⟨h1, by simp [h1]⟩

set_option maxRecDepth 20000 in
set_option maxHeartbeats 4000000 in
theorem specOpenSeal_ok (a : Option Addr) (n ca : Nat) (xs : List T4) (at_ key : Int) (w : World) (ha : RdTerm w a xs) (hn : xs.length = n) (hx : n ≤ 1048576) (hca : n ≤ ca) :
    Calls Try.prog 48 #[.slice a n ca, .int .i64 at_, .int .i64 key] w fun e w' => e = .returned (.agg #[.int .i64 (osR xs at_ key).1, .int .i64 (osR xs at_ key).2]) ∧ Below w.heap.size w w' := by
  have CA := Hid.mk (fun b w h hp => l9Asked_ok a n ca xs b 2 2 [at_, key] w h hp hn rfl (by unfold maxLen; omega) hca (by omega))
  rcases osR_ways xs at_ key with ⟨h1, e⟩ | ⟨h1, h2, e⟩ | ⟨h1, h2, h3, e⟩ | ⟨h1, h2, h3, e⟩ 
  · have hne : (aqC xs [at_, key] != 0) = true := by simpa using h1
    rw [e]
    generalize aqC xs [at_, key] = kc at *
    clear e h1
    go_enter Try.func48, Try.ntmps48
    have B := Below.refl w.heap.size w
    replace ha := ha.kept (belowA w (.cells #[.int .i64 0, .int .i64 0] 51))
    replace B := thenB B (belowA w (.cells #[.int .i64 0, .int .i64 0] 51))
    have VR := V.new w [.int .i64 0, .int .i64 0] 51
    obtain ⟨s_VR, f_VR, z_VR⟩ := VR.open
    have Bo := B
    have RP := Rd.litI (w.alloc (.cells #[.int .i64 0, .int .i64 0] 51)) [at_, key]
    simp only [World.size_alloc] at RP
    have VRa := VR.kept (belowA (w.alloc (.cells #[.int .i64 0, .int .i64 0] 51)) (.cells #[.int .i64 at_, .int .i64 key] 2))
    have Ba := thenB B (belowA (w.alloc (.cells #[.int .i64 0, .int .i64 0] 51)) (.cells #[.int .i64 at_, .int .i64 key] 2))
    have haa := ha.kept (belowA (w.alloc (.cells #[.int .i64 0, .int .i64 0] 51)) (.cells #[.int .i64 at_, .int .i64 key] 2))
    go_wp2_with fail
    refine (CA.out _ _ haa RP).mono ?_
    rintro e9 w1 ⟨rfl, b1⟩
    have S1 := b1.size
    simp only [World.size_alloc] at S1
    replace VR := VRa.kept b1
    replace ha := haa.kept b1
    replace B := thenB Ba b1
    clear RP VRa Ba haa b1
    clear s_VR f_VR z_VR
    obtain ⟨s_VR, f_VR, z_VR⟩ := VR.open
    have Bo := B
    clear s_VR f_VR z_VR
    have VF := Hid.mk (VR.filled [.int .i64 kc, .int .i64 0] rfl)
    have BR := belowCells B (show w.heap.size ≤ w.heap.size by (first | omega | (simp; done) | (simp; omega))) 0 [.int .i64 kc, .int .i64 0]
    have HT := Hid.mk VR.there
    replace BR := Hid.mk BR
    obtain ⟨s_VR, f_VR, z_VR⟩ := VR.open
    go_wp2_with (refine wpList_store_mid rfl 51 _ _ rfl (w.heap.size) 0 #[.int .i64 kc, .int .i64 0] rfl rfl HT.out (by kernel_rfl) (by kernel_rfl) ?_)
    refine bodyPost_ret (v := .agg #[.int .i64 kc, .int .i64 0]) (results_row Try.results48 _ _ (w.heap.size) [.int .i64 kc, .int .i64 0] _ rfl VF.out Try.underlying51 rfl (by kernel_rfl)) rfl ⟨rfl, BR.out⟩
  · rw [e]
    obtain ⟨pn, rfl⟩ : ∃ k : Nat, at_ = (k : Int) := ⟨at_.toNat, by have := (aq_places h1 at_ (by simp)).1; omega⟩
    have o2 := (aq_places h1 pn (by simp)).2
    obtain ⟨x, hxo⟩ : ∃ x, xs.getD pn zTerm = x := ⟨_, rfl⟩
    have tq1 : tmAt xs (pn : Int) = x := by unfold tmAt; rw [Int.toNat_natCast]; exact hxo
    rw [hn] at o2
    have o1 : pn < n := by omega
    rw [h1] at CA
    rw [tq1] at h2
    (try rw [tq1])
    have Hx := Hid.mk hxo
    obtain ⟨xo, xa, xb, xn⟩ := x
    simp only at h2
    have hne : (xo != 5) = true := by simpa using h2
    clear h2
    clear e h1 tq1 hxo o2
    go_enter Try.func48, Try.ntmps48
    have B := Below.refl w.heap.size w
    replace ha := ha.kept (belowA w (.cells #[.int .i64 0, .int .i64 0] 51))
    replace B := thenB B (belowA w (.cells #[.int .i64 0, .int .i64 0] 51))
    have VR := V.new w [.int .i64 0, .int .i64 0] 51
    obtain ⟨s_VR, f_VR, z_VR⟩ := VR.open
    have Bo := B
    have RP := Rd.litI (w.alloc (.cells #[.int .i64 0, .int .i64 0] 51)) [(pn : Int), key]
    simp only [World.size_alloc] at RP
    have VRa := VR.kept (belowA (w.alloc (.cells #[.int .i64 0, .int .i64 0] 51)) (.cells #[.int .i64 (pn : Int), .int .i64 key] 2))
    have Ba := thenB B (belowA (w.alloc (.cells #[.int .i64 0, .int .i64 0] 51)) (.cells #[.int .i64 (pn : Int), .int .i64 key] 2))
    have haa := ha.kept (belowA (w.alloc (.cells #[.int .i64 0, .int .i64 0] 51)) (.cells #[.int .i64 (pn : Int), .int .i64 key] 2))
    go_wp2_with fail
    refine (CA.out _ _ haa RP).mono ?_
    rintro e9 w1 ⟨rfl, b1⟩
    have S1 := b1.size
    simp only [World.size_alloc] at S1
    replace VR := VRa.kept b1
    replace ha := haa.kept b1
    replace B := thenB Ba b1
    clear RP VRa Ba haa b1
    clear s_VR f_VR z_VR
    obtain ⟨s_VR, f_VR, z_VR⟩ := VR.open
    have Bo := B
    rcases ha with ha | ⟨b1, q1, rfl, hca1⟩
    · rw [ha] at hn; simp at hn; omega
    obtain ⟨p0, p1, p2, p3⟩ := RdTerm.cells hca1 pn (by omega) _ Hx.out
    clear hca1 p1 p2 p3
    dsimp only at p0 
    clear s_VR f_VR z_VR
    have VF := Hid.mk (VR.filled [.int .i64 1, .int .i64 0] rfl)
    have BR := belowCells B (show w.heap.size ≤ w.heap.size by (first | omega | (simp; done) | (simp; omega))) 0 [.int .i64 1, .int .i64 0]
    have HT := Hid.mk VR.there
    replace BR := Hid.mk BR
    obtain ⟨s_VR, f_VR, z_VR⟩ := VR.open
    go_wp2_with (refine wpList_store_mid rfl 51 _ _ rfl (w.heap.size) 0 #[.int .i64 1, .int .i64 0] rfl rfl HT.out (by kernel_rfl) (by kernel_rfl) ?_)
    refine bodyPost_ret (v := .agg #[.int .i64 1, .int .i64 0]) (results_row Try.results48 _ _ (w.heap.size) [.int .i64 1, .int .i64 0] _ rfl VF.out Try.underlying51 rfl (by kernel_rfl)) rfl ⟨rfl, BR.out⟩
  · rw [e]
    obtain ⟨pn, rfl⟩ : ∃ k : Nat, at_ = (k : Int) := ⟨at_.toNat, by have := (aq_places h1 at_ (by simp)).1; omega⟩
    have o2 := (aq_places h1 pn (by simp)).2
    obtain ⟨x, hxo⟩ : ∃ x, xs.getD pn zTerm = x := ⟨_, rfl⟩
    have tq1 : tmAt xs (pn : Int) = x := by unfold tmAt; rw [Int.toNat_natCast]; exact hxo
    rw [hn] at o2
    have o1 : pn < n := by omega
    rw [h1] at CA
    rw [tq1] at h2 h3
    (try rw [tq1])
    have Hx := Hid.mk hxo
    obtain ⟨xo, xa, xb, xn⟩ := x
    simp only at h2 h3
    subst h2
    have hne : (xa != key) = true := by simpa using h3
    clear h3
    clear e h1 tq1 hxo o2
    go_enter Try.func48, Try.ntmps48
    have B := Below.refl w.heap.size w
    replace ha := ha.kept (belowA w (.cells #[.int .i64 0, .int .i64 0] 51))
    replace B := thenB B (belowA w (.cells #[.int .i64 0, .int .i64 0] 51))
    have VR := V.new w [.int .i64 0, .int .i64 0] 51
    obtain ⟨s_VR, f_VR, z_VR⟩ := VR.open
    have Bo := B
    have RP := Rd.litI (w.alloc (.cells #[.int .i64 0, .int .i64 0] 51)) [(pn : Int), key]
    simp only [World.size_alloc] at RP
    have VRa := VR.kept (belowA (w.alloc (.cells #[.int .i64 0, .int .i64 0] 51)) (.cells #[.int .i64 (pn : Int), .int .i64 key] 2))
    have Ba := thenB B (belowA (w.alloc (.cells #[.int .i64 0, .int .i64 0] 51)) (.cells #[.int .i64 (pn : Int), .int .i64 key] 2))
    have haa := ha.kept (belowA (w.alloc (.cells #[.int .i64 0, .int .i64 0] 51)) (.cells #[.int .i64 (pn : Int), .int .i64 key] 2))
    go_wp2_with fail
    refine (CA.out _ _ haa RP).mono ?_
    rintro e9 w1 ⟨rfl, b1⟩
    have S1 := b1.size
    simp only [World.size_alloc] at S1
    replace VR := VRa.kept b1
    replace ha := haa.kept b1
    replace B := thenB Ba b1
    clear RP VRa Ba haa b1
    clear s_VR f_VR z_VR
    obtain ⟨s_VR, f_VR, z_VR⟩ := VR.open
    have Bo := B
    rcases ha with ha | ⟨b1, q1, rfl, hca1⟩
    · rw [ha] at hn; simp at hn; omega
    obtain ⟨p0, p1, p2, p3⟩ := RdTerm.cells hca1 pn (by omega) _ Hx.out
    clear hca1 p2 p3
    dsimp only at p0 p1
    clear s_VR f_VR z_VR
    have VF := Hid.mk (VR.filled [.int .i64 9, .int .i64 0] rfl)
    have BR := belowCells B (show w.heap.size ≤ w.heap.size by (first | omega | (simp; done) | (simp; omega))) 0 [.int .i64 9, .int .i64 0]
    have HT := Hid.mk VR.there
    replace BR := Hid.mk BR
    obtain ⟨s_VR, f_VR, z_VR⟩ := VR.open
    go_wp2_with (refine wpList_store_mid rfl 51 _ _ rfl (w.heap.size) 0 #[.int .i64 9, .int .i64 0] rfl rfl HT.out (by kernel_rfl) (by kernel_rfl) ?_)
    refine bodyPost_ret (v := .agg #[.int .i64 9, .int .i64 0]) (results_row Try.results48 _ _ (w.heap.size) [.int .i64 9, .int .i64 0] _ rfl VF.out Try.underlying51 rfl (by kernel_rfl)) rfl ⟨rfl, BR.out⟩
  · rw [e]
    obtain ⟨pn, rfl⟩ : ∃ k : Nat, at_ = (k : Int) := ⟨at_.toNat, by have := (aq_places h1 at_ (by simp)).1; omega⟩
    have o2 := (aq_places h1 pn (by simp)).2
    obtain ⟨x, hxo⟩ : ∃ x, xs.getD pn zTerm = x := ⟨_, rfl⟩
    have tq1 : tmAt xs (pn : Int) = x := by unfold tmAt; rw [Int.toNat_natCast]; exact hxo
    rw [hn] at o2
    have o1 : pn < n := by omega
    rw [h1] at CA
    rw [tq1] at h2 h3
    (try rw [tq1])
    have Hx := Hid.mk hxo
    obtain ⟨xo, xa, xb, xn⟩ := x
    simp only at h2 h3
    subst h2
    have heq : (xa != key) = false := by simpa using h3
    clear e h1 tq1 hxo o2
    go_enter Try.func48, Try.ntmps48
    have B := Below.refl w.heap.size w
    replace ha := ha.kept (belowA w (.cells #[.int .i64 0, .int .i64 0] 51))
    replace B := thenB B (belowA w (.cells #[.int .i64 0, .int .i64 0] 51))
    have VR := V.new w [.int .i64 0, .int .i64 0] 51
    obtain ⟨s_VR, f_VR, z_VR⟩ := VR.open
    have Bo := B
    have RP := Rd.litI (w.alloc (.cells #[.int .i64 0, .int .i64 0] 51)) [(pn : Int), key]
    simp only [World.size_alloc] at RP
    have VRa := VR.kept (belowA (w.alloc (.cells #[.int .i64 0, .int .i64 0] 51)) (.cells #[.int .i64 (pn : Int), .int .i64 key] 2))
    have Ba := thenB B (belowA (w.alloc (.cells #[.int .i64 0, .int .i64 0] 51)) (.cells #[.int .i64 (pn : Int), .int .i64 key] 2))
    have haa := ha.kept (belowA (w.alloc (.cells #[.int .i64 0, .int .i64 0] 51)) (.cells #[.int .i64 (pn : Int), .int .i64 key] 2))
    go_wp2_with fail
    refine (CA.out _ _ haa RP).mono ?_
    rintro e9 w1 ⟨rfl, b1⟩
    have S1 := b1.size
    simp only [World.size_alloc] at S1
    replace VR := VRa.kept b1
    replace ha := haa.kept b1
    replace B := thenB Ba b1
    clear RP VRa Ba haa b1
    clear s_VR f_VR z_VR
    obtain ⟨s_VR, f_VR, z_VR⟩ := VR.open
    have Bo := B
    rcases ha with ha | ⟨b1, q1, rfl, hca1⟩
    · rw [ha] at hn; simp at hn; omega
    obtain ⟨p0, p1, p2, p3⟩ := RdTerm.cells hca1 pn (by omega) _ Hx.out
    clear hca1 p3
    dsimp only at p0 p1 p2
    clear s_VR f_VR z_VR
    have VF := Hid.mk (VR.filled [.int .i64 0, .int .i64 xb] rfl)
    have BR := belowCells B (show w.heap.size ≤ w.heap.size by (first | omega | (simp; done) | (simp; omega))) 0 [.int .i64 0, .int .i64 xb]
    have HT := Hid.mk VR.there
    replace BR := Hid.mk BR
    obtain ⟨s_VR, f_VR, z_VR⟩ := VR.open
    go_wp2_with (refine wpList_store_mid rfl 51 _ _ rfl (w.heap.size) 0 #[.int .i64 0, .int .i64 xb] rfl rfl HT.out (by kernel_rfl) (by kernel_rfl) ?_)
    refine bodyPost_ret (v := .agg #[.int .i64 0, .int .i64 xb]) (results_row Try.results48 _ _ (w.heap.size) [.int .i64 0, .int .i64 xb] _ rfl VF.out Try.underlying51 rfl (by kernel_rfl)) rfl ⟨rfl, BR.out⟩

end Go.Proofs.Ythkmoabkeblbjaa

/- SplitList of the model. -/
namespace Go.Proofs.Ythkmoabkeblbjaa
open Go.RowKit

theorem ownCells9 {w : World} {base : Nat} {a : Option Addr} {cap : Nat} {zs : List Int} {B : Nat} (h : Own .i64 2 w base a cap zs) (hB : ∀ b : Addr, a = some b → b.block ≠ B) (o : Nat) (vs : List Value) : Own .i64 2 (w.setCells B o vs) base a cap zs := by
  induction vs generalizing w o with
  | nil => exact h
  | cons v vs ih =>
    refine ih (w := w.setCell ⟨B, o, none⟩ v) (h.grown (row := some B) ⟨rfl, rfl, rfl, by simp [World.setCell], fun k _ hk => Below.heap_setCell _ _ _ _ (fun e => hk (by rw [e]))⟩ fun b hb e => ?_) (o + 1)
    simp only [Option.some.injEq] at e
    exact hB b hb e.symm

/-- What a list is split into, from a place on: as many pairs as told, and what is left. -/
def spT (xs : List T4) : Nat → Int → Option (List Int)
  | 0, p => some [p]
  | f + 1, p => if (tmAt xs p).o = 3 then (spT xs f (tmAt xs p).b).map ((tmAt xs p).a :: ·) else none

theorem sp_pair {xs : List T4} (h : tfC xs = 0) (k : Nat) (hk : k < xs.length) {a b n : Int} (hx : xs.getD k zTerm = ⟨3, a, b, n⟩) : (0 ≤ a ∧ a < k) ∧ 0 ≤ b ∧ b < k := by
  have h1 := tfC_ahead h k hk
  rw [hx] at h1
  have hk3 : kids 3 = 2 := by rcases kids_ways 3 with h | h | h | h | h | h <;> omega
  exact ⟨h1.1 (by show 0 < kids 3; omega), h1.2 (by show 1 < kids 3; omega)⟩

theorem spT_len {xs : List T4} : ∀ (f : Nat) (p : Int) (ys : List Int), spT xs f p = some ys → ys.length = f + 1 := by
  intro f
  induction f with
  | zero => intro p ys h; simp only [spT, Option.some.injEq] at h; subst h; rfl
  | succ f ih =>
    intro p ys h
    rw [spT] at h
    split at h
    · cases h1 : spT xs f (tmAt xs p).b with
      | none => rw [h1] at h; simp at h
      | some zs =>
        rw [h1] at h
        simp only [Option.map_some, Option.some.injEq] at h
        subst h
        rw [List.length_cons, ih _ _ h1]
    · cases h

set_option maxRecDepth 20000 in
set_option maxHeartbeats 4000000 in
theorem l9Split_ok (a : Option Addr) (n ca : Nat) (xs : List T4) (hv : tfC xs = 0) (f p : Nat) (w : World) (ha : RdTerm w a xs) (hn : xs.length = n) (hp : p < n) (hf : f ≤ 19) :
    Calls Try.prog 102 #[.slice a n ca, .int .i64 p, .int .i64 ((f + 1 : Nat) : Int)] w fun e w' => ((spT xs f p = none ∧ e = .returned (.tuple #[.slice none 0 0, .bool false])) ∨ ∃ (c d : Nat) (ys : List Int), spT xs f p = some ys ∧ e = .returned (.tuple #[.slice (some ⟨c, 0, none⟩) (f + 1) d, .bool true]) ∧ Own .i64 2 w' w.heap.size (some ⟨c, 0, none⟩) d ys) ∧ Below w.heap.size w w' := by
  have HA := Hid.mk ha
  clear ha
  go_enter Try.func102, Try.ntmps102
  have O := Hid.mk (OwnI.lit w [] [] rfl (by decide))
  have B := Hid.mk (belowA w (.cells #[] 2))
  go_wp2
  go_loopw [1, 2, 8] (fun r s v wr => ∃ (q g c d j : Nat) (os : List Int), q < n ∧ j + g = f ∧ r = .int .i64 q ∧ s = .int .i64 ((g + 1 : Nat) : Int) ∧ v = .slice (some ⟨c, 0, none⟩) j d ∧ Hid (os.length = j) ∧ Hid (spT xs f p = (spT xs g q).map (os ++ ·)) ∧ Own .i64 2 wr w.heap.size (some ⟨c, 0, none⟩) d os ∧ Below w.heap.size w wr) (fun _ s _ _ => (intOf s).toNat)
  case atStart => exact ⟨p, f, _, _, 0, [], hp, by omega, rfl, rfl, rfl, Hid.mk rfl, Hid.mk (by cases spT xs f p <;> rfl), O.out, B.out⟩
  case round =>
    clear O B
    obtain ⟨q, g, c, d, j, os, hq, hj, rfl, rfl, rfl, HJ, HS, O, B⟩ := hrel
    obtain ⟨x, hxo⟩ : ∃ x, xs.getD q zTerm = x := ⟨_, rfl⟩
    have tq : tmAt xs (q : Int) = x := by unfold tmAt; rw [Int.toNat_natCast]; exact hxo
    have Hx := Hid.mk hxo
    obtain ⟨xo, xa, xb, xn⟩ := x
    cases g with
    | succ g =>
      have hgt : decide (((g + 1 + 1 : Nat) : Int) > 1) = true := by simp; omega
      have hg1 : ((g + 1 + 1 : Nat) : Int) > 1 := by omega
      have hsp : spT xs (g + 1) q = if xo = 3 then (spT xs g xb).map (xa :: ·) else none := by rw [spT, tq]
      rcases HA.out.kept B with h0 | ⟨b1, q1, e1, hca1⟩
      · rw [h0] at hn; simp at hn; omega
      obtain ⟨p0, p1, p2, p3⟩ := RdTerm.cells hca1 q (by omega) _ Hx.out
      dsimp only at p0 p1
      clear p2 p3 hca1
      have HB := Hid.mk B
      by_cases h3 : xo = 3
      · subst h3
        rw [if_pos rfl] at hsp
        have hpr := sp_pair hv q (by omega) hxo
        have hb2 := hpr.2
        have HO := Hid.mk O
        have HX := Hid.mk HS
        have HSP := Hid.mk hsp
        obtain ⟨xk, rfl⟩ : ∃ k : Nat, xb = (k : Int) := ⟨xb.toNat, by omega⟩
        have hxk : xk < n := by omega
        have hjl : j ≤ 1000000 := by omega
        clear hsp hpr hxo O tq
        subst e1
        have bq := belowA wr (.cells #[.int .i64 xa] 2)
        have O2 := HO.out.kept bq
        have BB := thenB HB.out bq
        have TL := BB.size
        replace BB := Hid.mk BB
        have O2H := Hid.mk O2
        clear bq B
        go_wp2_with (at_builtin; go_loud (refine wpList_putI _ rfl _ _ rfl w.heap.size (some ⟨c, 0, none⟩) d os j HJ.out rfl O2 _ 1 xa rfl (cell_one' _ _ _ 0 _ rfl) hjl TL ?_))
        intro c4 d4 w4 O4 hg4 hx4
        obtain ⟨c5, rfl, _, _⟩ := hx4.out
        have B4 := belowG (c := some ⟨c, 0, none⟩) BB.out hg4 TL (fun b hb => (O2H.out.lt b hb).1)
        replace O4 := Hid.mk O4
        clear O2 hg4 hx4 TL p0 p1
        rcases HA.out.kept B4 with h0 | ⟨b2, q2, e2, hca2⟩
        · rw [h0] at hn; simp at hn; omega
        simp only [Option.some.injEq, Addr.mk.injEq, and_true] at e2
        obtain ⟨rfl, rfl⟩ := e2
        obtain ⟨r0, r1, r2, r3⟩ := RdTerm.cells hca2 q (by omega) _ Hx.out
        dsimp only at r2
        clear r0 r1 r3 hca2
        replace B4 := Hid.mk B4
        have HJ4 : Hid ((os ++ [xa]).length = j + 1) := Hid.mk (by rw [List.length_append, HJ.out]; rfl)
        have HS4 : Hid (spT xs f p = (spT xs g (xk : Int)).map ((os ++ [xa]) ++ ·)) := Hid.mk (by rw [HX.out, HSP.out]; cases spT xs g (xk : Int) <;> simp)
        go_wp2
        go_roundw
        case rel => exact ⟨xk, g, c5, d4, j + 1, os ++ [xa], hxk, by omega, rfl, by go_num, rfl, HJ4, HS4, O4.out, B4.out⟩
        case measure => simp [intOf] <;> omega
      · have hne : (xo != 3) = true := by simpa using h3
        rw [if_neg h3] at hsp
        have HN : Hid (spT xs f p = none) := Hid.mk (by rw [HS.out, hsp]; rfl)
        clear hsp hxo O tq h3 HS
        subst e1
        clear B
        go_wp2
        refine bodyPost_ret (v := .tuple #[.slice none 0 0, .bool false]) (by simp [results, Try.results102, go_sem]) rfl ⟨.inl ⟨HN.out, rfl⟩, HB.out⟩
    | zero =>
      have HN : Hid (spT xs f p = some (os ++ [(q : Int)])) := Hid.mk (by rw [HS.out]; rfl)
      have hjf : j = f := by omega
      subst hjf
      have bq := belowA wr (.cells #[.int .i64 (q : Int)] 2)
      have O2 := O.kept bq
      have BB := thenB B bq
      have TL := BB.size
      have hjl : j ≤ 1000000 := by omega
      replace BB := Hid.mk BB
      have O2H := Hid.mk O2
      clear bq B O hxo tq
      go_wp2_with (at_builtin; go_loud (refine wpList_putI _ rfl _ _ rfl w.heap.size (some ⟨c, 0, none⟩) d os j HJ.out rfl O2 _ 1 (q : Int) rfl (cell_one' _ _ _ 0 _ rfl) hjl TL ?_))
      intro c4 d4 w4 O4 hg4 hx4
      obtain ⟨c5, rfl, _, _⟩ := hx4.out
      have B4 := Hid.mk (belowG (c := some ⟨c, 0, none⟩) BB.out hg4 TL (fun b hb => (O2H.out.lt b hb).1))
      replace O4 := Hid.mk O4
      clear O2 hg4 hx4 TL
      go_wp2
      refine bodyPost_ret (v := .tuple #[.slice (some ⟨c5, 0, none⟩) (j + 1) d4, .bool true]) (by simp [results, Try.results102, go_sem]) rfl ⟨.inr ⟨c5, d4, _, HN.out, rfl, O4.out⟩, B4.out⟩

/-- What a list is split into: the code, the places. -/
@[irreducible] def slR (xs : List T4) (at_ n : Int) : Int × List Int :=
  if aqC xs [at_] = 0 then (if btw n 1 20 = true then (match spT xs (n - 1).toNat at_ with | none => (1, []) | some ys => (0, ys)) else (3, [])) else (aqC xs [at_], [])

theorem sl_ways (xs : List T4) (at_ n : Int) : (aqC xs [at_] ≠ 0 ∧ slR xs at_ n = (aqC xs [at_], [])) ∨ (aqC xs [at_] = 0 ∧ btw n 1 20 = false ∧ slR xs at_ n = (3, [])) ∨ (aqC xs [at_] = 0 ∧ btw n 1 20 = true ∧ spT xs (n - 1).toNat at_ = none ∧ slR xs at_ n = (1, [])) ∨ (aqC xs [at_] = 0 ∧ btw n 1 20 = true ∧ ∃ ys, spT xs (n - 1).toNat at_ = some ys ∧ slR xs at_ n = (0, ys)) := by
  unfold slR
  by_cases h1 : aqC xs [at_] = 0
  · cases h2 : btw n 1 20
    · exact .inr (.inl ⟨h1, rfl, by simp [h1]⟩)
    · cases h3 : spT xs (n - 1).toNat at_ with
      | none => exact .inr (.inr (.inl ⟨h1, rfl, rfl, by simp [h1]⟩))
      | some ys => exact .inr (.inr (.inr ⟨h1, rfl, ys, rfl, by simp [h1]⟩))
  · exact .inl ⟨h1, by simp [h1]⟩

set_option maxRecDepth 20000 in
set_option maxHeartbeats 4000000 in
theorem specSplitList_ok (a : Option Addr) (n ca : Nat) (xs : List T4) (at_ q : Int) (w : World) (ha : RdTerm w a xs) (hn : xs.length = n) (hx : n ≤ 1048576) (hca : n ≤ ca) :
    Calls Try.prog 51 #[.slice a n ca, .int .i64 at_, .int .i64 q] w fun e w' => ∃ c d, e = .returned (.agg #[.int .i64 (slR xs at_ q).1, .slice c (slR xs at_ q).2.length d]) ∧ Own .i64 2 w' w.heap.size c d (slR xs at_ q).2 ∧ Below w.heap.size w w' := by
  have CA := Hid.mk (fun b w h hp => l9Asked_ok a n ca xs b 1 1 [at_] w h hp hn rfl (by unfold maxLen; omega) hca (by omega))
  have CI := Hid.mk (l1In_ok q 1 20)
  rcases sl_ways xs at_ q with ⟨h1, e⟩ | ⟨h1, h2, e⟩ | ⟨h1, h2, h3, e⟩ | ⟨h1, h2, ys, h3, e⟩
  · have hne : (aqC xs [at_] != 0) = true := by simpa using h1
    rw [e]
    generalize aqC xs [at_] = kc at *
    clear e h1
    go_enter Try.func51, Try.ntmps51
    have B := Below.refl w.heap.size w
    replace ha := ha.kept (belowA w (.cells #[.int .i64 0, .slice none 0 0] 42))
    replace B := thenB B (belowA w (.cells #[.int .i64 0, .slice none 0 0] 42))
    have VR := V.new w [.int .i64 0, .slice none 0 0] 42
    obtain ⟨s_VR, f_VR, z_VR⟩ := VR.open
    have Bo := B
    have RP := Rd.litI (w.alloc (.cells #[.int .i64 0, .slice none 0 0] 42)) [at_]
    simp only [World.size_alloc] at RP
    have VRa := VR.kept (belowA (w.alloc (.cells #[.int .i64 0, .slice none 0 0] 42)) (.cells #[.int .i64 at_] 2))
    have Ba := thenB B (belowA (w.alloc (.cells #[.int .i64 0, .slice none 0 0] 42)) (.cells #[.int .i64 at_] 2))
    have haa := ha.kept (belowA (w.alloc (.cells #[.int .i64 0, .slice none 0 0] 42)) (.cells #[.int .i64 at_] 2))
    go_wp2_with fail
    refine (CA.out _ _ haa RP).mono ?_
    rintro e9 w1 ⟨rfl, b1⟩
    have S1 := b1.size
    simp only [World.size_alloc] at S1
    replace VR := VRa.kept b1
    replace ha := haa.kept b1
    replace B := thenB Ba b1
    clear RP VRa Ba haa b1
    clear s_VR f_VR z_VR
    obtain ⟨s_VR, f_VR, z_VR⟩ := VR.open
    have Bo := B
    clear s_VR f_VR z_VR
    have VF := Hid.mk (VR.filled [.int .i64 kc, .slice none 0 0] rfl)
    have BR := belowCells B (show w.heap.size ≤ w.heap.size by (first | omega | (simp; done) | (simp; omega))) 0 [.int .i64 kc, .slice none 0 0]
    have HT := Hid.mk VR.there
    replace BR := Hid.mk BR
    obtain ⟨s_VR, f_VR, z_VR⟩ := VR.open
    go_wp2_with (refine wpList_store_mid rfl 42 _ _ rfl (w.heap.size) 0 #[.int .i64 kc, .slice none 0 0] rfl rfl HT.out (by kernel_rfl) (by kernel_rfl) ?_)
    refine bodyPost_ret (v := .agg #[.int .i64 kc, .slice none 0 0]) (results_row Try.results51 _ _ (w.heap.size) [.int .i64 kc, .slice none 0 0] _ rfl VF.out Try.underlying42 rfl (by kernel_rfl)) rfl ⟨none, 0, rfl, own_none, BR.out⟩
  · rw [e]
    rw [h1] at CA
    simp only [h2] at CI
    clear e h1 h2
    go_enter Try.func51, Try.ntmps51
    have B := Below.refl w.heap.size w
    replace ha := ha.kept (belowA w (.cells #[.int .i64 0, .slice none 0 0] 42))
    replace B := thenB B (belowA w (.cells #[.int .i64 0, .slice none 0 0] 42))
    have VR := V.new w [.int .i64 0, .slice none 0 0] 42
    obtain ⟨s_VR, f_VR, z_VR⟩ := VR.open
    have Bo := B
    have RP := Rd.litI (w.alloc (.cells #[.int .i64 0, .slice none 0 0] 42)) [at_]
    simp only [World.size_alloc] at RP
    have VRa := VR.kept (belowA (w.alloc (.cells #[.int .i64 0, .slice none 0 0] 42)) (.cells #[.int .i64 at_] 2))
    have Ba := thenB B (belowA (w.alloc (.cells #[.int .i64 0, .slice none 0 0] 42)) (.cells #[.int .i64 at_] 2))
    have haa := ha.kept (belowA (w.alloc (.cells #[.int .i64 0, .slice none 0 0] 42)) (.cells #[.int .i64 at_] 2))
    go_wp2_with fail
    refine (CA.out _ _ haa RP).mono ?_
    rintro e9 w1 ⟨rfl, b1⟩
    have S1 := b1.size
    simp only [World.size_alloc] at S1
    replace VR := VRa.kept b1
    replace ha := haa.kept b1
    replace B := thenB Ba b1
    clear RP VRa Ba haa b1
    clear s_VR f_VR z_VR
    obtain ⟨s_VR, f_VR, z_VR⟩ := VR.open
    have Bo := B
    go_wp2_with fail
    refine (CI.out _).mono ?_
    rintro e9 wq ⟨rfl, rfl⟩
    clear s_VR f_VR z_VR
    have VF := Hid.mk (VR.filled [.int .i64 3, .slice none 0 0] rfl)
    have BR := belowCells B (show w.heap.size ≤ w.heap.size by (first | omega | (simp; done) | (simp; omega))) 0 [.int .i64 3, .slice none 0 0]
    have HT := Hid.mk VR.there
    replace BR := Hid.mk BR
    obtain ⟨s_VR, f_VR, z_VR⟩ := VR.open
    go_wp2_with (refine wpList_store_mid rfl 42 _ _ rfl (w.heap.size) 0 #[.int .i64 3, .slice none 0 0] rfl rfl HT.out (by kernel_rfl) (by kernel_rfl) ?_)
    refine bodyPost_ret (v := .agg #[.int .i64 3, .slice none 0 0]) (results_row Try.results51 _ _ (w.heap.size) [.int .i64 3, .slice none 0 0] _ rfl VF.out Try.underlying42 rfl (by kernel_rfl)) rfl ⟨none, 0, rfl, own_none, BR.out⟩
  · rw [e]
    obtain ⟨pn, rfl⟩ : ∃ k : Nat, at_ = (k : Int) := ⟨at_.toNat, by have := (aq_places h1 at_ (by simp)).1; omega⟩
    have o2 := (aq_places h1 pn (by simp)).2
    rw [hn] at o2
    have hb := btw_iff.1 h2
    obtain ⟨f, rfl⟩ : ∃ f : Nat, q = ((f + 1 : Nat) : Int) := ⟨(q - 1).toNat, by omega⟩
    have hfe : (((f + 1 : Nat) : Int) - 1).toNat = f := by omega
    rw [hfe] at h3
    have CS := Hid.mk (fun w h => l9Split_ok a n ca xs (aq_table h1) f pn w h hn (by omega) (by omega))
    have H3 := Hid.mk h3
    rw [h1] at CA
    simp only [h2] at CI
    clear e h1 h2 h3 o2 hb hfe
    go_enter Try.func51, Try.ntmps51
    have B := Below.refl w.heap.size w
    replace ha := ha.kept (belowA w (.cells #[.int .i64 0, .slice none 0 0] 42))
    replace B := thenB B (belowA w (.cells #[.int .i64 0, .slice none 0 0] 42))
    have VR := V.new w [.int .i64 0, .slice none 0 0] 42
    obtain ⟨s_VR, f_VR, z_VR⟩ := VR.open
    have Bo := B
    have RP := Rd.litI (w.alloc (.cells #[.int .i64 0, .slice none 0 0] 42)) [(pn : Int)]
    simp only [World.size_alloc] at RP
    have VRa := VR.kept (belowA (w.alloc (.cells #[.int .i64 0, .slice none 0 0] 42)) (.cells #[.int .i64 (pn : Int)] 2))
    have Ba := thenB B (belowA (w.alloc (.cells #[.int .i64 0, .slice none 0 0] 42)) (.cells #[.int .i64 (pn : Int)] 2))
    have haa := ha.kept (belowA (w.alloc (.cells #[.int .i64 0, .slice none 0 0] 42)) (.cells #[.int .i64 (pn : Int)] 2))
    go_wp2_with fail
    refine (CA.out _ _ haa RP).mono ?_
    rintro e9 w1 ⟨rfl, b1⟩
    have S1 := b1.size
    simp only [World.size_alloc] at S1
    replace VR := VRa.kept b1
    replace ha := haa.kept b1
    replace B := thenB Ba b1
    clear RP VRa Ba haa b1
    clear s_VR f_VR z_VR
    obtain ⟨s_VR, f_VR, z_VR⟩ := VR.open
    have Bo := B
    go_wp2_with fail
    refine (CI.out _).mono ?_
    rintro e9 wq ⟨rfl, rfl⟩
    go_wp2_with fail
    refine (CS.out _ ha).mono ?_
    rintro e9 w2 ⟨hs2, b2⟩
    obtain rfl : e9 = .returned (.tuple #[.slice none 0 0, .bool false]) := by
      rcases hs2 with ⟨_, h⟩ | ⟨_, _, _, h, _⟩
      · exact h
      · rw [H3.out] at h; cases h
    clear hs2
    have S2 := b2.size
    replace VR := VR.kept b2
    replace ha := ha.kept b2
    replace B := thenB B b2
    clear b2
    clear s_VR f_VR z_VR
    obtain ⟨s_VR, f_VR, z_VR⟩ := VR.open
    have Bo := B
    clear s_VR f_VR z_VR
    have VF := Hid.mk (VR.filled [.int .i64 1, .slice none 0 0] rfl)
    have BR := belowCells B (show w.heap.size ≤ w.heap.size by (first | omega | (simp; done) | (simp; omega))) 0 [.int .i64 1, .slice none 0 0]
    have HT := Hid.mk VR.there
    replace BR := Hid.mk BR
    obtain ⟨s_VR, f_VR, z_VR⟩ := VR.open
    go_wp2_with (refine wpList_store_mid rfl 42 _ _ rfl (w.heap.size) 0 #[.int .i64 1, .slice none 0 0] rfl rfl HT.out (by kernel_rfl) (by kernel_rfl) ?_)
    refine bodyPost_ret (v := .agg #[.int .i64 1, .slice none 0 0]) (results_row Try.results51 _ _ (w.heap.size) [.int .i64 1, .slice none 0 0] _ rfl VF.out Try.underlying42 rfl (by kernel_rfl)) rfl ⟨none, 0, rfl, own_none, BR.out⟩
  · rw [e]
    obtain ⟨pn, rfl⟩ : ∃ k : Nat, at_ = (k : Int) := ⟨at_.toNat, by have := (aq_places h1 at_ (by simp)).1; omega⟩
    have o2 := (aq_places h1 pn (by simp)).2
    rw [hn] at o2
    have hb := btw_iff.1 h2
    obtain ⟨f, rfl⟩ : ∃ f : Nat, q = ((f + 1 : Nat) : Int) := ⟨(q - 1).toNat, by omega⟩
    have hfe : (((f + 1 : Nat) : Int) - 1).toNat = f := by omega
    rw [hfe] at h3
    have CS := Hid.mk (fun w h => l9Split_ok a n ca xs (aq_table h1) f pn w h hn (by omega) (by omega))
    have H3 := Hid.mk h3
    rw [h1] at CA
    simp only [h2] at CI
    clear e h1 h2 h3 o2 hb hfe
    have HY := Hid.mk (spT_len _ _ _ H3.out)
    go_enter Try.func51, Try.ntmps51
    have B := Below.refl w.heap.size w
    replace ha := ha.kept (belowA w (.cells #[.int .i64 0, .slice none 0 0] 42))
    replace B := thenB B (belowA w (.cells #[.int .i64 0, .slice none 0 0] 42))
    have VR := V.new w [.int .i64 0, .slice none 0 0] 42
    obtain ⟨s_VR, f_VR, z_VR⟩ := VR.open
    have Bo := B
    have RP := Rd.litI (w.alloc (.cells #[.int .i64 0, .slice none 0 0] 42)) [(pn : Int)]
    simp only [World.size_alloc] at RP
    have VRa := VR.kept (belowA (w.alloc (.cells #[.int .i64 0, .slice none 0 0] 42)) (.cells #[.int .i64 (pn : Int)] 2))
    have Ba := thenB B (belowA (w.alloc (.cells #[.int .i64 0, .slice none 0 0] 42)) (.cells #[.int .i64 (pn : Int)] 2))
    have haa := ha.kept (belowA (w.alloc (.cells #[.int .i64 0, .slice none 0 0] 42)) (.cells #[.int .i64 (pn : Int)] 2))
    go_wp2_with fail
    refine (CA.out _ _ haa RP).mono ?_
    rintro e9 w1 ⟨rfl, b1⟩
    have S1 := b1.size
    simp only [World.size_alloc] at S1
    replace VR := VRa.kept b1
    replace ha := haa.kept b1
    replace B := thenB Ba b1
    clear RP VRa Ba haa b1
    clear s_VR f_VR z_VR
    obtain ⟨s_VR, f_VR, z_VR⟩ := VR.open
    have Bo := B
    go_wp2_with fail
    refine (CI.out _).mono ?_
    rintro e9 wq ⟨rfl, rfl⟩
    go_wp2_with fail
    refine (CS.out _ ha).mono ?_
    rintro e9 w2 ⟨hs2, b2⟩
    obtain ⟨c1, d1, rfl, O1⟩ : ∃ (c d : Nat), e9 = .returned (.tuple #[.slice (some ⟨c, 0, none⟩) (f + 1) d, .bool true]) ∧ Own .i64 2 w2 wq.heap.size (some ⟨c, 0, none⟩) d ys := by
      rcases hs2 with ⟨h, _⟩ | ⟨c, d, zs, h, h4, h5⟩
      · rw [H3.out] at h; cases h
      · rw [H3.out, Option.some.injEq] at h; subst h; exact ⟨c, d, h4, h5⟩
    clear hs2
    have O1L := Hid.mk O1.lt
    have S2 := b2.size
    replace VR := VR.kept b2
    replace ha := ha.kept b2
    replace B := thenB B b2
    clear b2
    clear s_VR f_VR z_VR
    obtain ⟨s_VR, f_VR, z_VR⟩ := VR.open
    have Bo := B
    clear s_VR f_VR z_VR
    have VF := Hid.mk (VR.filled [.int .i64 0, .slice (some ⟨c1, 0, none⟩) (f + 1) d1] rfl)
    have BR := belowCells B (show w.heap.size ≤ w.heap.size by (first | omega | (simp; done) | (simp; omega))) 0 [.int .i64 0, .slice (some ⟨c1, 0, none⟩) (f + 1) d1]
    have HT := Hid.mk VR.there
    replace BR := Hid.mk BR
    have OF := Hid.mk ((ownCells9 O1 (B := w.heap.size) (fun b hb => by have := (O1L.out b hb).1; omega) 0 [.int .i64 0, .slice (some ⟨c1, 0, none⟩) (f + 1) d1]).mono (show w.heap.size ≤ _ by omega))
    clear O1
    obtain ⟨s_VR, f_VR, z_VR⟩ := VR.open
    go_wp2_with (refine wpList_store_mid rfl 42 _ _ rfl (w.heap.size) 0 #[.int .i64 0, .slice (some ⟨c1, 0, none⟩) (f + 1) d1] rfl rfl HT.out (by kernel_rfl) (by kernel_rfl) ?_)
    refine bodyPost_ret (v := .agg #[.int .i64 0, .slice (some ⟨c1, 0, none⟩) (f + 1) d1]) (results_row Try.results51 _ _ (w.heap.size) [.int .i64 0, .slice (some ⟨c1, 0, none⟩) (f + 1) d1] _ rfl VF.out Try.underlying42 rfl (by kernel_rfl)) rfl ⟨some ⟨c1, 0, none⟩, d1, by rw [HY.out], OF.out, BR.out⟩

end Go.Proofs.Ythkmoabkeblbjaa

/- A list put as pairs is split into what it was (the numbers alone). -/
namespace Go.Proofs.Ythkmoabkeblbjaa
open Go.RowKit

theorem tmAt_nat {xs : List T4} (k : Nat) : tmAt xs (k : Int) = xs.getD k zTerm := by unfold tmAt; rw [Int.toNat_natCast]

theorem sp_parts {xs : List T4} (h : tfC xs = 0) {p : Int} (h0 : 0 ≤ p) (h1 : p < xs.length) (h3 : (tmAt xs p).o = 3) : (0 ≤ (tmAt xs p).a ∧ (tmAt xs p).a < p) ∧ 0 ≤ (tmAt xs p).b ∧ (tmAt xs p).b < p := by
  obtain ⟨k, rfl⟩ : ∃ k : Nat, p = (k : Int) := ⟨p.toNat, by omega⟩
  rw [tmAt_nat] at h3 ⊢
  obtain ⟨t, ht⟩ : ∃ t, xs.getD k zTerm = t := ⟨_, rfl⟩
  rw [ht] at h3 ⊢
  obtain ⟨o, a, b, n⟩ := t
  simp only at h3
  subst h3
  exact sp_pair h k (by omega) ht

theorem spT_app {xs : List T4} (h : tfC xs = 0) (ys : List T4) : ∀ (f : Nat) (p : Int), 0 ≤ p → p < xs.length → spT (xs ++ ys) f p = spT xs f p := by
  intro f
  induction f with
  | zero => intro p _ _; rfl
  | succ f ih =>
    intro p h0 h1
    rw [spT, spT, tmAt_app xs ys p h0 h1]
    by_cases h3 : (tmAt xs p).o = 3
    · have hp := (sp_parts h h0 h1 h3).2
      rw [if_pos h3, if_pos h3, ih _ hp.1 (by omega)]
    · rw [if_neg h3, if_neg h3]

/-- A list that was put is split into what it was. -/
theorem plP_split {xs : List T4} (h : tfC xs = 0) : ∀ zs : List Int, zs ≠ [] → (∀ z ∈ zs, 0 ≤ z ∧ z < xs.length) → (plP xs zs).c = 0 →
    tfC (plP xs zs).l = 0 ∧ (∃ ys, (plP xs zs).l = xs ++ ys) ∧ 0 ≤ (plP xs zs).k ∧ (plP xs zs).k < (plP xs zs).l.length ∧ spT (plP xs zs).l (zs.length - 1) (plP xs zs).k = some zs
  | [], h1, _, _ => absurd rfl h1
  | [x], _, hz, _ => by
    have := hz x (by simp)
    exact ⟨h, ⟨[], by simp [plP]⟩, this.1, this.2, rfl⟩
  | x :: y :: r, _, hz, hc => by
    rw [plP_two] at hc ⊢
    by_cases h1 : (plP xs (y :: r)).c = 0
    · rw [if_pos h1] at hc ⊢
      obtain ⟨t1, ⟨ys, e1⟩, k0, k1, s1⟩ := plP_split h (y :: r) (by simp) (fun z hz' => hz z (by simp only [List.mem_cons] at hz' ⊢; exact .inr hz')) h1
      generalize plP xs (y :: r) = P at *
      obtain ⟨t2, ⟨us, e2⟩, m0, m1, a1⟩ := put_right t1 hc
      generalize put P.l ⟨3, x, P.k, 0⟩ = R at *
      refine ⟨t2, ⟨ys ++ us, by rw [e2, e1, List.append_assoc]⟩, m0, m1, ?_⟩
      have ea : tmAt R.l R.k = ⟨3, x, P.k, 0⟩ := a1
      show spT R.l (r.length + 1) R.k = _
      rw [spT, ea, if_pos rfl]
      have es : spT R.l r.length P.k = some (y :: r) := by
        rw [e2, spT_app t1 us _ _ k0 k1]
        exact s1
      simp only [es, Option.map_some]
    · rw [if_neg h1] at hc
      exact absurd hc h1

/-- What no names is put as: the name 0. -/
theorem plP_none {xs : List T4} (h : tfC xs = 0) (hc : (plP xs []).c = 0) : tfC (plP xs []).l = 0 ∧ 0 ≤ (plP xs []).k ∧ (plP xs []).k < (plP xs []).l.length ∧ tmAt (plP xs []).l (plP xs []).k = ⟨1, 0, 0, 0⟩ := by
  obtain ⟨t2, _, m0, m1, a1⟩ := put_right (t := ⟨1, 0, 0, 0⟩) h hc
  exact ⟨t2, m0, m1, a1⟩

/-- A place of a right table is asked rightly. -/
theorem aq_one {xs : List T4} (h : tfC xs = 0) {p : Int} (h0 : 0 ≤ p) (h1 : p < xs.length) : aqC xs [p] = 0 := by
  unfold aqC
  rw [if_pos h, if_pos]
  rw [List.all_cons, List.all_nil, Bool.and_true, btw_iff]
  omega

/-- FnLists: no name. -/
theorem lists_none {xs : List T4} (h : tfC xs = 0) (hc : (plP xs []).c = 0) : naR (plP xs []).l (plP xs []).k = (0, 0) := by
  obtain ⟨t, k0, k1, e⟩ := plP_none h hc
  rcases naR_ways (plP xs []).l (plP xs []).k with ⟨h1, _⟩ | ⟨_, h1, _⟩ | ⟨_, _, e2⟩
  · exact absurd (aq_one t k0 k1) h1
  · rw [e] at h1; exact absurd rfl h1
  · rw [e2, e]

/-- FnLists: some names (20 at most). -/
theorem lists_some {xs : List T4} (h : tfC xs = 0) {zs : List Int} (hz : zs ≠ []) (hl : zs.length ≤ 20) (ha : ∀ z ∈ zs, 0 ≤ z ∧ z < xs.length) (hc : (plP xs zs).c = 0) : slR (plP xs zs).l (plP xs zs).k zs.length = (0, zs) ∧ tfC (plP xs zs).l = 0 := by
  obtain ⟨t, _, k0, k1, s⟩ := plP_split h zs hz ha hc
  have hp : 1 ≤ zs.length := by cases zs with | nil => exact absurd rfl hz | cons _ _ => simp
  have hb : btw (zs.length : Int) 1 20 = true := by rw [btw_iff]; omega
  have hn : ((zs.length : Int) - 1).toNat = zs.length - 1 := by omega
  refine ⟨?_, t⟩
  rcases sl_ways (plP xs zs).l (plP xs zs).k zs.length with ⟨h1, _⟩ | ⟨_, h2, _⟩ | ⟨_, _, h3, _⟩ | ⟨_, _, ys, h3, e⟩
  · exact absurd (aq_one t k0 k1) h1
  · rw [hb] at h2; cases h2
  · rw [hn, s] at h3; cases h3
  · rw [hn, s, Option.some.injEq] at h3
    rw [e, h3]

end Go.Proofs.Ythkmoabkeblbjaa
