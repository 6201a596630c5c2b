/- NameAt and OpenSeal of the model. -/
import Derived.Test.YthkmoabkeblbjaaMg
namespace Go.Proofs.Ythkmoabkeblbjaa
open Go.RowKit

/-- What a place's name is: the code, the number. -/
@[irreducible] def naR (xs : List T4) (at_ : Int) : Int × Int :=
  if aqC xs [at_] = 0 then (if (tmAt xs at_).o = 1 then (0, (tmAt xs at_).n) else (1, 0)) else (aqC xs [at_], 0)

theorem naR_ways (xs : List T4) (at_ : Int) : (aqC xs [at_] ≠ 0 ∧ naR xs at_ = (aqC xs [at_], 0)) ∨ (aqC xs [at_] = 0 ∧ (tmAt xs at_).o ≠ 1 ∧ naR xs at_ = (1, 0)) ∨ (aqC xs [at_] = 0 ∧ (tmAt xs at_).o = 1 ∧ naR xs at_ = (0, (tmAt xs at_).n)) := by
  unfold naR
  by_cases h1 : aqC xs [at_] = 0
  · by_cases h2 : (tmAt xs at_).o = 1
    · exact .inr (.inr ⟨h1, h2, by simp [h1, h2]⟩)
    · exact .inr (.inl ⟨h1, h2, by simp [h1, h2]⟩)
  · exact .inl ⟨h1, by simp [h1]⟩

set_option maxRecDepth 20000 in
set_option maxHeartbeats 4000000 in
theorem specNameAt_ok (a : Option Addr) (n ca : Nat) (xs : List T4) (at_ : Int) (w : World) (ha : RdTerm w a xs) (hn : xs.length = n) (hx : n ≤ 1048576) (hca : n ≤ ca) :
    Calls Try.prog 60 #[.slice a n ca, .int .i64 at_] w fun e w' => e = .returned (.agg #[.int .i64 (naR xs at_).1, .int .i64 (naR xs at_).2]) ∧ Below w.heap.size w w' := by
  have CA := Hid.mk (fun b w h hp => l9Asked_ok a n ca xs b 1 1 [at_] w h hp hn rfl (by unfold maxLen; omega) hca (by omega))
  rcases naR_ways xs at_ with ⟨h1, e⟩ | ⟨h1, h2, e⟩ | ⟨h1, h2, e⟩ 
  · have hne : (aqC xs [at_] != 0) = true := by simpa using h1
    rw [e]
    generalize aqC xs [at_] = kc at *
    clear e h1
    go_enter Try.func60, Try.ntmps60
    have B := Below.refl w.heap.size w
    replace ha := ha.kept (belowA w (.cells #[.int .i64 0, .int .i64 0] 51))
    replace B := thenB B (belowA w (.cells #[.int .i64 0, .int .i64 0] 51))
    have VR := V.new w [.int .i64 0, .int .i64 0] 51
    obtain ⟨s_VR, f_VR, z_VR⟩ := VR.open
    have Bo := B
    have RP := Rd.litI (w.alloc (.cells #[.int .i64 0, .int .i64 0] 51)) [at_]
    simp only [World.size_alloc] at RP
    have VRa := VR.kept (belowA (w.alloc (.cells #[.int .i64 0, .int .i64 0] 51)) (.cells #[.int .i64 at_] 2))
    have Ba := thenB B (belowA (w.alloc (.cells #[.int .i64 0, .int .i64 0] 51)) (.cells #[.int .i64 at_] 2))
    have haa := ha.kept (belowA (w.alloc (.cells #[.int .i64 0, .int .i64 0] 51)) (.cells #[.int .i64 at_] 2))
    go_wp2_with fail
    refine (CA.out _ _ haa RP).mono ?_
    rintro e9 w1 ⟨rfl, b1⟩
    have S1 := b1.size
    simp only [World.size_alloc] at S1
    replace VR := VRa.kept b1
    replace ha := haa.kept b1
    replace B := thenB Ba b1
    clear RP VRa Ba haa b1
    clear s_VR f_VR z_VR
    obtain ⟨s_VR, f_VR, z_VR⟩ := VR.open
    have Bo := B
    clear s_VR f_VR z_VR
    have VF := Hid.mk (VR.filled [.int .i64 kc, .int .i64 0] rfl)
    have BR := belowCells B (show w.heap.size ≤ w.heap.size by (first | omega | (simp; done) | (simp; omega))) 0 [.int .i64 kc, .int .i64 0]
    have HT := Hid.mk VR.there
    replace BR := Hid.mk BR
    obtain ⟨s_VR, f_VR, z_VR⟩ := VR.open
    go_wp2_with (refine wpList_store_mid rfl 51 _ _ rfl (w.heap.size) 0 #[.int .i64 kc, .int .i64 0] rfl rfl HT.out (by kernel_rfl) (by kernel_rfl) ?_)
    refine bodyPost_ret (v := .agg #[.int .i64 kc, .int .i64 0]) (results_row Try.results60 _ _ (w.heap.size) [.int .i64 kc, .int .i64 0] _ rfl VF.out Try.underlying51 rfl (by kernel_rfl)) rfl ⟨rfl, BR.out⟩
  · rw [e]
    obtain ⟨pn, rfl⟩ : ∃ k : Nat, at_ = (k : Int) := ⟨at_.toNat, by have := (aq_places h1 at_ (by simp)).1; omega⟩
    have o2 := (aq_places h1 pn (by simp)).2
    obtain ⟨x, hxo⟩ : ∃ x, xs.getD pn zTerm = x := ⟨_, rfl⟩
    have tq1 : tmAt xs (pn : Int) = x := by unfold tmAt; rw [Int.toNat_natCast]; exact hxo
    rw [hn] at o2
    have o1 : pn < n := by omega
    rw [h1] at CA
    rw [tq1] at h2
    (try rw [tq1])
    have Hx := Hid.mk hxo
    obtain ⟨xo, xa, xb, xn⟩ := x
    simp only at h2
    have hne : (xo != 1) = true := by simpa using h2
    clear h2
    clear e h1 tq1 hxo o2
    go_enter Try.func60, Try.ntmps60
    have B := Below.refl w.heap.size w
    replace ha := ha.kept (belowA w (.cells #[.int .i64 0, .int .i64 0] 51))
    replace B := thenB B (belowA w (.cells #[.int .i64 0, .int .i64 0] 51))
    have VR := V.new w [.int .i64 0, .int .i64 0] 51
    obtain ⟨s_VR, f_VR, z_VR⟩ := VR.open
    have Bo := B
    have RP := Rd.litI (w.alloc (.cells #[.int .i64 0, .int .i64 0] 51)) [(pn : Int)]
    simp only [World.size_alloc] at RP
    have VRa := VR.kept (belowA (w.alloc (.cells #[.int .i64 0, .int .i64 0] 51)) (.cells #[.int .i64 (pn : Int)] 2))
    have Ba := thenB B (belowA (w.alloc (.cells #[.int .i64 0, .int .i64 0] 51)) (.cells #[.int .i64 (pn : Int)] 2))
    have haa := ha.kept (belowA (w.alloc (.cells #[.int .i64 0, .int .i64 0] 51)) (.cells #[.int .i64 (pn : Int)] 2))
    go_wp2_with fail
    refine (CA.out _ _ haa RP).mono ?_
    rintro e9 w1 ⟨rfl, b1⟩
    have S1 := b1.size
    simp only [World.size_alloc] at S1
    replace VR := VRa.kept b1
    replace ha := haa.kept b1
    replace B := thenB Ba b1
    clear RP VRa Ba haa b1
    clear s_VR f_VR z_VR
    obtain ⟨s_VR, f_VR, z_VR⟩ := VR.open
    have Bo := B
    rcases ha with ha | ⟨b1, q1, rfl, hca1⟩
    · rw [ha] at hn; simp at hn; omega
    obtain ⟨p0, p1, p2, p3⟩ := RdTerm.cells hca1 pn (by omega) _ Hx.out
    clear hca1 p1 p2 p3
    dsimp only at p0 
    clear s_VR f_VR z_VR
    have VF := Hid.mk (VR.filled [.int .i64 1, .int .i64 0] rfl)
    have BR := belowCells B (show w.heap.size ≤ w.heap.size by (first | omega | (simp; done) | (simp; omega))) 0 [.int .i64 1, .int .i64 0]
    have HT := Hid.mk VR.there
    replace BR := Hid.mk BR
    obtain ⟨s_VR, f_VR, z_VR⟩ := VR.open
    go_wp2_with (refine wpList_store_mid rfl 51 _ _ rfl (w.heap.size) 0 #[.int .i64 1, .int .i64 0] rfl rfl HT.out (by kernel_rfl) (by kernel_rfl) ?_)
    refine bodyPost_ret (v := .agg #[.int .i64 1, .int .i64 0]) (results_row Try.results60 _ _ (w.heap.size) [.int .i64 1, .int .i64 0] _ rfl VF.out Try.underlying51 rfl (by kernel_rfl)) rfl ⟨rfl, BR.out⟩
  · rw [e]
    obtain ⟨pn, rfl⟩ : ∃ k : Nat, at_ = (k : Int) := ⟨at_.toNat, by have := (aq_places h1 at_ (by simp)).1; omega⟩
    have o2 := (aq_places h1 pn (by simp)).2
    obtain ⟨x, hxo⟩ : ∃ x, xs.getD pn zTerm = x := ⟨_, rfl⟩
    have tq1 : tmAt xs (pn : Int) = x := by unfold tmAt; rw [Int.toNat_natCast]; exact hxo
    rw [hn] at o2
    have o1 : pn < n := by omega
    rw [h1] at CA
    rw [tq1] at h2
    (try rw [tq1])
    have Hx := Hid.mk hxo
    obtain ⟨xo, xa, xb, xn⟩ := x
    simp only at h2
    subst h2
    clear e h1 tq1 hxo o2
    go_enter Try.func60, Try.ntmps60
    have B := Below.refl w.heap.size w
    replace ha := ha.kept (belowA w (.cells #[.int .i64 0, .int .i64 0] 51))
    replace B := thenB B (belowA w (.cells #[.int .i64 0, .int .i64 0] 51))
    have VR := V.new w [.int .i64 0, .int .i64 0] 51
    obtain ⟨s_VR, f_VR, z_VR⟩ := VR.open
    have Bo := B
    have RP := Rd.litI (w.alloc (.cells #[.int .i64 0, .int .i64 0] 51)) [(pn : Int)]
    simp only [World.size_alloc] at RP
    have VRa := VR.kept (belowA (w.alloc (.cells #[.int .i64 0, .int .i64 0] 51)) (.cells #[.int .i64 (pn : Int)] 2))
    have Ba := thenB B (belowA (w.alloc (.cells #[.int .i64 0, .int .i64 0] 51)) (.cells #[.int .i64 (pn : Int)] 2))
    have haa := ha.kept (belowA (w.alloc (.cells #[.int .i64 0, .int .i64 0] 51)) (.cells #[.int .i64 (pn : Int)] 2))
    go_wp2_with fail
    refine (CA.out _ _ haa RP).mono ?_
    rintro e9 w1 ⟨rfl, b1⟩
    have S1 := b1.size
    simp only [World.size_alloc] at S1
    replace VR := VRa.kept b1
    replace ha := haa.kept b1
    replace B := thenB Ba b1
    clear RP VRa Ba haa b1
    clear s_VR f_VR z_VR
    obtain ⟨s_VR, f_VR, z_VR⟩ := VR.open
    have Bo := B
    rcases ha with ha | ⟨b1, q1, rfl, hca1⟩
    · rw [ha] at hn; simp at hn; omega
    obtain ⟨p0, p1, p2, p3⟩ := RdTerm.cells hca1 pn (by omega) _ Hx.out
    clear hca1 p1 p2
    dsimp only at p0 p3
    clear s_VR f_VR z_VR
    have VF := Hid.mk (VR.filled [.int .i64 0, .int .i64 xn] rfl)
    have BR := belowCells B (show w.heap.size ≤ w.heap.size by (first | omega | (simp; done) | (simp; omega))) 0 [.int .i64 0, .int .i64 xn]
    have HT := Hid.mk VR.there
    replace BR := Hid.mk BR
    obtain ⟨s_VR, f_VR, z_VR⟩ := VR.open
    go_wp2_with (refine wpList_store_mid rfl 51 _ _ rfl (w.heap.size) 0 #[.int .i64 0, .int .i64 xn] rfl rfl HT.out (by kernel_rfl) (by kernel_rfl) ?_)
    refine bodyPost_ret (v := .agg #[.int .i64 0, .int .i64 xn]) (results_row Try.results60 _ _ (w.heap.size) [.int .i64 0, .int .i64 xn] _ rfl VF.out Try.underlying51 rfl (by kernel_rfl)) rfl ⟨rfl, BR.out⟩
/-- What a seal holds, opened with a key: the code, the place. -/
@[irreducible] def osR (xs : List T4) (at_ key : Int) : Int × Int :=
  if aqC xs [at_, key] = 0 then (if (tmAt xs at_).o = 5 then (if (tmAt xs at_).a = key then (0, (tmAt xs at_).b) else (9, 0)) else (1, 0)) else (aqC xs [at_, key], 0)

theorem osR_ways (xs : List T4) (at_ key : Int) : (aqC xs [at_, key] ≠ 0 ∧ osR xs at_ key = (aqC xs [at_, key], 0)) ∨ (aqC xs [at_, key] = 0 ∧ (tmAt xs at_).o ≠ 5 ∧ osR xs at_ key = (1, 0)) ∨ (aqC xs [at_, key] = 0 ∧ (tmAt xs at_).o = 5 ∧ (tmAt xs at_).a ≠ key ∧ osR xs at_ key = (9, 0)) ∨ (aqC xs [at_, key] = 0 ∧ (tmAt xs at_).o = 5 ∧ (tmAt xs at_).a = key ∧ osR xs at_ key = (0, (tmAt xs at_).b)) := by
  unfold osR
  by_cases h1 : aqC xs [at_, key] = 0
  · by_cases h2 : (tmAt xs at_).o = 5
    · by_cases h3 : (tmAt xs at_).a = key
      · exact .inr (.inr (.inr ⟨h1, h2, h3, by simp [h1, h2, h3]⟩))
      · exact .inr (.inr (.inl ⟨h1, h2, h3, by simp [h1, h2, h3]⟩))
    · exact .inr (.inl ⟨h1, h2, by simp [h1, h2]⟩)
  · exact .inl ⟨h1, by simp [h1]⟩

set_option maxRecDepth 20000 in
set_option maxHeartbeats 4000000 in
theorem specOpenSeal_ok (a : Option Addr) (n ca : Nat) (xs : List T4) (at_ key : Int) (w : World) (ha : RdTerm w a xs) (hn : xs.length = n) (hx : n ≤ 1048576) (hca : n ≤ ca) :
    Calls Try.prog 48 #[.slice a n ca, .int .i64 at_, .int .i64 key] w fun e w' => e = .returned (.agg #[.int .i64 (osR xs at_ key).1, .int .i64 (osR xs at_ key).2]) ∧ Below w.heap.size w w' := by
  have CA := Hid.mk (fun b w h hp => l9Asked_ok a n ca xs b 2 2 [at_, key] w h hp hn rfl (by unfold maxLen; omega) hca (by omega))
  rcases osR_ways xs at_ key with ⟨h1, e⟩ | ⟨h1, h2, e⟩ | ⟨h1, h2, h3, e⟩ | ⟨h1, h2, h3, e⟩ 
  · have hne : (aqC xs [at_, key] != 0) = true := by simpa using h1
    rw [e]
    generalize aqC xs [at_, key] = kc at *
    clear e h1
    go_enter Try.func48, Try.ntmps48
    have B := Below.refl w.heap.size w
    replace ha := ha.kept (belowA w (.cells #[.int .i64 0, .int .i64 0] 51))
    replace B := thenB B (belowA w (.cells #[.int .i64 0, .int .i64 0] 51))
    have VR := V.new w [.int .i64 0, .int .i64 0] 51
    obtain ⟨s_VR, f_VR, z_VR⟩ := VR.open
    have Bo := B
    have RP := Rd.litI (w.alloc (.cells #[.int .i64 0, .int .i64 0] 51)) [at_, key]
    simp only [World.size_alloc] at RP
    have VRa := VR.kept (belowA (w.alloc (.cells #[.int .i64 0, .int .i64 0] 51)) (.cells #[.int .i64 at_, .int .i64 key] 2))
    have Ba := thenB B (belowA (w.alloc (.cells #[.int .i64 0, .int .i64 0] 51)) (.cells #[.int .i64 at_, .int .i64 key] 2))
    have haa := ha.kept (belowA (w.alloc (.cells #[.int .i64 0, .int .i64 0] 51)) (.cells #[.int .i64 at_, .int .i64 key] 2))
    go_wp2_with fail
    refine (CA.out _ _ haa RP).mono ?_
    rintro e9 w1 ⟨rfl, b1⟩
    have S1 := b1.size
    simp only [World.size_alloc] at S1
    replace VR := VRa.kept b1
    replace ha := haa.kept b1
    replace B := thenB Ba b1
    clear RP VRa Ba haa b1
    clear s_VR f_VR z_VR
    obtain ⟨s_VR, f_VR, z_VR⟩ := VR.open
    have Bo := B
    clear s_VR f_VR z_VR
    have VF := Hid.mk (VR.filled [.int .i64 kc, .int .i64 0] rfl)
    have BR := belowCells B (show w.heap.size ≤ w.heap.size by (first | omega | (simp; done) | (simp; omega))) 0 [.int .i64 kc, .int .i64 0]
    have HT := Hid.mk VR.there
    replace BR := Hid.mk BR
    obtain ⟨s_VR, f_VR, z_VR⟩ := VR.open
    go_wp2_with (refine wpList_store_mid rfl 51 _ _ rfl (w.heap.size) 0 #[.int .i64 kc, .int .i64 0] rfl rfl HT.out (by kernel_rfl) (by kernel_rfl) ?_)
    refine bodyPost_ret (v := .agg #[.int .i64 kc, .int .i64 0]) (results_row Try.results48 _ _ (w.heap.size) [.int .i64 kc, .int .i64 0] _ rfl VF.out Try.underlying51 rfl (by kernel_rfl)) rfl ⟨rfl, BR.out⟩
  · rw [e]
    obtain ⟨pn, rfl⟩ : ∃ k : Nat, at_ = (k : Int) := ⟨at_.toNat, by have := (aq_places h1 at_ (by simp)).1; omega⟩
    have o2 := (aq_places h1 pn (by simp)).2
    obtain ⟨x, hxo⟩ : ∃ x, xs.getD pn zTerm = x := ⟨_, rfl⟩
    have tq1 : tmAt xs (pn : Int) = x := by unfold tmAt; rw [Int.toNat_natCast]; exact hxo
    rw [hn] at o2
    have o1 : pn < n := by omega
    rw [h1] at CA
    rw [tq1] at h2
    (try rw [tq1])
    have Hx := Hid.mk hxo
    obtain ⟨xo, xa, xb, xn⟩ := x
    simp only at h2
    have hne : (xo != 5) = true := by simpa using h2
    clear h2
    clear e h1 tq1 hxo o2
    go_enter Try.func48, Try.ntmps48
    have B := Below.refl w.heap.size w
    replace ha := ha.kept (belowA w (.cells #[.int .i64 0, .int .i64 0] 51))
    replace B := thenB B (belowA w (.cells #[.int .i64 0, .int .i64 0] 51))
    have VR := V.new w [.int .i64 0, .int .i64 0] 51
    obtain ⟨s_VR, f_VR, z_VR⟩ := VR.open
    have Bo := B
    have RP := Rd.litI (w.alloc (.cells #[.int .i64 0, .int .i64 0] 51)) [(pn : Int), key]
    simp only [World.size_alloc] at RP
    have VRa := VR.kept (belowA (w.alloc (.cells #[.int .i64 0, .int .i64 0] 51)) (.cells #[.int .i64 (pn : Int), .int .i64 key] 2))
    have Ba := thenB B (belowA (w.alloc (.cells #[.int .i64 0, .int .i64 0] 51)) (.cells #[.int .i64 (pn : Int), .int .i64 key] 2))
    have haa := ha.kept (belowA (w.alloc (.cells #[.int .i64 0, .int .i64 0] 51)) (.cells #[.int .i64 (pn : Int), .int .i64 key] 2))
    go_wp2_with fail
    refine (CA.out _ _ haa RP).mono ?_
    rintro e9 w1 ⟨rfl, b1⟩
    have S1 := b1.size
    simp only [World.size_alloc] at S1
    replace VR := VRa.kept b1
    replace ha := haa.kept b1
    replace B := thenB Ba b1
    clear RP VRa Ba haa b1
    clear s_VR f_VR z_VR
    obtain ⟨s_VR, f_VR, z_VR⟩ := VR.open
    have Bo := B
    rcases ha with ha | ⟨b1, q1, rfl, hca1⟩
    · rw [ha] at hn; simp at hn; omega
    obtain ⟨p0, p1, p2, p3⟩ := RdTerm.cells hca1 pn (by omega) _ Hx.out
    clear hca1 p1 p2 p3
    dsimp only at p0 
    clear s_VR f_VR z_VR
    have VF := Hid.mk (VR.filled [.int .i64 1, .int .i64 0] rfl)
    have BR := belowCells B (show w.heap.size ≤ w.heap.size by (first | omega | (simp; done) | (simp; omega))) 0 [.int .i64 1, .int .i64 0]
    have HT := Hid.mk VR.there
    replace BR := Hid.mk BR
    obtain ⟨s_VR, f_VR, z_VR⟩ := VR.open
    go_wp2_with (refine wpList_store_mid rfl 51 _ _ rfl (w.heap.size) 0 #[.int .i64 1, .int .i64 0] rfl rfl HT.out (by kernel_rfl) (by kernel_rfl) ?_)
    refine bodyPost_ret (v := .agg #[.int .i64 1, .int .i64 0]) (results_row Try.results48 _ _ (w.heap.size) [.int .i64 1, .int .i64 0] _ rfl VF.out Try.underlying51 rfl (by kernel_rfl)) rfl ⟨rfl, BR.out⟩
  · rw [e]
    obtain ⟨pn, rfl⟩ : ∃ k : Nat, at_ = (k : Int) := ⟨at_.toNat, by have := (aq_places h1 at_ (by simp)).1; omega⟩
    have o2 := (aq_places h1 pn (by simp)).2
    obtain ⟨x, hxo⟩ : ∃ x, xs.getD pn zTerm = x := ⟨_, rfl⟩
    have tq1 : tmAt xs (pn : Int) = x := by unfold tmAt; rw [Int.toNat_natCast]; exact hxo
    rw [hn] at o2
    have o1 : pn < n := by omega
    rw [h1] at CA
    rw [tq1] at h2 h3
    (try rw [tq1])
    have Hx := Hid.mk hxo
    obtain ⟨xo, xa, xb, xn⟩ := x
    simp only at h2 h3
    subst h2
    have hne : (xa != key) = true := by simpa using h3
    clear h3
    clear e h1 tq1 hxo o2
    go_enter Try.func48, Try.ntmps48
    have B := Below.refl w.heap.size w
    replace ha := ha.kept (belowA w (.cells #[.int .i64 0, .int .i64 0] 51))
    replace B := thenB B (belowA w (.cells #[.int .i64 0, .int .i64 0] 51))
    have VR := V.new w [.int .i64 0, .int .i64 0] 51
    obtain ⟨s_VR, f_VR, z_VR⟩ := VR.open
    have Bo := B
    have RP := Rd.litI (w.alloc (.cells #[.int .i64 0, .int .i64 0] 51)) [(pn : Int), key]
    simp only [World.size_alloc] at RP
    have VRa := VR.kept (belowA (w.alloc (.cells #[.int .i64 0, .int .i64 0] 51)) (.cells #[.int .i64 (pn : Int), .int .i64 key] 2))
    have Ba := thenB B (belowA (w.alloc (.cells #[.int .i64 0, .int .i64 0] 51)) (.cells #[.int .i64 (pn : Int), .int .i64 key] 2))
    have haa := ha.kept (belowA (w.alloc (.cells #[.int .i64 0, .int .i64 0] 51)) (.cells #[.int .i64 (pn : Int), .int .i64 key] 2))
    go_wp2_with fail
    refine (CA.out _ _ haa RP).mono ?_
    rintro e9 w1 ⟨rfl, b1⟩
    have S1 := b1.size
    simp only [World.size_alloc] at S1
    replace VR := VRa.kept b1
    replace ha := haa.kept b1
    replace B := thenB Ba b1
    clear RP VRa Ba haa b1
    clear s_VR f_VR z_VR
    obtain ⟨s_VR, f_VR, z_VR⟩ := VR.open
    have Bo := B
    rcases ha with ha | ⟨b1, q1, rfl, hca1⟩
    · rw [ha] at hn; simp at hn; omega
    obtain ⟨p0, p1, p2, p3⟩ := RdTerm.cells hca1 pn (by omega) _ Hx.out
    clear hca1 p2 p3
    dsimp only at p0 p1
    clear s_VR f_VR z_VR
    have VF := Hid.mk (VR.filled [.int .i64 9, .int .i64 0] rfl)
    have BR := belowCells B (show w.heap.size ≤ w.heap.size by (first | omega | (simp; done) | (simp; omega))) 0 [.int .i64 9, .int .i64 0]
    have HT := Hid.mk VR.there
    replace BR := Hid.mk BR
    obtain ⟨s_VR, f_VR, z_VR⟩ := VR.open
    go_wp2_with (refine wpList_store_mid rfl 51 _ _ rfl (w.heap.size) 0 #[.int .i64 9, .int .i64 0] rfl rfl HT.out (by kernel_rfl) (by kernel_rfl) ?_)
    refine bodyPost_ret (v := .agg #[.int .i64 9, .int .i64 0]) (results_row Try.results48 _ _ (w.heap.size) [.int .i64 9, .int .i64 0] _ rfl VF.out Try.underlying51 rfl (by kernel_rfl)) rfl ⟨rfl, BR.out⟩
  · rw [e]
    obtain ⟨pn, rfl⟩ : ∃ k : Nat, at_ = (k : Int) := ⟨at_.toNat, by have := (aq_places h1 at_ (by simp)).1; omega⟩
    have o2 := (aq_places h1 pn (by simp)).2
    obtain ⟨x, hxo⟩ : ∃ x, xs.getD pn zTerm = x := ⟨_, rfl⟩
    have tq1 : tmAt xs (pn : Int) = x := by unfold tmAt; rw [Int.toNat_natCast]; exact hxo
    rw [hn] at o2
    have o1 : pn < n := by omega
    rw [h1] at CA
    rw [tq1] at h2 h3
    (try rw [tq1])
    have Hx := Hid.mk hxo
    obtain ⟨xo, xa, xb, xn⟩ := x
    simp only at h2 h3
    subst h2
    have heq : (xa != key) = false := by simpa using h3
    clear e h1 tq1 hxo o2
    go_enter Try.func48, Try.ntmps48
    have B := Below.refl w.heap.size w
    replace ha := ha.kept (belowA w (.cells #[.int .i64 0, .int .i64 0] 51))
    replace B := thenB B (belowA w (.cells #[.int .i64 0, .int .i64 0] 51))
    have VR := V.new w [.int .i64 0, .int .i64 0] 51
    obtain ⟨s_VR, f_VR, z_VR⟩ := VR.open
    have Bo := B
    have RP := Rd.litI (w.alloc (.cells #[.int .i64 0, .int .i64 0] 51)) [(pn : Int), key]
    simp only [World.size_alloc] at RP
    have VRa := VR.kept (belowA (w.alloc (.cells #[.int .i64 0, .int .i64 0] 51)) (.cells #[.int .i64 (pn : Int), .int .i64 key] 2))
    have Ba := thenB B (belowA (w.alloc (.cells #[.int .i64 0, .int .i64 0] 51)) (.cells #[.int .i64 (pn : Int), .int .i64 key] 2))
    have haa := ha.kept (belowA (w.alloc (.cells #[.int .i64 0, .int .i64 0] 51)) (.cells #[.int .i64 (pn : Int), .int .i64 key] 2))
    go_wp2_with fail
    refine (CA.out _ _ haa RP).mono ?_
    rintro e9 w1 ⟨rfl, b1⟩
    have S1 := b1.size
    simp only [World.size_alloc] at S1
    replace VR := VRa.kept b1
    replace ha := haa.kept b1
    replace B := thenB Ba b1
    clear RP VRa Ba haa b1
    clear s_VR f_VR z_VR
    obtain ⟨s_VR, f_VR, z_VR⟩ := VR.open
    have Bo := B
    rcases ha with ha | ⟨b1, q1, rfl, hca1⟩
    · rw [ha] at hn; simp at hn; omega
    obtain ⟨p0, p1, p2, p3⟩ := RdTerm.cells hca1 pn (by omega) _ Hx.out
    clear hca1 p3
    dsimp only at p0 p1 p2
    clear s_VR f_VR z_VR
    have VF := Hid.mk (VR.filled [.int .i64 0, .int .i64 xb] rfl)
    have BR := belowCells B (show w.heap.size ≤ w.heap.size by (first | omega | (simp; done) | (simp; omega))) 0 [.int .i64 0, .int .i64 xb]
    have HT := Hid.mk VR.there
    replace BR := Hid.mk BR
    obtain ⟨s_VR, f_VR, z_VR⟩ := VR.open
    go_wp2_with (refine wpList_store_mid rfl 51 _ _ rfl (w.heap.size) 0 #[.int .i64 0, .int .i64 xb] rfl rfl HT.out (by kernel_rfl) (by kernel_rfl) ?_)
    refine bodyPost_ret (v := .agg #[.int .i64 0, .int .i64 xb]) (results_row Try.results48 _ _ (w.heap.size) [.int .i64 0, .int .i64 xb] _ rfl VF.out Try.underlying51 rfl (by kernel_rfl)) rfl ⟨rfl, BR.out⟩

end Go.Proofs.Ythkmoabkeblbjaa
