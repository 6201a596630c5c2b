/- MakeProof and MakeChild of the model. -/
import Derived.Test.YthkmoabkeblbjaaKyD
import Derived.Test.YthkmoabkeblbjaaFill
namespace Go.Proofs.Ythkmoabkeblbjaa
open Go.RowKit

/-- What comes of a run of puts: the code, the table. -/
def okC (m : Mk) : Int := m.c
def okV (m : Mk) (v : Int) : Int := if m.c = 0 then v else 0
def okL (m : Mk) : List T4 := if m.c = 0 then m.l else []

/-- A proof of whatever numbers. -/
@[irreducible] def mpR (xs : List T4) (shared first nonce key id : Int) : Put :=
  if aqC xs [shared, first, nonce, key] = 0 then (if btw id 0 9999 = true then ⟨(prP ⟨xs, 0⟩ shared first nonce key id).1.c, okV (prP ⟨xs, 0⟩ shared first nonce key id).1 (prP ⟨xs, 0⟩ shared first nonce key id).2, okL (prP ⟨xs, 0⟩ shared first nonce key id).1⟩ else ⟨3, 0, []⟩) else ⟨aqC xs [shared, first, nonce, key], 0, []⟩

theorem mp_ways (xs : List T4) (shared first nonce key id : Int) : (aqC xs [shared, first, nonce, key] ≠ 0 ∧ mpR xs shared first nonce key id = ⟨aqC xs [shared, first, nonce, key], 0, []⟩) ∨ (aqC xs [shared, first, nonce, key] = 0 ∧ btw id 0 9999 = false ∧ mpR xs shared first nonce key id = ⟨3, 0, []⟩) ∨
    (aqC xs [shared, first, nonce, key] = 0 ∧ btw id 0 9999 = true ∧ (prP ⟨xs, 0⟩ shared first nonce key id).1.c ≠ 0 ∧ mpR xs shared first nonce key id = ⟨(prP ⟨xs, 0⟩ shared first nonce key id).1.c, 0, []⟩) ∨
    (aqC xs [shared, first, nonce, key] = 0 ∧ btw id 0 9999 = true ∧ (prP ⟨xs, 0⟩ shared first nonce key id).1.c = 0 ∧ mpR xs shared first nonce key id = ⟨0, (prP ⟨xs, 0⟩ shared first nonce key id).2, (prP ⟨xs, 0⟩ shared first nonce key id).1.l⟩) := by
  unfold mpR okV okL
  by_cases h1 : aqC xs [shared, first, nonce, key] = 0
  · cases h2 : btw id 0 9999
    · exact .inr (.inl ⟨h1, rfl, by simp [h1]⟩)
    · by_cases h3 : (prP ⟨xs, 0⟩ shared first nonce key id).1.c = 0
      · exact .inr (.inr (.inr ⟨h1, rfl, h3, by simp [h1, h3]⟩))
      · exact .inr (.inr (.inl ⟨h1, rfl, h3, by simp [h1, h3]⟩))
  · exact .inl ⟨h1, by simp [h1]⟩

theorem aq_table {xs : List T4} {ps : List Int} (h : aqC xs ps = 0) : tfC xs = 0 := by
  rcases aq_ways xs ps with ⟨h1, h2⟩ | ⟨h1, _, _⟩ | ⟨h1, _, _⟩
  · rw [h2] at h; exact absurd h h1
  · exact h1
  · exact h1

theorem MkB.made {w : World} {base Q : Nat} {xs : List T4} {c : Option Addr} {n d : Nat} (hn : xs.length = n) (V1 : V w Q [.slice c n d, .int .i64 0]) (O : OwnTerm w base c d xs) (hb : base ≤ w.heap.size) (hQ : ∀ b, c = some b → b.block ≠ Q) : MkB w base Q ⟨xs, 0⟩ :=
  ⟨c, d, by rw [hn]; exact V1, O, hb, hQ⟩

set_option maxRecDepth 20000 in
set_option maxHeartbeats 8000000 in
theorem specMakeProof_ok (a : Option Addr) (n ca : Nat) (xs : List T4) (shared first nonce key id : Int) (w : World) (ha : RdTerm w a xs) (hn : xs.length = n) (hx : n ≤ 1048576) (hca : n ≤ ca) (hcn : a = none → ca = 0) :
    Calls Try.prog 26 #[.slice a n ca, .int .i64 shared, .int .i64 first, .int .i64 nonce, .int .i64 key, .int .i64 id] w fun e w' => ∃ c d, e = .returned (.agg #[.int .i64 (mpR xs shared first nonce key id).c, .int .i64 (mpR xs shared first nonce key id).k, .slice c (mpR xs shared first nonce key id).l.length d]) ∧ OwnTerm w' w.heap.size c d (mpR xs shared first nonce key id).l ∧ Below w.heap.size w w' := by
  have CA := Hid.mk (fun b w h hp => l9Asked_ok a n ca xs b 4 4 [shared, first, nonce, key] w h hp hn rfl (by unfold maxLen; omega) hca (by omega))
  have CW := Hid.mk (l9Word_ok id)
  have CC := Hid.mk (fun (h4 : tfC xs = 0) w h => l5Copy_ok a n ca xs w h hn (by have := (tfC_zero h4).1; omega) hcn)
  rcases mp_ways xs shared first nonce key id with ⟨h1, e⟩ | ⟨h1, h2, e⟩ | ⟨h1, h2, h3, e⟩ | ⟨h1, h2, h3, e⟩
  · have hne : (aqC xs [shared, first, nonce, key] != 0) = true := by simpa using h1
    rw [e]
    generalize aqC xs [shared, first, nonce, key] = kc at *
    clear e h1
    go_enter Try.func26, Try.ntmps26
    have B := Below.refl w.heap.size w
    replace ha := ha.kept (belowA w (.cells #[.int .i64 0, .int .i64 0, .slice none 0 0] 33))
    replace B := thenB B (belowA w (.cells #[.int .i64 0, .int .i64 0, .slice none 0 0] 33))
    have VR := V.new w [.int .i64 0, .int .i64 0, .slice none 0 0] 33
    obtain ⟨s_VR, f_VR, z_VR⟩ := VR.open
    have Bo := B
    have RP := Rd.litI (w.alloc (.cells #[.int .i64 0, .int .i64 0, .slice none 0 0] 33)) [shared, first, nonce, key]
    simp only [World.size_alloc] at RP
    have VRa := VR.kept (belowA (w.alloc (.cells #[.int .i64 0, .int .i64 0, .slice none 0 0] 33)) (.cells #[.int .i64 shared, .int .i64 first, .int .i64 nonce, .int .i64 key] 2))
    have Ba := thenB B (belowA (w.alloc (.cells #[.int .i64 0, .int .i64 0, .slice none 0 0] 33)) (.cells #[.int .i64 shared, .int .i64 first, .int .i64 nonce, .int .i64 key] 2))
    have haa := ha.kept (belowA (w.alloc (.cells #[.int .i64 0, .int .i64 0, .slice none 0 0] 33)) (.cells #[.int .i64 shared, .int .i64 first, .int .i64 nonce, .int .i64 key] 2))
    go_wp2_with fail
    refine (CA.out _ _ haa RP).mono ?_
    rintro e9 w1 ⟨rfl, b1⟩
    have S1 := b1.size
    simp only [World.size_alloc] at S1
    replace VR := VRa.kept b1
    replace ha := haa.kept b1
    replace B := thenB Ba b1
    clear RP VRa Ba haa b1
    clear s_VR f_VR z_VR
    obtain ⟨s_VR, f_VR, z_VR⟩ := VR.open
    have Bo := B
    clear s_VR f_VR z_VR
    have VF := Hid.mk (VR.filled [.int .i64 kc, .int .i64 0, .slice none 0 0] rfl)
    have BR := belowCells B (show w.heap.size ≤ w.heap.size by (first | omega | (simp; done) | (simp; omega))) 0 [.int .i64 kc, .int .i64 0, .slice none 0 0]
    have HT := Hid.mk VR.there
    replace BR := Hid.mk BR
    obtain ⟨s_VR, f_VR, z_VR⟩ := VR.open
    go_wp2_with (refine wpList_store_mid rfl 33 _ _ rfl (w.heap.size) 0 #[.int .i64 kc, .int .i64 0, .slice none 0 0] rfl rfl HT.out (by kernel_rfl) (by kernel_rfl) ?_)
    refine bodyPost_ret (v := .agg #[.int .i64 kc, .int .i64 0, .slice none 0 0]) (results_row Try.results26 _ _ (w.heap.size) [.int .i64 kc, .int .i64 0, .slice none 0 0] _ rfl VF.out Try.underlying33 rfl (by kernel_rfl)) rfl ⟨none, 0, rfl, OwnTerm.none, BR.out⟩
  · rw [e]
    rw [h1] at CA
    simp only [h2] at CW
    clear e h1 h2
    go_enter Try.func26, Try.ntmps26
    have B := Below.refl w.heap.size w
    replace ha := ha.kept (belowA w (.cells #[.int .i64 0, .int .i64 0, .slice none 0 0] 33))
    replace B := thenB B (belowA w (.cells #[.int .i64 0, .int .i64 0, .slice none 0 0] 33))
    have VR := V.new w [.int .i64 0, .int .i64 0, .slice none 0 0] 33
    obtain ⟨s_VR, f_VR, z_VR⟩ := VR.open
    have Bo := B
    have RP := Rd.litI (w.alloc (.cells #[.int .i64 0, .int .i64 0, .slice none 0 0] 33)) [shared, first, nonce, key]
    simp only [World.size_alloc] at RP
    have VRa := VR.kept (belowA (w.alloc (.cells #[.int .i64 0, .int .i64 0, .slice none 0 0] 33)) (.cells #[.int .i64 shared, .int .i64 first, .int .i64 nonce, .int .i64 key] 2))
    have Ba := thenB B (belowA (w.alloc (.cells #[.int .i64 0, .int .i64 0, .slice none 0 0] 33)) (.cells #[.int .i64 shared, .int .i64 first, .int .i64 nonce, .int .i64 key] 2))
    have haa := ha.kept (belowA (w.alloc (.cells #[.int .i64 0, .int .i64 0, .slice none 0 0] 33)) (.cells #[.int .i64 shared, .int .i64 first, .int .i64 nonce, .int .i64 key] 2))
    go_wp2_with fail
    refine (CA.out _ _ haa RP).mono ?_
    rintro e9 w1 ⟨rfl, b1⟩
    have S1 := b1.size
    simp only [World.size_alloc] at S1
    replace VR := VRa.kept b1
    replace ha := haa.kept b1
    replace B := thenB Ba b1
    clear RP VRa Ba haa b1
    clear s_VR f_VR z_VR
    obtain ⟨s_VR, f_VR, z_VR⟩ := VR.open
    have Bo := B
    go_wp2_with fail
    refine (CW.out _).mono ?_
    rintro e9 wq ⟨rfl, rfl⟩
    clear s_VR f_VR z_VR
    have VF := Hid.mk (VR.filled [.int .i64 3, .int .i64 0, .slice none 0 0] rfl)
    have BR := belowCells B (show w.heap.size ≤ w.heap.size by (first | omega | (simp; done) | (simp; omega))) 0 [.int .i64 3, .int .i64 0, .slice none 0 0]
    have HT := Hid.mk VR.there
    replace BR := Hid.mk BR
    obtain ⟨s_VR, f_VR, z_VR⟩ := VR.open
    go_wp2_with (refine wpList_store_mid rfl 33 _ _ rfl (w.heap.size) 0 #[.int .i64 3, .int .i64 0, .slice none 0 0] rfl rfl HT.out (by kernel_rfl) (by kernel_rfl) ?_)
    refine bodyPost_ret (v := .agg #[.int .i64 3, .int .i64 0, .slice none 0 0]) (results_row Try.results26 _ _ (w.heap.size) [.int .i64 3, .int .i64 0, .slice none 0 0] _ rfl VF.out Try.underlying33 rfl (by kernel_rfl)) rfl ⟨none, 0, rfl, OwnTerm.none, BR.out⟩
  · rw [e]
    have hl4 : xs.length ≤ 400 := (tfC_zero (aq_table h1)).1
    replace CC := Hid.mk (CC.out (aq_table h1))
    rw [h1] at CA
    simp only [h2] at CW
    have CPf := Hid.mk (fun base Q w h => l9Proof_ok base Q ⟨xs, 0⟩ shared first nonce key id w h hl4)
    generalize prP ⟨xs, 0⟩ shared first nonce key id = P at *
    obtain ⟨⟨pl, pc⟩, pv⟩ := P
    simp only at h3 CPf ⊢
    obtain ⟨k, hk⟩ : ∃ k, pl.length = k := ⟨_, rfl⟩
    have HK := Hid.mk hk
    have hne : (pc != 0) = true := by simpa using h3
    clear e h1 h2 h3 hl4 hk
    go_enter Try.func26, Try.ntmps26
    have B := Below.refl w.heap.size w
    replace ha := ha.kept (belowA w (.cells #[.int .i64 0, .int .i64 0, .slice none 0 0] 33))
    replace B := thenB B (belowA w (.cells #[.int .i64 0, .int .i64 0, .slice none 0 0] 33))
    have VR := V.new w [.int .i64 0, .int .i64 0, .slice none 0 0] 33
    obtain ⟨s_VR, f_VR, z_VR⟩ := VR.open
    have Bo := B
    have RP := Rd.litI (w.alloc (.cells #[.int .i64 0, .int .i64 0, .slice none 0 0] 33)) [shared, first, nonce, key]
    simp only [World.size_alloc] at RP
    have VRa := VR.kept (belowA (w.alloc (.cells #[.int .i64 0, .int .i64 0, .slice none 0 0] 33)) (.cells #[.int .i64 shared, .int .i64 first, .int .i64 nonce, .int .i64 key] 2))
    have Ba := thenB B (belowA (w.alloc (.cells #[.int .i64 0, .int .i64 0, .slice none 0 0] 33)) (.cells #[.int .i64 shared, .int .i64 first, .int .i64 nonce, .int .i64 key] 2))
    have haa := ha.kept (belowA (w.alloc (.cells #[.int .i64 0, .int .i64 0, .slice none 0 0] 33)) (.cells #[.int .i64 shared, .int .i64 first, .int .i64 nonce, .int .i64 key] 2))
    go_wp2_with fail
    refine (CA.out _ _ haa RP).mono ?_
    rintro e9 w1 ⟨rfl, b1⟩
    have S1 := b1.size
    simp only [World.size_alloc] at S1
    replace VR := VRa.kept b1
    replace ha := haa.kept b1
    replace B := thenB Ba b1
    clear RP VRa Ba haa b1
    clear s_VR f_VR z_VR
    obtain ⟨s_VR, f_VR, z_VR⟩ := VR.open
    have Bo := B
    go_wp2_with fail
    refine (CW.out _).mono ?_
    rintro e9 wq ⟨rfl, rfl⟩
    go_wp2_with fail
    refine (CC.out _ ha).mono ?_
    rintro e w2 ⟨c1, d1, rfl, O1, b2⟩
    clear s_VR f_VR z_VR
    have S2 := b2.size
    replace VR := VR.kept b2
    replace ha := ha.kept b2
    replace B := thenB B b2
    clear b2
    obtain ⟨s_VR, f_VR, z_VR⟩ := VR.open
    have Bo := B
    have OLT := Hid.mk O1.lt
    replace VR := VR.kept (belowA w2 (.cells #[.slice c1 n d1, .int .i64 0] 104))
    replace ha := ha.kept (belowA w2 (.cells #[.slice c1 n d1, .int .i64 0] 104))
    replace O1 := O1.kept (belowA w2 (.cells #[.slice c1 n d1, .int .i64 0] 104))
    replace B := thenB B (belowA w2 (.cells #[.slice c1 n d1, .int .i64 0] 104))
    have VQ := V.new w2 [.slice c1 n d1, .int .i64 0] 104
    clear s_VR f_VR z_VR
    obtain ⟨s_VR, f_VR, z_VR⟩ := VR.open
    obtain ⟨s_VQ, f_VQ, z_VQ⟩ := VQ.open
    have Bo := B
    have M := MkB.made hn VQ (O1.mono (show w.heap.size + 1 ≤ _ by have := VR.1; omega)) (by have := VR.1; (try simp only [World.size_alloc] at *); omega) (fun b hb => by have := (OLT.out b hb).2; omega)
    have hQ1 : w.heap.size + 1 ≤ w2.heap.size := by omega
    clear O1 VQ
    go_wp2_with fail
    refine (CPf.out _ _ _ M).mono ?_
    rintro e9 w5 ⟨rfl, M5, G5⟩
    have VR5 := VR.grownB G5 (by omega)
    have B5 := B.grown G5 (by (try simp only [World.size_alloc]); omega) (by intro q hq; simp at hq; omega)
    clear M G5 VR B ha Bo
    obtain ⟨c2, d2, VQ, O2, hb5, hne5⟩ := M5
    simp only at VQ O2
    rw [HK.out] at VQ
    have VR := VR5
    have B := B5
    clear VR5 B5
    have OL2 := Hid.mk O2.lt
    clear s_VR f_VR z_VR s_VQ f_VQ z_VQ
    have VF := Hid.mk (VR.filled [.int .i64 pc, .int .i64 0, .slice none 0 0] rfl)
    have BR := belowCells B (show w.heap.size ≤ w.heap.size by (first | omega | (simp; done) | (simp; omega))) 0 [.int .i64 pc, .int .i64 0, .slice none 0 0]
    have HT := Hid.mk VR.there
    replace BR := Hid.mk BR
    clear O2
    obtain ⟨s_VR, f_VR, z_VR⟩ := VR.open
    obtain ⟨s_VQ, f_VQ, z_VQ⟩ := VQ.open
    go_wp2_with (refine wpList_store_mid rfl 33 _ _ rfl (w.heap.size) 0 #[.int .i64 pc, .int .i64 0, .slice none 0 0] rfl rfl HT.out (by kernel_rfl) (by kernel_rfl) ?_)
    refine bodyPost_ret (v := .agg #[.int .i64 pc, .int .i64 0, .slice none 0 0]) (results_row Try.results26 _ _ (w.heap.size) [.int .i64 pc, .int .i64 0, .slice none 0 0] _ rfl VF.out Try.underlying33 rfl (by kernel_rfl)) rfl ⟨none, 0, rfl, OwnTerm.none, BR.out⟩
  · rw [e]
    have hl4 : xs.length ≤ 400 := (tfC_zero (aq_table h1)).1
    replace CC := Hid.mk (CC.out (aq_table h1))
    rw [h1] at CA
    simp only [h2] at CW
    have CPf := Hid.mk (fun base Q w h => l9Proof_ok base Q ⟨xs, 0⟩ shared first nonce key id w h hl4)
    generalize prP ⟨xs, 0⟩ shared first nonce key id = P at *
    obtain ⟨⟨pl, pc⟩, pv⟩ := P
    simp only at h3 CPf ⊢
    obtain ⟨k, hk⟩ : ∃ k, pl.length = k := ⟨_, rfl⟩
    have HK := Hid.mk hk
    subst h3
    clear e h1 h2 hl4 hk
    go_enter Try.func26, Try.ntmps26
    have B := Below.refl w.heap.size w
    replace ha := ha.kept (belowA w (.cells #[.int .i64 0, .int .i64 0, .slice none 0 0] 33))
    replace B := thenB B (belowA w (.cells #[.int .i64 0, .int .i64 0, .slice none 0 0] 33))
    have VR := V.new w [.int .i64 0, .int .i64 0, .slice none 0 0] 33
    obtain ⟨s_VR, f_VR, z_VR⟩ := VR.open
    have Bo := B
    have RP := Rd.litI (w.alloc (.cells #[.int .i64 0, .int .i64 0, .slice none 0 0] 33)) [shared, first, nonce, key]
    simp only [World.size_alloc] at RP
    have VRa := VR.kept (belowA (w.alloc (.cells #[.int .i64 0, .int .i64 0, .slice none 0 0] 33)) (.cells #[.int .i64 shared, .int .i64 first, .int .i64 nonce, .int .i64 key] 2))
    have Ba := thenB B (belowA (w.alloc (.cells #[.int .i64 0, .int .i64 0, .slice none 0 0] 33)) (.cells #[.int .i64 shared, .int .i64 first, .int .i64 nonce, .int .i64 key] 2))
    have haa := ha.kept (belowA (w.alloc (.cells #[.int .i64 0, .int .i64 0, .slice none 0 0] 33)) (.cells #[.int .i64 shared, .int .i64 first, .int .i64 nonce, .int .i64 key] 2))
    go_wp2_with fail
    refine (CA.out _ _ haa RP).mono ?_
    rintro e9 w1 ⟨rfl, b1⟩
    have S1 := b1.size
    simp only [World.size_alloc] at S1
    replace VR := VRa.kept b1
    replace ha := haa.kept b1
    replace B := thenB Ba b1
    clear RP VRa Ba haa b1
    clear s_VR f_VR z_VR
    obtain ⟨s_VR, f_VR, z_VR⟩ := VR.open
    have Bo := B
    go_wp2_with fail
    refine (CW.out _).mono ?_
    rintro e9 wq ⟨rfl, rfl⟩
    go_wp2_with fail
    refine (CC.out _ ha).mono ?_
    rintro e w2 ⟨c1, d1, rfl, O1, b2⟩
    clear s_VR f_VR z_VR
    have S2 := b2.size
    replace VR := VR.kept b2
    replace ha := ha.kept b2
    replace B := thenB B b2
    clear b2
    obtain ⟨s_VR, f_VR, z_VR⟩ := VR.open
    have Bo := B
    have OLT := Hid.mk O1.lt
    replace VR := VR.kept (belowA w2 (.cells #[.slice c1 n d1, .int .i64 0] 104))
    replace ha := ha.kept (belowA w2 (.cells #[.slice c1 n d1, .int .i64 0] 104))
    replace O1 := O1.kept (belowA w2 (.cells #[.slice c1 n d1, .int .i64 0] 104))
    replace B := thenB B (belowA w2 (.cells #[.slice c1 n d1, .int .i64 0] 104))
    have VQ := V.new w2 [.slice c1 n d1, .int .i64 0] 104
    clear s_VR f_VR z_VR
    obtain ⟨s_VR, f_VR, z_VR⟩ := VR.open
    obtain ⟨s_VQ, f_VQ, z_VQ⟩ := VQ.open
    have Bo := B
    have M := MkB.made hn VQ (O1.mono (show w.heap.size + 1 ≤ _ by have := VR.1; omega)) (by have := VR.1; (try simp only [World.size_alloc] at *); omega) (fun b hb => by have := (OLT.out b hb).2; omega)
    have hQ1 : w.heap.size + 1 ≤ w2.heap.size := by omega
    clear O1 VQ
    go_wp2_with fail
    refine (CPf.out _ _ _ M).mono ?_
    rintro e9 w5 ⟨rfl, M5, G5⟩
    have VR5 := VR.grownB G5 (by omega)
    have B5 := B.grown G5 (by (try simp only [World.size_alloc]); omega) (by intro q hq; simp at hq; omega)
    clear M G5 VR B ha Bo
    obtain ⟨c2, d2, VQ, O2, hb5, hne5⟩ := M5
    simp only at VQ O2
    rw [HK.out] at VQ
    have VR := VR5
    have B := B5
    clear VR5 B5
    have OL2 := Hid.mk O2.lt
    clear s_VR f_VR z_VR s_VQ f_VQ z_VQ
    have VF := Hid.mk (VR.filled [.int .i64 0, .int .i64 pv, .slice c2 k d2] rfl)
    have BR := belowCells B (show w.heap.size ≤ w.heap.size by (first | omega | (simp; done) | (simp; omega))) 0 [.int .i64 0, .int .i64 pv, .slice c2 k d2]
    have HT := Hid.mk VR.there
    replace BR := Hid.mk BR
    have OF := Hid.mk ((O2.apart (B := w.heap.size) (fun b hb => by have := (OL2.out b hb).1; omega) 0 [.int .i64 0, .int .i64 pv, .slice c2 k d2]).mono (Nat.le_succ w.heap.size))
    clear O2
    obtain ⟨s_VR, f_VR, z_VR⟩ := VR.open
    obtain ⟨s_VQ, f_VQ, z_VQ⟩ := VQ.open
    go_wp2_with (refine wpList_store_mid rfl 33 _ _ rfl (w.heap.size) 0 #[.int .i64 0, .int .i64 pv, .slice c2 k d2] rfl rfl HT.out (by kernel_rfl) (by kernel_rfl) ?_)
    refine bodyPost_ret (v := .agg #[.int .i64 0, .int .i64 pv, .slice c2 k d2]) (results_row Try.results26 _ _ (w.heap.size) [.int .i64 0, .int .i64 pv, .slice c2 k d2] _ rfl VF.out Try.underlying33 rfl (by kernel_rfl)) rfl ⟨c2, d2, by rw [HK.out], OF.out, BR.out⟩

end Go.Proofs.Ythkmoabkeblbjaa
