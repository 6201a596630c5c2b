/- Chapter 6: the program's functions. Chapter 6: the model's functions. -/
import Derived.Test.YteeoodbmgheikaaKD
import Derived.Test.YteeoodbmgheikaaFill
import Derived.Test.YteeoodbmgheikaaKE
namespace Go.Proofs.Yteeoodbmgheikaa
section
open Go.RowKit

open Classical in
/-- How many places are not marked: read off the world. -/
noncomputable def leftW (base Q n : Nat) (w : World) : Nat := if h : ∃ M, Fl w base Q n M then left (Classical.choose h) else 0

theorem leftW_eq {base Q n : Nat} {w : World} {M : List Bool} (h : Fl w base Q n M) : leftW base Q n w = left M := by
  have hex : ∃ M, Fl w base Q n M := ⟨M, h⟩
  unfold leftW
  rw [dif_pos hex]
  rw [Fl.unique (Classical.choose_spec hex) h]

set_option maxHeartbeats 2000000 in
theorem openAll_ok (base kb p g : Nat) (c : Option Addr) (d Q n : Nat) (xs : List T4) (kn : List Int) (M : List Bool) (w : World) (H : Kn w base kb p g c d Q xs M) (hn : xs.length = n) (ht : tfC xs = 0) (hW : Way xs kn M) :
    Calls Try.prog 40 #[.pointer (some ⟨kb, 0, none⟩)] w fun e w' => e = .returned (.tuple #[]) ∧ ∃ M2, Kn w' base kb p g c d Q xs M2 ∧ IsOpen xs kn (plcs M2) ∧ Sm (fun k => k = Q) w w' := by
  have CO := Hid.mk (fun M w H hW => openMore_ok base kb p g c d Q n xs kn M w H hn ht hW)
  go_enter Try.func40, Try.ntmps40
  go_wp2
  go_loopw [] (fun wr => ∃ M2, Kn wr base kb p g c d Q xs M2 ∧ Way xs kn M2 ∧ Sm (fun k => k = Q) w wr) (fun wr => leftW base Q n wr)
  case atStart => exact ⟨M, H, hW, Sm.refl _ _⟩
  case round =>
    obtain ⟨M2, H2, hW2, hS⟩ := hrel
    have hf := H2.f
    rw [hn] at hf
    go_wp2_with fail
    refine (CO.out M2 _ H2 hW2).mono ?_
    rintro e w3 ⟨b, M3, rfl, H3, hW3, hno, hyes, hS3⟩
    cases b
    · obtain ⟨rfl, hO⟩ := hno rfl
      clear hyes
      go_wp2
      go_end0
      exact ⟨rfl, _, H3, hO, hS.trans hS3⟩
    · have hl := hyes rfl
      have hf3 := H3.f
      rw [hn] at hf3
      clear hno
      go_wp2
      go_roundw
      case rel => exact ⟨M3, H3, hW3, hS.trans hS3⟩
      case measure => rw [leftW_eq hf3, leftW_eq hf]; exact hl

theorem knOf_no (a : Option Addr) (n ca : Nat) (xs : List T4) (a2 : Option Addr) (n2 ca2 : Nat) (kn : List Int) (w : World) (ha : RdTerm w a xs) (hn : xs.length = n) (hx : n ≤ maxLen) (hok : ∀ t ∈ xs, okT t) (ha2 : Rd .i64 w a2 kn) (hn2 : kn.length = n2) (hx2 : n2 ≤ maxLen) (h : knC xs kn ≠ 0) :
    Calls Try.prog 39 #[.slice a n ca, .slice a2 n2 ca2] w fun e w' => e = .returned (.tuple #[.pointer none, .int .i64 (knC xs kn)]) ∧ Below w.heap.size w w' := by
  refine (knowledgeOf_ok a n ca xs a2 n2 ca2 kn w ha hn hx hok ha2 hn2 hx2).mono ?_
  rintro e w' ⟨v, k, rfl, hk, hb, ⟨_, rfl⟩ | ⟨h0, _⟩⟩
  · exact ⟨by rw [hk], hb⟩
  · exact absurd h0 h

theorem knOf_yes (a : Option Addr) (n ca : Nat) (xs : List T4) (a2 : Option Addr) (n2 ca2 : Nat) (kn : List Int) (w : World) (ha : RdTerm w a xs) (hn : xs.length = n) (hx : n ≤ maxLen) (hok : ∀ t ∈ xs, okT t) (ha2 : Rd .i64 w a2 kn) (hn2 : kn.length = n2) (hx2 : n2 ≤ maxLen) (h : knC xs kn = 0) :
    Calls Try.prog 39 #[.slice a n ca, .slice a2 n2 ca2] w fun e w' => ∃ kb p g c d Q, e = .returned (.tuple #[.pointer (some ⟨kb, 0, none⟩), .int .i64 0]) ∧ Kn w' w.heap.size kb p g c d Q xs (mrk n kn) ∧ Below w.heap.size w w' := by
  refine (knowledgeOf_ok a n ca xs a2 n2 ca2 kn w ha hn hx hok ha2 hn2 hx2).mono ?_
  rintro e w' ⟨v, k, rfl, hk, hb, ⟨h0, _⟩ | ⟨_, kb, p, g, c, d, Q, rfl, hK⟩⟩
  · exact absurd h h0
  · exact ⟨kb, p, g, c, d, Q, by rw [← hk, h], hn ▸ hK, hb⟩

/-- What is opened of what is known. -/
@[irreducible] def opL (xs : List T4) (kn : List Int) : List Int := if knC xs kn = 0 then openL xs kn else []

/-- Which terms follow. -/
@[irreducible] def dvF (xs : List T4) (kn : List Int) : List Bool := canL xs (isIn (openL xs kn))

@[irreducible] def dsL (xs : List T4) (kn : List Int) : List Int := if knC xs kn = 0 then plcs (dvF xs kn) else []

@[irreducible] def cmB (xs : List T4) (kn : List Int) (q : Int) : Bool := decide (knC xs kn = 0) && flg (canL xs (isIn kn)) q

@[irreducible] def dvB (xs : List T4) (kn : List Int) (q : Int) : Bool := decide (knC xs kn = 0) && flg (dvF xs kn) q

@[irreducible] def scB (xs : List T4) (kn : List Int) (q : Int) : Bool := decide (knC xs kn = 0) && (btw q 0 ((xs.length : Int) - 1) && !flg (dvF xs kn) q)

theorem kn_ways (xs : List T4) (kn : List Int) : (knC xs kn ≠ 0 ∧ opL xs kn = [] ∧ dsL xs kn = [] ∧ ∀ q, cmB xs kn q = false ∧ dvB xs kn q = false ∧ scB xs kn q = false) ∨
    (knC xs kn = 0 ∧ opL xs kn = openL xs kn ∧ dsL xs kn = plcs (dvF xs kn) ∧ ∀ q, cmB xs kn q = flg (canL xs (isIn kn)) q ∧ dvB xs kn q = flg (dvF xs kn) q ∧ scB xs kn q = (btw q 0 ((xs.length : Int) - 1) && !flg (dvF xs kn) q)) := by
  unfold opL dsL cmB dvB scB
  by_cases h : knC xs kn = 0
  · exact .inr ⟨h, by rw [if_pos h], by rw [if_pos h], fun q => by simp [h]⟩
  · exact .inl ⟨h, by rw [if_neg h], by rw [if_neg h], fun q => by simp [h]⟩

theorem open_is {xs : List T4} {kn : List Int} (h : knC xs kn = 0) {M : List Bool} (hO : IsOpen xs kn (plcs M)) : plcs M = openL xs kn := by
  obtain ⟨h1, _, h3, h4⟩ := knC_zero h
  exact openL_is (tfC_ahead h1) h4 h3 hO

theorem open_dv {xs : List T4} {kn : List Int} (h : knC xs kn = 0) {M : List Bool} (hO : IsOpen xs kn (plcs M)) : canL xs (flg M) = dvF xs kn := by
  unfold dvF
  rw [← open_is h hO, isIn_plcs]

theorem dvF_len (xs : List T4) (kn : List Int) : (dvF xs kn).length = xs.length := by unfold dvF; rw [canL_len]

theorem build_kr0 (k : Int) (w : World) : (Instr.build 29 #[(0, .int .i64 k)]).run Try.prog w = .ok (.agg #[.int .i64 k, .slice none 0 0]) w := run_build w 29 _ _ (by kernel_rfl)

theorem build_kr1 (c : Option Addr) (n d : Nat) (w : World) : (Instr.build 29 #[(1, .slice c n d)]).run Try.prog w = .ok (.agg #[.int .i64 0, .slice c n d]) w := run_build w 29 _ _ (by kernel_rfl)

theorem own_apart {w : World} {base : Nat} {a : Option Addr} {cap : Nat} {zs : List Int} {B : Nat} (h : Own .i64 2 w base a cap zs) (hB : ∀ b : Addr, a = some b → b.block ≠ B) (o : Nat) (vs : List Value) : Own .i64 2 (w.setCells B o vs) base a cap zs :=
  h.sm (X := fun k => k = B) (Sm.cells (X := fun k => k = B) (B := B) rfl o vs) (fun b hb e => hB b hb e)

variable (a : Option Addr) (n ca : Nat) (xs : List T4) (a2 : Option Addr) (n2 ca2 : Nat) (kn : List Int)

set_option maxHeartbeats 2000000 in
theorem derivedOf_no (w : World) (ha : RdTerm w a xs) (hn : xs.length = n) (hx : n ≤ maxLen) (hok : ∀ t ∈ xs, okT t) (ha2 : Rd .i64 w a2 kn) (hn2 : kn.length = n2) (hx2 : n2 ≤ maxLen) (h : knC xs kn ≠ 0) :
    Calls Try.prog 43 #[.slice a n ca, .slice a2 n2 ca2] w fun e w' => e = .returned (.tuple #[.slice none 0 0, .int .i64 (knC xs kn)]) ∧ Below w.heap.size w w' := by
  have CK := Hid.mk (knOf_no a n ca xs a2 n2 ca2 kn w ha hn hx hok ha2 hn2 hx2 h)
  have h2 : (knC xs kn != 0) = true := by simp [h]
  clear ha ha2 h
  generalize knC xs kn = kk at *
  go_enter Try.func43, Try.ntmps43
  go_wp2_with fail
  refine CK.out.mono ?_
  rintro e w1 ⟨rfl, b1⟩
  go_wp2
  refine bodyPost_ret (v := .tuple #[.slice none 0 0, .int .i64 kk]) (by simp [results, Try.results43, go_sem]) rfl ⟨rfl, b1⟩

set_option maxHeartbeats 2000000 in
theorem derivedOf_yes (w : World) (ha : RdTerm w a xs) (hn : xs.length = n) (hx : n ≤ maxLen) (hok : ∀ t ∈ xs, okT t) (ha2 : Rd .i64 w a2 kn) (hn2 : kn.length = n2) (hx2 : n2 ≤ maxLen) (h : knC xs kn = 0) :
    Calls Try.prog 43 #[.slice a n ca, .slice a2 n2 ca2] w fun e w' => ∃ Q2, e = .returned (.tuple #[.slice (some ⟨Q2, 0, none⟩) n n, .int .i64 0]) ∧ Fl w' w.heap.size Q2 n (dvF xs kn) ∧ Below w.heap.size w w' := by
  have CK := Hid.mk (knOf_yes a n ca xs a2 n2 ca2 kn w ha hn hx hok ha2 hn2 hx2 h)
  obtain ⟨ht, _, hpl, hri⟩ := knC_zero h
  have hw0 : Way xs kn (mrk n kn) := hn ▸ Way.start hpl
  have CO := Hid.mk (fun base kb p g c d Q w H => openAll_ok base kb p g c d Q n xs kn (mrk n kn) w H hn ht hw0)
  have CM := Hid.mk (fun base kb p g c d Q M w H => makeable_ok base kb p g c d Q n xs M w H hn ht)
  have hdv := Hid.mk (fun M => open_dv (xs := xs) (kn := kn) h (M := M))
  clear ha ha2
  go_enter Try.func43, Try.ntmps43
  go_wp2_with fail
  refine CK.out.mono ?_
  rintro e w1 ⟨kb, p, g, c, d, Q, rfl, HK, b1⟩
  clear CK
  go_wp2_with fail
  refine (CO.out _ _ _ _ _ _ _ _ HK).mono ?_
  rintro e w2 ⟨rfl, M2, HK2, hO, hS⟩
  have b2 := hS.below' b1 b1.size (fun k e => by subst e; exact HK.f.lt.1)
  clear HK hS
  go_wp2_with fail
  refine (CM.out _ _ _ _ _ _ _ _ _ HK2).mono ?_
  rintro e w3 ⟨Q2, rfl, hF, b3⟩
  rw [hdv.out _ hO] at hF
  have hF2 := hF.mono b2.size
  have b4 := thenB b2 b3
  clear HK2 hF b3 b2 b1
  go_wp2
  refine bodyPost_ret (v := .tuple #[.slice (some ⟨Q2, 0, none⟩) n n, .int .i64 0]) (by simp [results, Try.results43, go_sem]) rfl ⟨Q2, rfl, hF2, b4⟩

set_option maxHeartbeats 2000000 in
theorem implKnownFault_ok (w : World) (ha : RdTerm w a xs) (hn : xs.length = n) (hx : n ≤ maxLen) (hok : ∀ t ∈ xs, okT t) (ha2 : Rd .i64 w a2 kn) (hn2 : kn.length = n2) (hx2 : n2 ≤ maxLen) :
    Calls Try.prog 26 #[.slice a n ca, .slice a2 n2 ca2] w fun e w' => e = .returned (.int .i64 (knC xs kn)) ∧ Below w.heap.size w w' := by
  have CK := Hid.mk (knowledgeOf_ok a n ca xs a2 n2 ca2 kn w ha hn hx hok ha2 hn2 hx2)
  clear ha ha2
  go_enter Try.func26, Try.ntmps26
  go_wp2_with fail
  refine CK.out.mono ?_
  rintro e w1 ⟨v, k, rfl, hk, b1, hv⟩
  clear hv
  go_wp2
  go_ret
  subst hk
  exact ⟨rfl, b1⟩

set_option maxHeartbeats 2000000 in
theorem implCanMake_ok (q : Int) (w : World) (ha : RdTerm w a xs) (hn : xs.length = n) (hx : n ≤ maxLen) (hok : ∀ t ∈ xs, okT t) (ha2 : Rd .i64 w a2 kn) (hn2 : kn.length = n2) (hx2 : n2 ≤ maxLen) :
    Calls Try.prog 30 #[.slice a n ca, .slice a2 n2 ca2, .int .i64 q] w fun e w' => e = .returned (.bool (cmB xs kn q)) ∧ Below w.heap.size w w' := by
  rcases kn_ways xs kn with ⟨h, _, _, hb⟩ | ⟨h, _, _, hb⟩
  · have CK := Hid.mk (knOf_no a n ca xs a2 n2 ca2 kn w ha hn hx hok ha2 hn2 hx2 h)
    rw [(hb q).1]
    have h2 : (knC xs kn == 0) = false := by simp [h]
    clear ha ha2 h hb
    generalize knC xs kn = kk at *
    go_enter Try.func30, Try.ntmps30
    go_wp2_with fail
    refine CK.out.mono ?_
    rintro e w1 ⟨rfl, b1⟩
    go_wp2
    go_ret
    exact ⟨rfl, b1⟩
  · have CK := Hid.mk (knOf_yes a n ca xs a2 n2 ca2 kn w ha hn hx hok ha2 hn2 hx2 h)
    rw [(hb q).1]
    obtain ⟨ht, _, hpl, hri⟩ := knC_zero h
    have hn4 : n ≤ 400 := by have := (tfC_zero ht).1; omega
    have CM := Hid.mk (fun base kb p g c d Q M w H => makeable_ok base kb p g c d Q n xs M w H hn ht)
    have CH := Hid.mk (fun base Q M w h => has_ok base Q n M q w h (by omega))
    have hfl := mrk_isIn (n := n) (l := kn) (fun z hz => by have := hpl z hz; omega)
    rw [← hfl]
    clear ha ha2 h hb hfl
    go_enter Try.func30, Try.ntmps30
    go_wp2_with fail
    refine CK.out.mono ?_
    rintro e w1 ⟨kb, p, g, c, d, Q, rfl, HK, b1⟩
    clear CK
    go_wp2_with fail
    refine (CM.out _ _ _ _ _ _ _ _ _ HK).mono ?_
    rintro e w3 ⟨Q2, rfl, hF, b3⟩
    go_wp2_with fail
    refine (CH.out _ _ _ _ hF).mono ?_
    rintro e w4 ⟨rfl, rfl⟩
    go_wp2
    go_ret
    exact ⟨rfl, thenB b1 b3⟩

set_option maxHeartbeats 2000000 in
theorem implDerives_ok (q : Int) (w : World) (ha : RdTerm w a xs) (hn : xs.length = n) (hx : n ≤ maxLen) (hok : ∀ t ∈ xs, okT t) (ha2 : Rd .i64 w a2 kn) (hn2 : kn.length = n2) (hx2 : n2 ≤ maxLen) :
    Calls Try.prog 19 #[.slice a n ca, .slice a2 n2 ca2, .int .i64 q] w fun e w' => e = .returned (.bool (dvB xs kn q)) ∧ Below w.heap.size w w' := by
  rcases kn_ways xs kn with ⟨h, _, _, hb⟩ | ⟨h, _, _, hb⟩
  · have CK := Hid.mk (derivedOf_no a n ca xs a2 n2 ca2 kn w ha hn hx hok ha2 hn2 hx2 h)
    rw [(hb q).2.1]
    have h2 : (knC xs kn == 0) = false := by simp [h]
    clear ha ha2 h hb
    generalize knC xs kn = kk at *
    go_enter Try.func19, Try.ntmps19
    go_wp2_with fail
    refine CK.out.mono ?_
    rintro e w1 ⟨rfl, b1⟩
    go_wp2
    go_ret
    exact ⟨rfl, b1⟩
  · have CK := Hid.mk (derivedOf_yes a n ca xs a2 n2 ca2 kn w ha hn hx hok ha2 hn2 hx2 h)
    rw [(hb q).2.1]
    have hn4 : n ≤ 400 := by have := (tfC_zero (knC_zero h).1).1; omega
    have CH := Hid.mk (fun base Q M w h => has_ok base Q n M q w h (by omega))
    clear ha ha2 h hb
    go_enter Try.func19, Try.ntmps19
    go_wp2_with fail
    refine CK.out.mono ?_
    rintro e w1 ⟨Q2, rfl, hF, b1⟩
    go_wp2_with fail
    refine (CH.out _ _ _ _ hF).mono ?_
    rintro e w4 ⟨rfl, rfl⟩
    go_wp2
    go_ret
    exact ⟨rfl, b1⟩

set_option maxHeartbeats 2000000 in
theorem implIsSecret_ok (q : Int) (w : World) (ha : RdTerm w a xs) (hn : xs.length = n) (hx : n ≤ maxLen) (hok : ∀ t ∈ xs, okT t) (ha2 : Rd .i64 w a2 kn) (hn2 : kn.length = n2) (hx2 : n2 ≤ maxLen) :
    Calls Try.prog 20 #[.slice a n ca, .slice a2 n2 ca2, .int .i64 q] w fun e w' => e = .returned (.bool (scB xs kn q)) ∧ Below w.heap.size w w' := by
  rcases kn_ways xs kn with ⟨h, _, _, hb⟩ | ⟨h, _, _, hb⟩
  · have CK := Hid.mk (derivedOf_no a n ca xs a2 n2 ca2 kn w ha hn hx hok ha2 hn2 hx2 h)
    rw [(hb q).2.2]
    have h2 : (knC xs kn == 0) = false := by simp [h]
    clear ha ha2 h hb
    generalize knC xs kn = kk at *
    go_enter Try.func20, Try.ntmps20
    go_wp2_with fail
    refine CK.out.mono ?_
    rintro e w1 ⟨rfl, b1⟩
    go_wp2
    go_ret
    exact ⟨rfl, b1⟩
  · have CK := Hid.mk (derivedOf_yes a n ca xs a2 n2 ca2 kn w ha hn hx hok ha2 hn2 hx2 h)
    rw [(hb q).2.2, hn]
    have hn4 : n ≤ 400 := by have := (tfC_zero (knC_zero h).1).1; omega
    have CH := Hid.mk (fun base Q M w h => has_ok base Q n M q w h (by omega))
    have CP := Hid.mk (fun w c2 d2 h => arePlaces_one a n ca c2 d2 q w hx h)
    clear ha ha2 h hb
    go_enter Try.func20, Try.ntmps20
    go_wp2_with fail
    refine CK.out.mono ?_
    rintro e w1 ⟨Q2, rfl, hF, b1⟩
    have hR := (OwnI.lit w1 [q] [.int .i64 q] rfl (by unfold maxLen; simp)).rd
    have b2 := belowA w1 (.cells #[.int .i64 q] 2)
    have hF2 := hF.kept b2
    go_wp2_with fail
    refine (CP.out _ _ _ hR).mono ?_
    rintro e w4 ⟨rfl, rfl⟩
    cases hq : btw q 0 ((n : Int) - 1)
    · go_wp2
      go_ret
      exact ⟨ret_bool (by simp [hq]), thenB b1 b2⟩
    · go_wp2_with fail
      refine (CH.out _ _ _ _ hF2).mono ?_
      rintro e w4 ⟨rfl, rfl⟩
      go_wp2
      go_ret
      exact ⟨ret_bool (by simp [hq]), thenB b1 b2⟩

set_option maxRecDepth 20000 in
set_option maxHeartbeats 4000000 in
theorem implOpenAll_ok (w : World) (ha : RdTerm w a xs) (hn : xs.length = n) (hx : n ≤ maxLen) (hok : ∀ t ∈ xs, okT t) (ha2 : Rd .i64 w a2 kn) (hn2 : kn.length = n2) (hx2 : n2 ≤ maxLen) :
    Calls Try.prog 13 #[.slice a n ca, .slice a2 n2 ca2] w fun e w' => ∃ c d k, e = .returned (.agg #[.int .i64 (knC xs kn), .slice c k d]) ∧ (opL xs kn).length = k ∧ Own .i64 2 w' w.heap.size c d (opL xs kn) ∧ Below w.heap.size w w' := by
  have q1 := build_kr0
  have q2 := build_kr1
  rcases kn_ways xs kn with ⟨h, hop, hds, -⟩ | ⟨h, hop, hds, -⟩
  · rw [hop]
    have h2 : (knC xs kn != 0) = true := by simp [h]
    have CK := Hid.mk (fun w ha ha2 => knOf_no a n ca xs a2 n2 ca2 kn w ha hn hx hok ha2 hn2 hx2 h)
    clear h hop hds
    generalize knC xs kn = kk at *
    go_enter Try.func13, Try.ntmps13
    have B := Below.refl w.heap.size w
    replace ha := ha.kept (belowA w (.cells #[.int .i64 0, .slice none 0 0] 29))
    replace ha2 := ha2.kept (belowA w (.cells #[.int .i64 0, .slice none 0 0] 29))
    replace B := thenB B (belowA w (.cells #[.int .i64 0, .slice none 0 0] 29))
    have VR := V.new w [.int .i64 0, .slice none 0 0] 29
    obtain ⟨s_VR, f_VR, z_VR⟩ := VR.open
    have Bo := B
    go_wp2_with fail
    refine (CK.out _ ha ha2).mono ?_
    rintro e w201 ⟨rfl, b201⟩
    clear s_VR f_VR z_VR
    have S201 := b201.size
    simp only [World.size_alloc] at S201
    replace VR := VR.kept b201
    replace ha := ha.kept b201
    replace ha2 := ha2.kept b201
    replace B := thenB B b201
    clear b201
    obtain ⟨s_VR, f_VR, z_VR⟩ := VR.open
    have Bo := B
    clear s_VR f_VR z_VR
    have VF := Hid.mk (VR.filled [.int .i64 kk, .slice none 0 0] rfl)
    have HT := Hid.mk VR.there
    have BR := belowCells B (show w.heap.size ≤ w.heap.size by (first | omega | (simp; done) | (simp; omega))) 0 [.int .i64 kk, .slice none 0 0]
    replace BR := Hid.mk BR
    obtain ⟨s_VR, f_VR, z_VR⟩ := VR.open
    go_wp2_with (refine wpList_store_mid rfl 29 _ _ rfl (w.heap.size) 0 #[.int .i64 kk, .slice none 0 0] rfl rfl HT.out (by kernel_rfl) (by kernel_rfl) ?_)
    refine bodyPost_ret (v := .agg #[.int .i64 kk, .slice none 0 0]) (results_row Try.results13 _ _ (w.heap.size) [.int .i64 kk, .slice none 0 0] _ rfl VF.out Try.underlying29 rfl (by kernel_rfl)) rfl ⟨none, 0, 0, rfl, rfl, own_none, BR.out⟩
  · rw [hop, h]
    obtain ⟨ht, _, hpl, hri⟩ := knC_zero h
    have hn4 : n ≤ 400 := by have := (tfC_zero ht).1; omega
    have CK := Hid.mk (fun w ha ha2 => knOf_yes a n ca xs a2 n2 ca2 kn w ha hn hx hok ha2 hn2 hx2 h)
    have CR := Hid.mk (fun base Q M w h => rising_ok base Q n hn4 M w h)
    have hw0 : Way xs kn (mrk n kn) := hn ▸ Way.start hpl
    have CO := Hid.mk (fun base kb p g c d Q w H => openAll_ok base kb p g c d Q n xs kn (mrk n kn) w H hn ht hw0)
    have hop2 := Hid.mk (fun M => open_is (xs := xs) (kn := kn) h (M := M))
    clear h hop hds
    go_enter Try.func13, Try.ntmps13
    have B := Below.refl w.heap.size w
    replace ha := ha.kept (belowA w (.cells #[.int .i64 0, .slice none 0 0] 29))
    replace ha2 := ha2.kept (belowA w (.cells #[.int .i64 0, .slice none 0 0] 29))
    replace B := thenB B (belowA w (.cells #[.int .i64 0, .slice none 0 0] 29))
    have VR := V.new w [.int .i64 0, .slice none 0 0] 29
    obtain ⟨s_VR, f_VR, z_VR⟩ := VR.open
    have Bo := B
    go_wp2_with fail
    refine (CK.out _ ha ha2).mono ?_
    rintro e w221 ⟨kb, p, g, c, d, Q, rfl, HK, b221⟩
    clear s_VR f_VR z_VR
    have S221 := b221.size
    simp only [World.size_alloc] at S221
    replace VR := VR.kept b221
    replace ha := ha.kept b221
    replace ha2 := ha2.kept b221
    replace B := thenB B b221
    clear b221
    obtain ⟨s_VR, f_VR, z_VR⟩ := VR.open
    have Bo := B
    clear s_VR f_VR z_VR
    have HKl := HK.f.lt.1
    simp only [World.size_alloc] at HKl
    go_wp2_with fail
    refine (CO.out _ _ _ _ _ _ _ _ HK).mono ?_
    rintro e w230 ⟨rfl, M2, HK2, hO, hS⟩
    replace VR := VR.sm hS (fun e => by omega)
    replace B := hS.below' B B.size (fun k e => by subst e; omega)
    have Sz := hS.size
    have hE := Hid.mk (hop2.out _ hO)
    have VK := HK2.v
    have hF := HK2.f
    rw [hn] at VK hF
    clear HK HK2 hS ha ha2
    obtain ⟨s_VR, f_VR, z_VR⟩ := VR.open
    obtain ⟨s_VK, f_VK, z_VK⟩ := VK.open
    have Bo := B
    go_wp2_with fail
    refine (CR.out _ _ _ _ hF).mono ?_
    rintro e w222 ⟨c4, k4, d4, rfl, hk, O, b222⟩
    clear s_VR f_VR z_VR s_VK f_VK z_VK
    have S222 := b222.size
    replace VR := VR.kept b222
    replace VK := VK.kept b222
    replace B := thenB B b222
    clear b222
    obtain ⟨s_VR, f_VR, z_VR⟩ := VR.open
    obtain ⟨s_VK, f_VK, z_VK⟩ := VK.open
    have Bo := B
    have OL := fun b hb => (O.lt b hb).1
    rw [hE.out] at hk O
    replace hk := Hid.mk hk
    clear s_VR f_VR z_VR s_VK f_VK z_VK
    have VF := Hid.mk (VR.filled [.int .i64 0, .slice c4 k4 d4] rfl)
    have HT := Hid.mk VR.there
    have BR := belowCells B (show w.heap.size ≤ w.heap.size by (first | omega | (simp; done) | (simp; omega))) 0 [.int .i64 0, .slice c4 k4 d4]
    replace BR := Hid.mk BR
    have BS := B.size
    have HO := Hid.mk (own_apart (B := w.heap.size) (O.mono (base' := w.heap.size) (by omega)) (fun b hb => by have := OL b hb; omega) 0 [.int .i64 0, .slice c4 k4 d4])
    obtain ⟨s_VR, f_VR, z_VR⟩ := VR.open
    obtain ⟨s_VK, f_VK, z_VK⟩ := VK.open
    go_wp2_with (refine wpList_store_mid rfl 29 _ _ rfl (w.heap.size) 0 #[.int .i64 0, .slice c4 k4 d4] rfl rfl HT.out (by kernel_rfl) (by kernel_rfl) ?_)
    refine bodyPost_ret (v := .agg #[.int .i64 0, .slice c4 k4 d4]) (results_row Try.results13 _ _ (w.heap.size) [.int .i64 0, .slice c4 k4 d4] _ rfl VF.out Try.underlying29 rfl (by kernel_rfl)) rfl ⟨_, d4, k4, rfl, hk.out, HO.out, BR.out⟩

set_option maxRecDepth 20000 in
set_option maxHeartbeats 4000000 in
theorem implDerivesSome_ok (w : World) (ha : RdTerm w a xs) (hn : xs.length = n) (hx : n ≤ maxLen) (hok : ∀ t ∈ xs, okT t) (ha2 : Rd .i64 w a2 kn) (hn2 : kn.length = n2) (hx2 : n2 ≤ maxLen) :
    Calls Try.prog 15 #[.slice a n ca, .slice a2 n2 ca2] w fun e w' => ∃ c d k, e = .returned (.agg #[.int .i64 (knC xs kn), .slice c k d]) ∧ (dsL xs kn).length = k ∧ Own .i64 2 w' w.heap.size c d (dsL xs kn) ∧ Below w.heap.size w w' := by
  have q1 := build_kr0
  have q2 := build_kr1
  rcases kn_ways xs kn with ⟨h, hop, hds, -⟩ | ⟨h, hop, hds, -⟩
  · rw [hds]
    have h2 : (knC xs kn != 0) = true := by simp [h]
    have CK := Hid.mk (fun w ha ha2 => derivedOf_no a n ca xs a2 n2 ca2 kn w ha hn hx hok ha2 hn2 hx2 h)
    clear h hop hds
    generalize knC xs kn = kk at *
    go_enter Try.func15, Try.ntmps15
    have B := Below.refl w.heap.size w
    replace ha := ha.kept (belowA w (.cells #[.int .i64 0, .slice none 0 0] 29))
    replace ha2 := ha2.kept (belowA w (.cells #[.int .i64 0, .slice none 0 0] 29))
    replace B := thenB B (belowA w (.cells #[.int .i64 0, .slice none 0 0] 29))
    have VR := V.new w [.int .i64 0, .slice none 0 0] 29
    obtain ⟨s_VR, f_VR, z_VR⟩ := VR.open
    have Bo := B
    go_wp2_with fail
    refine (CK.out _ ha ha2).mono ?_
    rintro e w201 ⟨rfl, b201⟩
    clear s_VR f_VR z_VR
    have S201 := b201.size
    simp only [World.size_alloc] at S201
    replace VR := VR.kept b201
    replace ha := ha.kept b201
    replace ha2 := ha2.kept b201
    replace B := thenB B b201
    clear b201
    obtain ⟨s_VR, f_VR, z_VR⟩ := VR.open
    have Bo := B
    clear s_VR f_VR z_VR
    have VF := Hid.mk (VR.filled [.int .i64 kk, .slice none 0 0] rfl)
    have HT := Hid.mk VR.there
    have BR := belowCells B (show w.heap.size ≤ w.heap.size by (first | omega | (simp; done) | (simp; omega))) 0 [.int .i64 kk, .slice none 0 0]
    replace BR := Hid.mk BR
    obtain ⟨s_VR, f_VR, z_VR⟩ := VR.open
    go_wp2_with (refine wpList_store_mid rfl 29 _ _ rfl (w.heap.size) 0 #[.int .i64 kk, .slice none 0 0] rfl rfl HT.out (by kernel_rfl) (by kernel_rfl) ?_)
    refine bodyPost_ret (v := .agg #[.int .i64 kk, .slice none 0 0]) (results_row Try.results15 _ _ (w.heap.size) [.int .i64 kk, .slice none 0 0] _ rfl VF.out Try.underlying29 rfl (by kernel_rfl)) rfl ⟨none, 0, 0, rfl, rfl, own_none, BR.out⟩
  · rw [hds, h]
    obtain ⟨ht, _, hpl, hri⟩ := knC_zero h
    have hn4 : n ≤ 400 := by have := (tfC_zero ht).1; omega
    have CK := Hid.mk (fun w ha ha2 => derivedOf_yes a n ca xs a2 n2 ca2 kn w ha hn hx hok ha2 hn2 hx2 h)
    have CR := Hid.mk (fun base Q M w h => rising_ok base Q n hn4 M w h)
    rw [show dvF xs kn = dvF xs kn from rfl]
    clear h hop hds
    go_enter Try.func15, Try.ntmps15
    have B := Below.refl w.heap.size w
    replace ha := ha.kept (belowA w (.cells #[.int .i64 0, .slice none 0 0] 29))
    replace ha2 := ha2.kept (belowA w (.cells #[.int .i64 0, .slice none 0 0] 29))
    replace B := thenB B (belowA w (.cells #[.int .i64 0, .slice none 0 0] 29))
    have VR := V.new w [.int .i64 0, .slice none 0 0] 29
    obtain ⟨s_VR, f_VR, z_VR⟩ := VR.open
    have Bo := B
    go_wp2_with fail
    refine (CK.out _ ha ha2).mono ?_
    rintro e w221 ⟨Q2, rfl, hF, b221⟩
    clear s_VR f_VR z_VR
    have S221 := b221.size
    simp only [World.size_alloc] at S221
    replace VR := VR.kept b221
    replace ha := ha.kept b221
    replace ha2 := ha2.kept b221
    replace B := thenB B b221
    clear b221
    obtain ⟨s_VR, f_VR, z_VR⟩ := VR.open
    have Bo := B
    go_wp2_with fail
    refine (CR.out _ _ _ _ hF).mono ?_
    rintro e w222 ⟨c4, k4, d4, rfl, hk, O, b222⟩
    clear s_VR f_VR z_VR
    have S222 := b222.size
    replace VR := VR.kept b222
    replace ha := ha.kept b222
    replace ha2 := ha2.kept b222
    replace B := thenB B b222
    clear b222
    obtain ⟨s_VR, f_VR, z_VR⟩ := VR.open
    have Bo := B
    have OL := fun b hb => (O.lt b hb).1
    replace hk := Hid.mk hk
    clear s_VR f_VR z_VR
    have VF := Hid.mk (VR.filled [.int .i64 0, .slice c4 k4 d4] rfl)
    have HT := Hid.mk VR.there
    have BR := belowCells B (show w.heap.size ≤ w.heap.size by (first | omega | (simp; done) | (simp; omega))) 0 [.int .i64 0, .slice c4 k4 d4]
    replace BR := Hid.mk BR
    have BS := B.size
    have HO := Hid.mk (own_apart (B := w.heap.size) (O.mono (base' := w.heap.size) (by omega)) (fun b hb => by have := OL b hb; omega) 0 [.int .i64 0, .slice c4 k4 d4])
    obtain ⟨s_VR, f_VR, z_VR⟩ := VR.open
    go_wp2_with (refine wpList_store_mid rfl 29 _ _ rfl (w.heap.size) 0 #[.int .i64 0, .slice c4 k4 d4] rfl rfl HT.out (by kernel_rfl) (by kernel_rfl) ?_)
    refine bodyPost_ret (v := .agg #[.int .i64 0, .slice c4 k4 d4]) (results_row Try.results15 _ _ (w.heap.size) [.int .i64 0, .slice c4 k4 d4] _ rfl VF.out Try.underlying29 rfl (by kernel_rfl)) rfl ⟨_, d4, k4, rfl, hk.out, HO.out, BR.out⟩
end

section
open Go.RowKit

/-- The places that are marked among the first k. -/
@[irreducible] def plK (C : List Bool) (k : Nat) : List Int := ((List.range k).filter fun i => C.getD i false).map fun (i : Nat) => (i : Int)

theorem plK_zero (C : List Bool) : plK C 0 = [] := by unfold plK; rfl

theorem plK_yes {C : List Bool} {k : Nat} (h : C.getD k false = true) : plK C (k + 1) = plK C k ++ [(k : Int)] := by
  unfold plK; rw [List.range_succ, List.filter_append, List.map_append, List.filter_cons_of_pos (by exact h)]; rfl

theorem plK_no {C : List Bool} {k : Nat} (h : C.getD k false = false) : plK C (k + 1) = plK C k := by
  unfold plK; rw [List.range_succ, List.filter_append, List.map_append, List.filter_cons_of_neg (by rw [h]; decide)]; simp

theorem plK_all (C : List Bool) : plK C C.length = plcs C := by unfold plK plcs; rfl

theorem plK_len (C : List Bool) (k : Nat) : (plK C k).length ≤ k := by
  unfold plK
  rw [List.length_map]
  exact Nat.le_trans (List.length_filter_le _ _) (by simp)

theorem flg_at {C : List Bool} {q : Int} (h0 : 0 ≤ q) : flg C q = C.getD q.toNat false := by unfold flg; simp [h0]

theorem flg_off {C : List Bool} {q : Int} {n : Nat} (hl : C.length = n) (h : btw q 0 ((n : Int) - 1) = false) : flg C q = false := flg_btw (by rw [hl]; exact h)

variable (a : Option Addr) (n ca : Nat) (xs : List T4) (a2 : Option Addr) (n2 ca2 : Nat) (kn : List Int)

set_option maxHeartbeats 2000000 in
theorem l6Derives_ok (w : World) (ha : RdTerm w a xs) (hn : xs.length = n) (ha2 : Rd .i64 w a2 kn) (hn2 : kn.length = n2) (hc2 : a2 = none → ca2 = 0) (hk0 : knC xs kn = 0) :
    Calls Try.prog 44 #[.slice a n ca, .slice a2 n2 ca2] w fun e w' => ∃ Q, e = .returned (.slice (some ⟨Q, 0, none⟩) n n) ∧ Fl w' w.heap.size Q n (dvF xs kn) ∧ Below w.heap.size w w' := by
  obtain ⟨ht, _, hpl, hri⟩ := knC_zero hk0
  have hn4 : n ≤ 400 := by have := (tfC_zero ht).1; omega
  have hO := openL_open (tfC_ahead ht) hri hpl
  have CO := Hid.mk (l6Open_ok a n ca xs a2 n2 ca2 kn w ha hn ha2 hn2 hc2 hk0)
  have CM := Hid.mk (fun g d k w' (R : Rd .i64 w' (some ⟨g, 0, none⟩) (openL xs kn)) (hk : (openL xs kn).length = k) ha' => l6Make_ok a n ca xs (some ⟨g, 0, none⟩) k d (openL xs kn) w' ha' hn ht R hk (by have := hO.way.len; omega) (fun z hz => by have := hO.way.places z hz; omega))
  replace ha := Hid.mk ha
  have hdv : canL xs (isIn (openL xs kn)) = dvF xs kn := by unfold dvF; rfl
  rw [hdv] at CM
  clear ha2 hO hdv
  go_enter Try.func44, Try.ntmps44
  go_wp2_with fail
  refine CO.out.mono ?_
  rintro e w1 ⟨g, d, k, rfl, hk, O, b1⟩
  go_wp2_with fail
  refine (CM.out _ _ _ _ O.rd hk (ha.out.kept b1)).mono ?_
  rintro e w2 ⟨Q, rfl, hF, b2⟩
  go_wp2
  go_ret
  exact ⟨Q, rfl, hF.mono b1.size, thenB b1 b2⟩

set_option maxHeartbeats 2000000 in
theorem specCanMake_ok (q : Int) (w : World) (ha : RdTerm w a xs) (hn : xs.length = n) (hx : n ≤ maxLen) (hca : n ≤ ca) (ha2 : Rd .i64 w a2 kn) (hn2 : kn.length = n2) (hx2 : n2 ≤ maxLen) (_hc2 : a2 = none → ca2 = 0) :
    Calls Try.prog 29 #[.slice a n ca, .slice a2 n2 ca2, .int .i64 q] w fun e w' => e = .returned (.bool (cmB xs kn q)) ∧ Below w.heap.size w w' := by
  have CK := Hid.mk (specKnownFault_ok a n ca xs a2 n2 ca2 kn w ha hn hx hca ha2 hn2 hx2)
  rcases kn_ways xs kn with ⟨h, _, _, hb⟩ | ⟨h, _, _, hb⟩
  · rw [(hb q).1]
    have h2 : (knC xs kn == 0) = false := by simp [h]
    clear ha ha2 h hb
    generalize knC xs kn = kk at *
    go_enter Try.func29, Try.ntmps29
    go_wp2_with fail
    refine CK.out.mono ?_
    rintro e w1 ⟨rfl, b1⟩
    go_wp2
    go_ret
    exact ⟨rfl, b1⟩
  · rw [(hb q).1]
    rw [h] at CK
    obtain ⟨ht, hk4, hpl, hri⟩ := knC_zero h
    have hn4 : n ≤ 400 := by have := (tfC_zero ht).1; omega
    have CA := Hid.mk (fun w => l5At_ok a n ca q w hx)
    have CM := Hid.mk (fun w ha ha2 => l6Make_ok a n ca xs a2 n2 ca2 kn w ha hn ht ha2 hn2 (by omega) (fun z hz => by have := hpl z hz; omega))
    have hLen : (canL xs (isIn kn)).length = n := by rw [canL_len, hn]
    replace ha := Hid.mk ha
    replace ha2 := Hid.mk ha2
    clear h hb
    cases hq : btw q 0 ((n : Int) - 1)
    · have hr := flg_off hLen hq
      rw [hr]
      skip
      rw [hq] at CA
      go_enter Try.func29, Try.ntmps29
      go_wp2_with fail
      refine CK.out.mono ?_
      rintro e w1 ⟨rfl, b1⟩
      go_wp2_with fail
      refine (CA.out _).mono ?_
      rintro e w2 ⟨rfl, rfl⟩
      go_wp2
      go_ret
      exact ⟨rfl, b1⟩
    · obtain ⟨h0, h1⟩ := btw_iff.1 hq
      obtain ⟨m, rfl⟩ := Int.eq_ofNat_of_zero_le h0
      have hm : m < n := by omega
      have hm1 : (m : Int) < (n : Int) := by omega
      rw [flg_nat]
      skip
      obtain ⟨v, hv⟩ : ∃ v, (canL xs (isIn kn)).getD m false = v := ⟨_, rfl⟩
      rw [hv]
      replace hv := Hid.mk hv
      rw [hq] at CA
      go_enter Try.func29, Try.ntmps29
      go_wp2_with fail
      refine CK.out.mono ?_
      rintro e w1 ⟨rfl, b1⟩
      go_wp2_with fail
      refine (CA.out _).mono ?_
      rintro e w2 ⟨rfl, rfl⟩
      go_wp2_with fail
      refine (CM.out _ (ha.out.kept b1) (ha2.out.kept b1)).mono ?_
      rintro e w3 ⟨Q, rfl, hF, b3⟩
      have p0 := hF.cell hm
      rw [hv.out] at p0
      have b4 := thenB b1 b3
      clear hF
      go_wp2
      go_ret
      exact ⟨rfl, b4⟩

set_option maxHeartbeats 2000000 in
theorem specDerives_ok (q : Int) (w : World) (ha : RdTerm w a xs) (hn : xs.length = n) (hx : n ≤ maxLen) (hca : n ≤ ca) (ha2 : Rd .i64 w a2 kn) (hn2 : kn.length = n2) (hx2 : n2 ≤ maxLen) (hc2 : a2 = none → ca2 = 0) :
    Calls Try.prog 36 #[.slice a n ca, .slice a2 n2 ca2, .int .i64 q] w fun e w' => e = .returned (.bool (dvB xs kn q)) ∧ Below w.heap.size w w' := by
  have CK := Hid.mk (specKnownFault_ok a n ca xs a2 n2 ca2 kn w ha hn hx hca ha2 hn2 hx2)
  rcases kn_ways xs kn with ⟨h, _, _, hb⟩ | ⟨h, _, _, hb⟩
  · rw [(hb q).2.1]
    have h2 : (knC xs kn == 0) = false := by simp [h]
    clear ha ha2 h hb
    generalize knC xs kn = kk at *
    go_enter Try.func36, Try.ntmps36
    go_wp2_with fail
    refine CK.out.mono ?_
    rintro e w1 ⟨rfl, b1⟩
    go_wp2
    go_ret
    exact ⟨rfl, b1⟩
  · rw [(hb q).2.1]
    rw [h] at CK
    obtain ⟨ht, hk4, hpl, hri⟩ := knC_zero h
    have hn4 : n ≤ 400 := by have := (tfC_zero ht).1; omega
    have CA := Hid.mk (fun w => l5At_ok a n ca q w hx)
    have CM := Hid.mk (fun w ha ha2 => l6Derives_ok a n ca xs a2 n2 ca2 kn w ha hn ha2 hn2 hc2 h)
    have hLen : (dvF xs kn).length = n := by rw [dvF_len, hn]
    replace ha := Hid.mk ha
    replace ha2 := Hid.mk ha2
    clear h hb
    cases hq : btw q 0 ((n : Int) - 1)
    · have hr := flg_off hLen hq
      rw [hr]
      skip
      rw [hq] at CA
      go_enter Try.func36, Try.ntmps36
      go_wp2_with fail
      refine CK.out.mono ?_
      rintro e w1 ⟨rfl, b1⟩
      go_wp2_with fail
      refine (CA.out _).mono ?_
      rintro e w2 ⟨rfl, rfl⟩
      go_wp2
      go_ret
      exact ⟨rfl, b1⟩
    · obtain ⟨h0, h1⟩ := btw_iff.1 hq
      obtain ⟨m, rfl⟩ := Int.eq_ofNat_of_zero_le h0
      have hm : m < n := by omega
      have hm1 : (m : Int) < (n : Int) := by omega
      rw [flg_nat]
      skip
      obtain ⟨v, hv⟩ : ∃ v, (dvF xs kn).getD m false = v := ⟨_, rfl⟩
      rw [hv]
      replace hv := Hid.mk hv
      rw [hq] at CA
      go_enter Try.func36, Try.ntmps36
      go_wp2_with fail
      refine CK.out.mono ?_
      rintro e w1 ⟨rfl, b1⟩
      go_wp2_with fail
      refine (CA.out _).mono ?_
      rintro e w2 ⟨rfl, rfl⟩
      go_wp2_with fail
      refine (CM.out _ (ha.out.kept b1) (ha2.out.kept b1)).mono ?_
      rintro e w3 ⟨Q, rfl, hF, b3⟩
      have p0 := hF.cell hm
      rw [hv.out] at p0
      have b4 := thenB b1 b3
      clear hF
      go_wp2
      go_ret
      exact ⟨rfl, b4⟩

set_option maxHeartbeats 2000000 in
theorem specIsSecret_ok (q : Int) (w : World) (ha : RdTerm w a xs) (hn : xs.length = n) (hx : n ≤ maxLen) (hca : n ≤ ca) (ha2 : Rd .i64 w a2 kn) (hn2 : kn.length = n2) (hx2 : n2 ≤ maxLen) (hc2 : a2 = none → ca2 = 0) :
    Calls Try.prog 37 #[.slice a n ca, .slice a2 n2 ca2, .int .i64 q] w fun e w' => e = .returned (.bool (scB xs kn q)) ∧ Below w.heap.size w w' := by
  have CK := Hid.mk (specKnownFault_ok a n ca xs a2 n2 ca2 kn w ha hn hx hca ha2 hn2 hx2)
  rcases kn_ways xs kn with ⟨h, _, _, hb⟩ | ⟨h, _, _, hb⟩
  · rw [(hb q).2.2]
    have h2 : (knC xs kn == 0) = false := by simp [h]
    clear ha ha2 h hb
    generalize knC xs kn = kk at *
    go_enter Try.func37, Try.ntmps37
    go_wp2_with fail
    refine CK.out.mono ?_
    rintro e w1 ⟨rfl, b1⟩
    go_wp2
    go_ret
    exact ⟨rfl, b1⟩
  · rw [(hb q).2.2]
    rw [h] at CK
    obtain ⟨ht, hk4, hpl, hri⟩ := knC_zero h
    have hn4 : n ≤ 400 := by have := (tfC_zero ht).1; omega
    have CA := Hid.mk (fun w => l5At_ok a n ca q w hx)
    have CM := Hid.mk (fun w ha ha2 => l6Derives_ok a n ca xs a2 n2 ca2 kn w ha hn ha2 hn2 hc2 h)
    have hLen : (dvF xs kn).length = n := by rw [dvF_len, hn]
    replace ha := Hid.mk ha
    replace ha2 := Hid.mk ha2
    clear h hb
    cases hq : btw q 0 ((n : Int) - 1)
    · have hr := flg_off hLen hq
      rw [hr]
      rw [hn, hq]; simp only [Bool.false_and]
      rw [hq] at CA
      go_enter Try.func37, Try.ntmps37
      go_wp2_with fail
      refine CK.out.mono ?_
      rintro e w1 ⟨rfl, b1⟩
      go_wp2_with fail
      refine (CA.out _).mono ?_
      rintro e w2 ⟨rfl, rfl⟩
      go_wp2
      go_ret
      exact ⟨rfl, b1⟩
    · obtain ⟨h0, h1⟩ := btw_iff.1 hq
      obtain ⟨m, rfl⟩ := Int.eq_ofNat_of_zero_le h0
      have hm : m < n := by omega
      have hm1 : (m : Int) < (n : Int) := by omega
      rw [flg_nat]
      rw [hn, hq]; simp only [Bool.true_and]
      obtain ⟨v, hv⟩ : ∃ v, (dvF xs kn).getD m false = v := ⟨_, rfl⟩
      rw [hv]
      replace hv := Hid.mk hv
      rw [hq] at CA
      go_enter Try.func37, Try.ntmps37
      go_wp2_with fail
      refine CK.out.mono ?_
      rintro e w1 ⟨rfl, b1⟩
      go_wp2_with fail
      refine (CA.out _).mono ?_
      rintro e w2 ⟨rfl, rfl⟩
      go_wp2_with fail
      refine (CM.out _ (ha.out.kept b1) (ha2.out.kept b1)).mono ?_
      rintro e w3 ⟨Q, rfl, hF, b3⟩
      have p0 := hF.cell hm
      rw [hv.out] at p0
      have b4 := thenB b1 b3
      clear hF
      go_wp2
      go_ret
      exact ⟨rfl, b4⟩

theorem build_kr (w : World) : (Instr.build 29 #[]).run Try.prog w = .ok (.agg #[.int .i64 0, .slice none 0 0]) w := run_build w 29 _ _ (by kernel_rfl)

set_option maxRecDepth 20000 in
set_option maxHeartbeats 4000000 in
theorem specOpenAll_ok (w : World) (ha : RdTerm w a xs) (hn : xs.length = n) (hx : n ≤ maxLen) (hca : n ≤ ca) (ha2 : Rd .i64 w a2 kn) (hn2 : kn.length = n2) (hx2 : n2 ≤ maxLen) (hc2 : a2 = none → ca2 = 0) :
    Calls Try.prog 14 #[.slice a n ca, .slice a2 n2 ca2] w fun e w' => ∃ c d k, e = .returned (.agg #[.int .i64 (knC xs kn), .slice c k d]) ∧ (opL xs kn).length = k ∧ Own .i64 2 w' w.heap.size c d (opL xs kn) ∧ Below w.heap.size w w' := by
  have q1 := build_kr0
  have q2 := build_kr1
  have CK := Hid.mk (fun w ha ha2 => specKnownFault_ok a n ca xs a2 n2 ca2 kn w ha hn hx hca ha2 hn2 hx2)
  rcases kn_ways xs kn with ⟨h, hop, hds, -⟩ | ⟨h, hop, hds, -⟩
  · rw [hop]
    have h2 : (knC xs kn != 0) = true := by simp [h]
    clear h hop hds
    generalize knC xs kn = kk at *
    go_enter Try.func14, Try.ntmps14
    have B := Below.refl w.heap.size w
    replace ha := ha.kept (belowA w (.cells #[.int .i64 0, .slice none 0 0] 29))
    replace ha2 := ha2.kept (belowA w (.cells #[.int .i64 0, .slice none 0 0] 29))
    replace B := thenB B (belowA w (.cells #[.int .i64 0, .slice none 0 0] 29))
    have VR := V.new w [.int .i64 0, .slice none 0 0] 29
    obtain ⟨s_VR, f_VR, z_VR⟩ := VR.open
    have Bo := B
    go_wp2_with fail
    refine (CK.out _ ha ha2).mono ?_
    rintro e w201 ⟨rfl, b201⟩
    clear s_VR f_VR z_VR
    have S201 := b201.size
    simp only [World.size_alloc] at S201
    replace VR := VR.kept b201
    replace ha := ha.kept b201
    replace ha2 := ha2.kept b201
    replace B := thenB B b201
    clear b201
    obtain ⟨s_VR, f_VR, z_VR⟩ := VR.open
    have Bo := B
    clear s_VR f_VR z_VR
    have VF := Hid.mk (VR.filled [.int .i64 kk, .slice none 0 0] rfl)
    have HT := Hid.mk VR.there
    have BR := belowCells B (show w.heap.size ≤ w.heap.size by (first | omega | (simp; done) | (simp; omega))) 0 [.int .i64 kk, .slice none 0 0]
    replace BR := Hid.mk BR
    obtain ⟨s_VR, f_VR, z_VR⟩ := VR.open
    go_wp2_with (refine wpList_store_mid rfl 29 _ _ rfl (w.heap.size) 0 #[.int .i64 kk, .slice none 0 0] rfl rfl HT.out (by kernel_rfl) (by kernel_rfl) ?_)
    refine bodyPost_ret (v := .agg #[.int .i64 kk, .slice none 0 0]) (results_row Try.results14 _ _ (w.heap.size) [.int .i64 kk, .slice none 0 0] _ rfl VF.out Try.underlying29 rfl (by kernel_rfl)) rfl ⟨none, 0, 0, rfl, rfl, own_none, BR.out⟩
  · rw [h] at CK
    rw [hop, h]
    obtain ⟨ht, hk4, hpl, hri⟩ := knC_zero h
    have hn4 : n ≤ 400 := by have := (tfC_zero ht).1; omega
    have CO := Hid.mk (fun w ha ha2 => l6Open_ok a n ca xs a2 n2 ca2 kn w ha hn ha2 hn2 hc2 h)
    clear h hop hds
    go_enter Try.func14, Try.ntmps14
    have B := Below.refl w.heap.size w
    replace ha := ha.kept (belowA w (.cells #[.int .i64 0, .slice none 0 0] 29))
    replace ha2 := ha2.kept (belowA w (.cells #[.int .i64 0, .slice none 0 0] 29))
    replace B := thenB B (belowA w (.cells #[.int .i64 0, .slice none 0 0] 29))
    have VR := V.new w [.int .i64 0, .slice none 0 0] 29
    obtain ⟨s_VR, f_VR, z_VR⟩ := VR.open
    have Bo := B
    go_wp2_with fail
    refine (CK.out _ ha ha2).mono ?_
    rintro e w221 ⟨rfl, b221⟩
    clear s_VR f_VR z_VR
    have S221 := b221.size
    simp only [World.size_alloc] at S221
    replace VR := VR.kept b221
    replace ha := ha.kept b221
    replace ha2 := ha2.kept b221
    replace B := thenB B b221
    clear b221
    obtain ⟨s_VR, f_VR, z_VR⟩ := VR.open
    have Bo := B
    go_wp2_with fail
    refine (CO.out _ ha ha2).mono ?_
    rintro e w222 ⟨g4, d4, k4, rfl, hk, O, b222⟩
    clear s_VR f_VR z_VR
    have S222 := b222.size
    replace VR := VR.kept b222
    replace ha := ha.kept b222
    replace ha2 := ha2.kept b222
    replace B := thenB B b222
    clear b222
    obtain ⟨s_VR, f_VR, z_VR⟩ := VR.open
    have Bo := B
    have OL := fun b hb => (O.lt b hb).1
    replace hk := Hid.mk hk
    clear s_VR f_VR z_VR
    have VF := Hid.mk (VR.filled [.int .i64 0, .slice (some ⟨g4, 0, none⟩) k4 d4] rfl)
    have HT := Hid.mk VR.there
    have BR := belowCells B (show w.heap.size ≤ w.heap.size by (first | omega | (simp; done) | (simp; omega))) 0 [.int .i64 0, .slice (some ⟨g4, 0, none⟩) k4 d4]
    replace BR := Hid.mk BR
    have BS := B.size
    have HO := Hid.mk (own_apart (B := w.heap.size) (O.mono (base' := w.heap.size) (by omega)) (fun b hb => by have := OL b hb; omega) 0 [.int .i64 0, .slice (some ⟨g4, 0, none⟩) k4 d4])
    obtain ⟨s_VR, f_VR, z_VR⟩ := VR.open
    go_wp2_with (refine wpList_store_mid rfl 29 _ _ rfl (w.heap.size) 0 #[.int .i64 0, .slice (some ⟨g4, 0, none⟩) k4 d4] rfl rfl HT.out (by kernel_rfl) (by kernel_rfl) ?_)
    refine bodyPost_ret (v := .agg #[.int .i64 0, .slice (some ⟨g4, 0, none⟩) k4 d4]) (results_row Try.results14 _ _ (w.heap.size) [.int .i64 0, .slice (some ⟨g4, 0, none⟩) k4 d4] _ rfl VF.out Try.underlying29 rfl (by kernel_rfl)) rfl ⟨_, d4, k4, rfl, hk.out, HO.out, BR.out⟩

set_option maxRecDepth 20000 in
set_option maxHeartbeats 4000000 in
theorem specDerivesSome_ok (w : World) (ha : RdTerm w a xs) (hn : xs.length = n) (hx : n ≤ maxLen) (hca : n ≤ ca) (ha2 : Rd .i64 w a2 kn) (hn2 : kn.length = n2) (hx2 : n2 ≤ maxLen) (hc2 : a2 = none → ca2 = 0) :
    Calls Try.prog 17 #[.slice a n ca, .slice a2 n2 ca2] w fun e w' => ∃ c d k, e = .returned (.agg #[.int .i64 (knC xs kn), .slice c k d]) ∧ (dsL xs kn).length = k ∧ Own .i64 2 w' w.heap.size c d (dsL xs kn) ∧ Below w.heap.size w w' := by
  have q1 := build_kr0
  have q2 := build_kr1
  have CK := Hid.mk (fun w ha ha2 => specKnownFault_ok a n ca xs a2 n2 ca2 kn w ha hn hx hca ha2 hn2 hx2)
  rcases kn_ways xs kn with ⟨h, hop, hds, -⟩ | ⟨h, hop, hds, -⟩
  · rw [hds]
    have h2 : (knC xs kn != 0) = true := by simp [h]
    clear h hop hds
    generalize knC xs kn = kk at *
    go_enter Try.func17, Try.ntmps17
    have B := Below.refl w.heap.size w
    replace ha := ha.kept (belowA w (.cells #[.int .i64 0, .slice none 0 0] 29))
    replace ha2 := ha2.kept (belowA w (.cells #[.int .i64 0, .slice none 0 0] 29))
    replace B := thenB B (belowA w (.cells #[.int .i64 0, .slice none 0 0] 29))
    have VR := V.new w [.int .i64 0, .slice none 0 0] 29
    obtain ⟨s_VR, f_VR, z_VR⟩ := VR.open
    have Bo := B
    go_wp2_with fail
    refine (CK.out _ ha ha2).mono ?_
    rintro e w201 ⟨rfl, b201⟩
    clear s_VR f_VR z_VR
    have S201 := b201.size
    simp only [World.size_alloc] at S201
    replace VR := VR.kept b201
    replace ha := ha.kept b201
    replace ha2 := ha2.kept b201
    replace B := thenB B b201
    clear b201
    obtain ⟨s_VR, f_VR, z_VR⟩ := VR.open
    have Bo := B
    clear s_VR f_VR z_VR
    have VF := Hid.mk (VR.filled [.int .i64 kk, .slice none 0 0] rfl)
    have HT := Hid.mk VR.there
    have BR := belowCells B (show w.heap.size ≤ w.heap.size by (first | omega | (simp; done) | (simp; omega))) 0 [.int .i64 kk, .slice none 0 0]
    replace BR := Hid.mk BR
    obtain ⟨s_VR, f_VR, z_VR⟩ := VR.open
    go_wp2_with (refine wpList_store_mid rfl 29 _ _ rfl (w.heap.size) 0 #[.int .i64 kk, .slice none 0 0] rfl rfl HT.out (by kernel_rfl) (by kernel_rfl) ?_)
    refine bodyPost_ret (v := .agg #[.int .i64 kk, .slice none 0 0]) (results_row Try.results17 _ _ (w.heap.size) [.int .i64 kk, .slice none 0 0] _ rfl VF.out Try.underlying29 rfl (by kernel_rfl)) rfl ⟨none, 0, 0, rfl, rfl, own_none, BR.out⟩
  · rw [h] at CK
    rw [hds, h]
    obtain ⟨ht, hk4, hpl, hri⟩ := knC_zero h
    have hn4 : n ≤ 400 := by have := (tfC_zero ht).1; omega
    have CD := Hid.mk (fun w ha ha2 => l6Derives_ok a n ca xs a2 n2 ca2 kn w ha hn ha2 hn2 hc2 h)
    have hLen : (dvF xs kn).length = n := by rw [dvF_len, hn]
    have hAll := plK_all (dvF xs kn)
    rw [hLen] at hAll
    rw [← hAll]
    clear h hop hds hAll hLen
    generalize dvF xs kn = C at *
    go_enter Try.func17, Try.ntmps17
    have B := Below.refl w.heap.size w
    replace ha := ha.kept (belowA w (.cells #[.int .i64 0, .slice none 0 0] 29))
    replace ha2 := ha2.kept (belowA w (.cells #[.int .i64 0, .slice none 0 0] 29))
    replace B := thenB B (belowA w (.cells #[.int .i64 0, .slice none 0 0] 29))
    have VR := V.new w [.int .i64 0, .slice none 0 0] 29
    obtain ⟨s_VR, f_VR, z_VR⟩ := VR.open
    have Bo := B
    go_wp2_with fail
    refine (CK.out _ ha ha2).mono ?_
    rintro e w221 ⟨rfl, b221⟩
    clear s_VR f_VR z_VR
    have S221 := b221.size
    simp only [World.size_alloc] at S221
    replace VR := VR.kept b221
    replace ha := ha.kept b221
    replace ha2 := ha2.kept b221
    replace B := thenB B b221
    clear b221
    obtain ⟨s_VR, f_VR, z_VR⟩ := VR.open
    have Bo := B
    go_wp2_with fail
    refine (CD.out _ ha ha2).mono ?_
    rintro e w222 ⟨Qd, rfl, hF, b222⟩
    clear s_VR f_VR z_VR
    have S222 := b222.size
    replace VR := VR.kept b222
    replace ha := ha.kept b222
    replace ha2 := ha2.kept b222
    replace B := thenB B b222
    clear b222
    obtain ⟨s_VR, f_VR, z_VR⟩ := VR.open
    have Bo := B
    clear s_VR f_VR z_VR
    have q3 := build_kr
    have sF := hF.lt.2
    have sV := VR.1
    have sB := B.size
    have bA := belowA w222 (.cells #[.int .i64 0, .slice none 0 0] 29)
    have VO := V.new w222 [.int .i64 0, .slice none 0 0] 29
    have VR2 := Hid.mk (VR.kept bA)
    have hF2 := Hid.mk (hF.kept bA)
    have B2 := Hid.mk (thenB B bA)
    have VO2 := Hid.mk VO
    have sW : (w222.alloc (.cells #[.int .i64 0, .slice none 0 0] 29)).heap.size = w222.heap.size + 1 := by simp
    clear VR hF B bA VO ha ha2
    obtain ⟨Bo, hBo⟩ : ∃ b, w222.heap.size = b := ⟨_, rfl⟩
    go_wp2
    rw [hBo] at VO2 sW sF sV sB
    generalize w222.alloc (.cells #[.int .i64 0, .slice none 0 0] 29) = w4 at *
    clear hBo
    go_loopw [8] (fun i wr => ∃ (k j d : Nat) (c : Option Addr), k ≤ n ∧ i = .int .i64 k ∧ Hid ((plK C k).length = j) ∧ Own .i64 2 wr (Bo + 1) c d (plK C k) ∧ V wr Bo [.int .i64 0, .slice c j d] ∧ Sm (fun k => Bo ≤ k) w4 wr) (fun i _ => n - (intOf i).toNat)
    case atStart => exact ⟨0, 0, 0, none, Nat.zero_le _, rfl, Hid.mk (by rw [plK_zero]; rfl), by rw [plK_zero]; exact own_none, VO2.out, Sm.refl _ _⟩
    case round =>
      obtain ⟨k, j, d, c, hk, rfl, hj, O, VO, S⟩ := hrel
      have hF := hF2.out.sm S (by omega)
      have sS := S.size
      by_cases hlt : k < n
      · have hk1 : (k : Int) < (n : Int) := by omega
        have p9 := hF.cell (j := k) hlt
        cases hm : C.getD k false
        · rw [hm] at p9
          have HNX := Hid.mk (plK_no hm)
          replace O := Hid.mk O
          replace VO := Hid.mk VO
          replace S := Hid.mk S
          clear hm hF
          go_wp2
          go_roundw
          case rel => exact ⟨k + 1, j, d, c, by omega, by go_num, by rw [HNX.out]; exact hj, by rw [HNX.out]; exact O.out, VO.out, S.out⟩
          case measure => first | (simp [intOf]; done) | (simp [intOf]; omega)
        · rw [hm] at p9
          have HNX := Hid.mk (plK_yes hm)
          have hj4 : j ≤ 400 := by have := hj.out; have := plK_len C k; omega
          have bL := belowA wr (.cells #[.int .i64 (k : Int)] 2)
          have O2 := Hid.mk (O.kept bL)
          have VO3 := VO.kept bL
          have S2 := Hid.mk (S.trans (Sm.below bL))
          have sA : (wr.alloc (.cells #[.int .i64 (k : Int)] 2)).heap.size = wr.heap.size + 1 := by simp
          have TL : Bo + 1 ≤ (wr.alloc (.cells #[.int .i64 (k : Int)] 2)).heap.size := by omega
          obtain ⟨s_VO, f_VO, z_VO⟩ := VO.open
          clear hm hF O bL S
          go_wp2_with (at_builtin; go_loud (refine wpList_putI _ rfl _ _ rfl (Bo + 1) c d (plK C k) j hj.out rfl O2.out _ 1 (k : Int) rfl (cell_one' _ _ _ 0 _ rfl) (by omega) TL ?_))
          intro c4 d4 w5 O4 hg4 hx4
          have hol := O2.out.lt
          have VO4 := VO3.grownR hg4 (by cases c with | none => simp | some b => have := (hol b rfl).1; simp; omega)
          have S4 := S2.out.trans (Sm.grown hg4 (fun q hq => by cases c with | none => cases hq | some b => simp at hq; subst hq; have := (hol b rfl).1; omega))
          rw [← HNX.out] at O4
          have J4 : Hid ((plK C (k + 1)).length = j + 1) := Hid.mk (by rw [HNX.out, List.length_append, hj.out]; rfl)
          have hc4 := O4.lt
          have VO5 := Hid.mk (VO4.set (i := 1) (by simp) (.slice c4 (j + 1) d4))
          have O5 := Hid.mk (O4.sm (X := fun k => k = Bo) (Sm.cell (X := fun k => k = Bo) (p := ⟨Bo, 1, none⟩) rfl (.slice c4 (j + 1) d4)) (fun b hb e => by have := (hc4 b hb).1; omega))
          have S5 := Hid.mk (S4.trans (Sm.cell (X := fun k => Bo ≤ k) (p := ⟨Bo, 1, none⟩) (Nat.le_refl _) (.slice c4 (j + 1) d4)))
          clear s_VO f_VO z_VO VO VO3 O2 S2 hx4 hg4 S4 O4 hc4 hol TL
          obtain ⟨s_VO, f_VO, z_VO⟩ := VO4.open
          go_wp2
          go_roundw
          case rel => exact ⟨k + 1, j + 1, d4, c4, by omega, by go_num, J4, O5.out, VO5.out, S5.out⟩
          case measure => first | (simp [intOf]; done) | (simp [intOf]; omega)
      · obtain rfl : k = n := by omega
        have VR := VR2.out.sm S (by omega)
        have B := S.below' B2.out B2.out.size (fun k hk => by omega)
        have OL := fun b hb => (O.lt b hb).1
        clear hF S
        obtain ⟨s_VR, f_VR, z_VR⟩ := VR.open
        obtain ⟨s_VO, f_VO, z_VO⟩ := VO.open
        clear s_VR f_VR z_VR s_VO f_VO z_VO
        have VF := Hid.mk (VR.filled [.int .i64 0, .slice c j d] rfl)
        have HT := Hid.mk VR.there
        have BR := belowCells B (show w.heap.size ≤ w.heap.size by (first | omega | (simp; done) | (simp; omega))) 0 [.int .i64 0, .slice c j d]
        replace BR := Hid.mk BR
        have BS := B.size
        have HO := Hid.mk (own_apart (B := w.heap.size) (O.mono (base' := w.heap.size) (by omega)) (fun b hb => by have := OL b hb; omega) 0 [.int .i64 0, .slice c j d])
        obtain ⟨s_VR, f_VR, z_VR⟩ := VR.open
        obtain ⟨s_VO, f_VO, z_VO⟩ := VO.open
        go_wp2_with (refine wpList_store_mid rfl 29 _ _ rfl (w.heap.size) 0 #[.int .i64 0, .slice c j d] rfl rfl HT.out (by kernel_rfl) (by kernel_rfl) ?_)
        refine bodyPost_ret (v := .agg #[.int .i64 0, .slice c j d]) (results_row Try.results17 _ _ (w.heap.size) [.int .i64 0, .slice c j d] _ rfl VF.out Try.underlying29 rfl (by kernel_rfl)) rfl ⟨c, d, j, rfl, hj.out, HO.out, BR.out⟩
end

end Go.Proofs.Yteeoodbmgheikaa
