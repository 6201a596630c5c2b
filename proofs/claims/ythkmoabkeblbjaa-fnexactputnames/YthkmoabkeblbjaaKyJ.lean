/- PutNames of the model. -/
import Derived.Test.YthkmoabkeblbjaaMa
import Derived.Test.YthkmoabkeblbjaaTmX
namespace Go.Proofs.Ythkmoabkeblbjaa
open Go.RowKit

theorem cell_lt9 {w : World} {p : Addr} {v : Value} (h : w.cell? p = some v) : p.block < w.heap.size := by
  rcases Nat.lt_or_ge p.block w.heap.size with h1 | h1
  · exact h1
  · simp [World.cell?, Array.getElem?_eq_none h1] at h

theorem rd_lt9 {k : IntKind} {w : World} {c : Option Addr} {zs : List Int} (h : Rd k w c zs) (h1 : zs ≠ []) : ∀ b, c = some b → b.block < w.heap.size := by
  intro b hb
  rcases h with h | ⟨q, off, h, hc⟩
  · exact absurd h h1
  · rw [hb] at h
    simp only [Option.some.injEq] at h
    subst h
    exact cell_lt9 (hc 0 (by cases zs with | nil => exact absurd rfl h1 | cons _ _ => simp))

/-- A list put by its names. -/
@[irreducible] def pnR (xs : List T4) (zs : List Int) : Put :=
  if tfC xs = 0 then (if (zs.all fun z => btw z 0 9999) = true then (if zs.length = 0 then plP xs [] else (if (mkW ⟨xs, 0⟩ zs).1.c = 0 then ⟨0, (mkW ⟨xs, 0⟩ zs).2, (mkW ⟨xs, 0⟩ zs).1.l⟩ else ⟨(mkW ⟨xs, 0⟩ zs).1.c, 0, []⟩)) else ⟨3, 0, []⟩) else ⟨tfC xs, 0, []⟩

theorem pn_ways (xs : List T4) (zs : List Int) : (tfC xs ≠ 0 ∧ pnR xs zs = ⟨tfC xs, 0, []⟩) ∨ (tfC xs = 0 ∧ (zs.all fun z => btw z 0 9999) = false ∧ pnR xs zs = ⟨3, 0, []⟩) ∨ (tfC xs = 0 ∧ (zs.all fun z => btw z 0 9999) = true ∧ zs = [] ∧ pnR xs zs = plP xs []) ∨
    (tfC xs = 0 ∧ (zs.all fun z => btw z 0 9999) = true ∧ zs ≠ [] ∧ (mkW ⟨xs, 0⟩ zs).1.c ≠ 0 ∧ pnR xs zs = ⟨(mkW ⟨xs, 0⟩ zs).1.c, 0, []⟩) ∨ (tfC xs = 0 ∧ (zs.all fun z => btw z 0 9999) = true ∧ zs ≠ [] ∧ (mkW ⟨xs, 0⟩ zs).1.c = 0 ∧ pnR xs zs = ⟨0, (mkW ⟨xs, 0⟩ zs).2, (mkW ⟨xs, 0⟩ zs).1.l⟩) := by
  unfold pnR
  by_cases h1 : tfC xs = 0
  · cases h2 : zs.all fun z => btw z 0 9999
    · exact .inr (.inl ⟨h1, rfl, by simp [h1]⟩)
    · by_cases h3 : zs = []
      · exact .inr (.inr (.inl ⟨h1, rfl, h3, by simp [h1, h3]⟩))
      · have h5 : zs.length ≠ 0 := fun e => h3 (List.length_eq_zero_iff.1 e)
        by_cases h4 : (mkW ⟨xs, 0⟩ zs).1.c = 0
        · exact .inr (.inr (.inr (.inr ⟨h1, rfl, h3, h4, by simp only [h1, h5, h4, if_true, if_false]⟩)))
        · exact .inr (.inr (.inr (.inl ⟨h1, rfl, h3, h4, by simp only [h1, h5, h4, if_true, if_false]⟩)))
  · exact .inl ⟨h1, by simp [h1]⟩

set_option maxRecDepth 20000 in
set_option maxHeartbeats 8000000 in
theorem specPutNames_ok (a : Option Addr) (n ca : Nat) (xs : List T4) (c : Option Addr) (m d : Nat) (zs : List Int) (w : World) (ha : RdTerm w a xs) (hn : xs.length = n) (hx : n ≤ 1048576) (hca : n ≤ ca) (hcn : a = none → ca = 0) (hR : Rd .i64 w c zs) (hm : zs.length = m) (hmd : m ≤ d) (hmx : m ≤ 1048576) :
    Calls Try.prog 55 #[.slice a n ca, .slice c m d] w fun e w' => ∃ c4 d4, e = .returned (.agg #[.int .i64 (pnR xs zs).c, .int .i64 (pnR xs zs).k, .slice c4 (pnR xs zs).l.length d4]) ∧ OwnTerm w' w.heap.size c4 d4 (pnR xs zs).l ∧ Below w.heap.size w w' := by
  have CT := Hid.mk (fun w h => specTermsFault_ok a n ca xs w h hn (by unfold maxLen; omega) hca)
  have CC := Hid.mk (fun (h4 : tfC xs = 0) w h => l5Copy_ok a n ca xs w h hn (by have := (tfC_zero h4).1; omega) hcn)
  rcases pn_ways xs zs with ⟨h1, e⟩ | ⟨h1, h2, e⟩ | ⟨h1, h2, h3, e⟩ | ⟨h1, h2, h4, h3, e⟩ | ⟨h1, h2, h4, h3, e⟩
  · have hne : (tfC xs != 0) = true := by simp [h1]
    rw [e]
    clear e h1
    generalize tfC xs = kk at *
    go_enter Try.func55, Try.ntmps55
    have B := Below.refl w.heap.size w
    replace ha := ha.kept (belowA w (.cells #[.int .i64 0, .int .i64 0, .slice none 0 0] 33))
    replace hR := hR.kept (belowA w (.cells #[.int .i64 0, .int .i64 0, .slice none 0 0] 33))
    replace B := thenB B (belowA w (.cells #[.int .i64 0, .int .i64 0, .slice none 0 0] 33))
    have VR := V.new w [.int .i64 0, .int .i64 0, .slice none 0 0] 33
    obtain ⟨s_VR, f_VR, z_VR⟩ := VR.open
    have Bo := B
    go_wp2_with fail
    refine (CT.out _ ha).mono ?_
    rintro e w1 ⟨rfl, b1⟩
    clear s_VR f_VR z_VR
    have S1 := b1.size
    simp only [World.size_alloc] at S1
    replace VR := VR.kept b1
    replace ha := ha.kept b1
    replace hR := hR.kept b1
    replace B := thenB B b1
    clear b1
    obtain ⟨s_VR, f_VR, z_VR⟩ := VR.open
    have Bo := B
    clear s_VR f_VR z_VR
    obtain ⟨s_VR, f_VR, z_VR⟩ := VR.open
    have Bo := B
    clear s_VR f_VR z_VR
    have VF := Hid.mk (VR.filled [.int .i64 kk, .int .i64 0, .slice none 0 0] rfl)
    have BR := belowCells B (show w.heap.size ≤ w.heap.size by (first | omega | (simp; done) | (simp; omega))) 0 [.int .i64 kk, .int .i64 0, .slice none 0 0]
    have HT := Hid.mk VR.there
    replace BR := Hid.mk BR
    obtain ⟨s_VR, f_VR, z_VR⟩ := VR.open
    go_wp2_with (refine wpList_store_mid rfl 33 _ _ rfl (w.heap.size) 0 #[.int .i64 kk, .int .i64 0, .slice none 0 0] rfl rfl HT.out (by kernel_rfl) (by kernel_rfl) ?_)
    refine bodyPost_ret (v := .agg #[.int .i64 kk, .int .i64 0, .slice none 0 0]) (results_row Try.results55 _ _ (w.heap.size) [.int .i64 kk, .int .i64 0, .slice none 0 0] _ rfl VF.out Try.underlying33 rfl (by kernel_rfl)) rfl ⟨none, 0, rfl, OwnTerm.none, BR.out⟩
  · rw [e]
    have hl4 : xs.length ≤ 400 := (tfC_zero h1).1
    replace CC := Hid.mk (CC.out h1)
    rw [h1] at CT
    have hal := h2
    clear e h1 h2 hl4
    go_enter Try.func55, Try.ntmps55
    have B := Below.refl w.heap.size w
    replace ha := ha.kept (belowA w (.cells #[.int .i64 0, .int .i64 0, .slice none 0 0] 33))
    replace hR := hR.kept (belowA w (.cells #[.int .i64 0, .int .i64 0, .slice none 0 0] 33))
    replace B := thenB B (belowA w (.cells #[.int .i64 0, .int .i64 0, .slice none 0 0] 33))
    have VR := V.new w [.int .i64 0, .int .i64 0, .slice none 0 0] 33
    obtain ⟨s_VR, f_VR, z_VR⟩ := VR.open
    have Bo := B
    go_wp2_with fail
    refine (CT.out _ ha).mono ?_
    rintro e w1 ⟨rfl, b1⟩
    clear s_VR f_VR z_VR
    have S1 := b1.size
    simp only [World.size_alloc] at S1
    replace VR := VR.kept b1
    replace ha := ha.kept b1
    replace hR := hR.kept b1
    replace B := thenB B b1
    clear b1
    obtain ⟨s_VR, f_VR, z_VR⟩ := VR.open
    have Bo := B
    clear s_VR f_VR z_VR
    obtain ⟨s_VR, f_VR, z_VR⟩ := VR.open
    have Bo := B
    have VR1 := Hid.mk VR
    have B1 := Hid.mk B
    have RA := Hid.mk ha
    have RL := Hid.mk hR
    have HAL := Hid.mk hal
    clear ha hR hal VR B Bo
    clear s_VR f_VR z_VR
    go_wp2
    go_loopw [6] (fun i wr => ∃ k : Nat, k ≤ m ∧ i = .int .i64 k ∧ Hid ((zs.drop k).all (fun z => btw z 0 9999) = false) ∧ wr = w1) (fun i _ => m - (intOf i).toNat)
    case atStart => exact ⟨0, Nat.zero_le _, rfl, HAL, rfl⟩
    case round =>
      obtain ⟨k, hk, rfl, hdr, hwr⟩ := hrel
      subst hwr
      by_cases hlt : k < m
      · skip
        obtain ⟨z, hz⟩ : ∃ z, zs.getD k 0 = z := ⟨_, rfl⟩
        have hk1 : (k : Int) < (m : Int) := by omega
        have hs := hdr.out
        rw [all_drop _ zs k (by omega) hz] at hs
        rcases RL.out with h0 | ⟨b1, o1, rfl, hca2⟩
        · rw [h0] at hm; simp at hm; omega
        have p0 := hca2 k (by omega)
        rw [hz] at p0
        clear hca2 hz
        have CA := Hid.mk (l9Word_ok z)
        cases hg : btw z 0 9999
        · skip
          simp only [hg] at CA
          clear hs hg
          have VR := VR1.out
          have B := B1.out
          obtain ⟨s_VR, f_VR, z_VR⟩ := VR.open
          have Bo := B
          go_wp2_with fail
          refine (CA.out _).mono ?_
          rintro e wq ⟨rfl, rfl⟩
          clear s_VR f_VR z_VR
          have VF := Hid.mk (VR.filled [.int .i64 3, .int .i64 0, .slice none 0 0] rfl)
          have BR := belowCells B (show w.heap.size ≤ w.heap.size by (first | omega | (simp; done) | (simp; omega))) 0 [.int .i64 3, .int .i64 0, .slice none 0 0]
          have HT := Hid.mk VR.there
          replace BR := Hid.mk BR
          obtain ⟨s_VR, f_VR, z_VR⟩ := VR.open
          go_wp2_with (refine wpList_store_mid rfl 33 _ _ rfl (w.heap.size) 0 #[.int .i64 3, .int .i64 0, .slice none 0 0] rfl rfl HT.out (by kernel_rfl) (by kernel_rfl) ?_)
          refine bodyPost_ret (v := .agg #[.int .i64 3, .int .i64 0, .slice none 0 0]) (results_row Try.results55 _ _ (w.heap.size) [.int .i64 3, .int .i64 0, .slice none 0 0] _ rfl VF.out Try.underlying33 rfl (by kernel_rfl)) rfl ⟨none, 0, rfl, OwnTerm.none, BR.out⟩
        · skip
          rw [hg, Bool.true_and] at hs
          simp only [hg] at CA
          have HS := Hid.mk hs
          clear hs hg
          go_wp2_with fail
          refine (CA.out _).mono ?_
          rintro e wr ⟨rfl, rfl⟩
          go_wp2
          go_roundw
          case rel => exact ⟨k + 1, by omega, by go_num, HS, by trivial⟩
          case measure => simp [intOf] <;> omega
      · skip
        obtain rfl : k = m := by omega
        have hs := hdr.out
        rw [List.drop_of_length_le (by omega)] at hs
        simp at hs
  · rw [e]
    have hl4 : xs.length ≤ 400 := (tfC_zero h1).1
    replace CC := Hid.mk (CC.out h1)
    rw [h1] at CT
    have hal := h2
    have CL := Hid.mk (fun w h h' => l5List_ok [] xs a n ca none 0 0 w h hn (by omega) hcn h' rfl (Nat.le_refl _))
    generalize plP xs [] = P at *
    obtain ⟨kc, kk, ls⟩ := P
    simp only at *
    obtain ⟨kl, hkl⟩ : ∃ m, ls.length = m := ⟨_, rfl⟩
    rw [hkl] at CL ⊢
    replace hkl := Hid.mk hkl
    have hz0 : Hid (m = 0) := Hid.mk (by rw [← hm, h3]; rfl)
    have hR0 : ∀ w : World, Rd .i64 w none [] := fun _ => .inl rfl
    clear hl4
    clear e h1 h2 h3
    go_enter Try.func55, Try.ntmps55
    have B := Below.refl w.heap.size w
    replace ha := ha.kept (belowA w (.cells #[.int .i64 0, .int .i64 0, .slice none 0 0] 33))
    replace hR := hR.kept (belowA w (.cells #[.int .i64 0, .int .i64 0, .slice none 0 0] 33))
    replace B := thenB B (belowA w (.cells #[.int .i64 0, .int .i64 0, .slice none 0 0] 33))
    have VR := V.new w [.int .i64 0, .int .i64 0, .slice none 0 0] 33
    obtain ⟨s_VR, f_VR, z_VR⟩ := VR.open
    have Bo := B
    go_wp2_with fail
    refine (CT.out _ ha).mono ?_
    rintro e w1 ⟨rfl, b1⟩
    clear s_VR f_VR z_VR
    have S1 := b1.size
    simp only [World.size_alloc] at S1
    replace VR := VR.kept b1
    replace ha := ha.kept b1
    replace hR := hR.kept b1
    replace B := thenB B b1
    clear b1
    obtain ⟨s_VR, f_VR, z_VR⟩ := VR.open
    have Bo := B
    clear s_VR f_VR z_VR
    obtain ⟨s_VR, f_VR, z_VR⟩ := VR.open
    have Bo := B
    have VR1 := Hid.mk VR
    have B1 := Hid.mk B
    have RA := Hid.mk ha
    have RL := Hid.mk hR
    have HAL := Hid.mk hal
    clear ha hR hal VR B Bo
    clear s_VR f_VR z_VR
    go_wp2
    go_loopw [6] (fun i wr => ∃ k : Nat, k ≤ m ∧ i = .int .i64 k ∧ Hid ((zs.drop k).all (fun z => btw z 0 9999) = true) ∧ wr = w1) (fun i _ => m - (intOf i).toNat)
    case atStart => exact ⟨0, Nat.zero_le _, rfl, HAL, rfl⟩
    case round =>
      obtain ⟨k, hk, rfl, hdr, hwr⟩ := hrel
      subst hwr
      by_cases hlt : k < m
      · skip
        obtain ⟨z, hz⟩ : ∃ z, zs.getD k 0 = z := ⟨_, rfl⟩
        have hk1 : (k : Int) < (m : Int) := by omega
        have hs := hdr.out
        rw [all_drop _ zs k (by omega) hz] at hs
        rcases RL.out with h0 | ⟨b1, o1, rfl, hca2⟩
        · rw [h0] at hm; simp at hm; omega
        have p0 := hca2 k (by omega)
        rw [hz] at p0
        clear hca2 hz
        have CA := Hid.mk (l9Word_ok z)
        cases hg : btw z 0 9999
        · rw [hg] at hs; simp at hs
        · skip
          rw [hg, Bool.true_and] at hs
          simp only [hg] at CA
          have HS := Hid.mk hs
          clear hs hg
          go_wp2_with fail
          refine (CA.out _).mono ?_
          rintro e wr ⟨rfl, rfl⟩
          go_wp2
          go_roundw
          case rel => exact ⟨k + 1, by omega, by go_num, HS, by trivial⟩
          case measure => simp [intOf] <;> omega
      · skip
        obtain rfl : k = m := by omega
        have VR := VR1.out
        have B := B1.out
        have ha := RA.out
        have hR := RL.out
        obtain ⟨s_VR, f_VR, z_VR⟩ := VR.open
        have Bo := B
        have hz1 := hz0.out
        clear hz0
        subst hz1
        go_wp2_with fail
        refine (CL.out _ ha (hR0 _)).mono ?_
        rintro e w2 ⟨c4, d4, rfl, O, b2⟩
        clear s_VR f_VR z_VR
        have S2 := b2.size
        replace VR := VR.kept b2
        replace ha := ha.kept b2
        replace B := thenB B b2
        clear b2
        obtain ⟨s_VR, f_VR, z_VR⟩ := VR.open
        have Bo := B
        clear s_VR f_VR z_VR
        obtain ⟨s_VR, f_VR, z_VR⟩ := VR.open
        have OL := Hid.mk (fun b hb => (O.lt b hb).1)
        clear s_VR f_VR z_VR
        have VF := Hid.mk (VR.filled [.int .i64 kc, .int .i64 kk, .slice c4 kl d4] rfl)
        have BR := belowCells B (show w.heap.size ≤ w.heap.size by (first | omega | (simp; done) | (simp; omega))) 0 [.int .i64 kc, .int .i64 kk, .slice c4 kl d4]
        have HT := Hid.mk VR.there
        replace BR := Hid.mk BR
        have HO := Hid.mk ((O.mono (show w.heap.size ≤ _ by first | omega | (simp; done) | (simp; omega))).apart (B := w.heap.size) (by intro b hb; have := OL.out b hb; first | omega | (simp at this; omega)) 0 [.int .i64 kc, .int .i64 kk, .slice c4 kl d4])
        obtain ⟨s_VR, f_VR, z_VR⟩ := VR.open
        go_wp2_with (refine wpList_store_mid rfl 33 _ _ rfl (w.heap.size) 0 #[.int .i64 kc, .int .i64 kk, .slice c4 kl d4] rfl rfl HT.out (by kernel_rfl) (by kernel_rfl) ?_)
        refine bodyPost_ret (v := .agg #[.int .i64 kc, .int .i64 kk, .slice c4 kl d4]) (results_row Try.results55 _ _ (w.heap.size) [.int .i64 kc, .int .i64 kk, .slice c4 kl d4] _ rfl VF.out Try.underlying33 rfl (by kernel_rfl)) rfl ⟨c4, d4, rfl, HO.out, BR.out⟩
  · rw [e]
    have hl4 : xs.length ≤ 400 := (tfC_zero h1).1
    replace CC := Hid.mk (CC.out h1)
    rw [h1] at CT
    have hal := h2
    have hm1 : 1 ≤ m := by rcases Nat.eq_zero_or_pos m with h | h; · exact absurd (List.length_eq_zero_iff.1 (hm.trans h)) h4
                           · exact h
    have hm0 : ¬((m : Int) = 0) := by omega
    have hmb : ((m : Int) == 0) = false := by simpa using hm0
    have CPf := Hid.mk (fun base Q w h hr hq => l9Names_ok base Q ⟨xs, 0⟩ c m d zs w h hl4 hr hm hm1 (by omega) hq)
    have LTc := Hid.mk (fun w (h : Rd .i64 w c zs) => rd_lt9 h h4)
    generalize mkW ⟨xs, 0⟩ zs = P at *
    obtain ⟨⟨pl, pc⟩, pv⟩ := P
    simp only at h3 CPf ⊢
    obtain ⟨k2, hk⟩ : ∃ k, pl.length = k := ⟨_, rfl⟩
    have HK := Hid.mk hk
    have hne : (pc != 0) = true := by simpa using h3
    clear e h1 h2 h4 h3 hk hl4
    go_enter Try.func55, Try.ntmps55
    have B := Below.refl w.heap.size w
    replace ha := ha.kept (belowA w (.cells #[.int .i64 0, .int .i64 0, .slice none 0 0] 33))
    replace hR := hR.kept (belowA w (.cells #[.int .i64 0, .int .i64 0, .slice none 0 0] 33))
    replace B := thenB B (belowA w (.cells #[.int .i64 0, .int .i64 0, .slice none 0 0] 33))
    have VR := V.new w [.int .i64 0, .int .i64 0, .slice none 0 0] 33
    obtain ⟨s_VR, f_VR, z_VR⟩ := VR.open
    have Bo := B
    go_wp2_with fail
    refine (CT.out _ ha).mono ?_
    rintro e w1 ⟨rfl, b1⟩
    clear s_VR f_VR z_VR
    have S1 := b1.size
    simp only [World.size_alloc] at S1
    replace VR := VR.kept b1
    replace ha := ha.kept b1
    replace hR := hR.kept b1
    replace B := thenB B b1
    clear b1
    obtain ⟨s_VR, f_VR, z_VR⟩ := VR.open
    have Bo := B
    clear s_VR f_VR z_VR
    obtain ⟨s_VR, f_VR, z_VR⟩ := VR.open
    have Bo := B
    have VR1 := Hid.mk VR
    have B1 := Hid.mk B
    have RA := Hid.mk ha
    have RL := Hid.mk hR
    have HAL := Hid.mk hal
    clear ha hR hal VR B Bo
    clear s_VR f_VR z_VR
    go_wp2
    go_loopw [6] (fun i wr => ∃ k : Nat, k ≤ m ∧ i = .int .i64 k ∧ Hid ((zs.drop k).all (fun z => btw z 0 9999) = true) ∧ wr = w1) (fun i _ => m - (intOf i).toNat)
    case atStart => exact ⟨0, Nat.zero_le _, rfl, HAL, rfl⟩
    case round =>
      obtain ⟨k, hk, rfl, hdr, hwr⟩ := hrel
      subst hwr
      by_cases hlt : k < m
      · skip
        obtain ⟨z, hz⟩ : ∃ z, zs.getD k 0 = z := ⟨_, rfl⟩
        have hk1 : (k : Int) < (m : Int) := by omega
        have hs := hdr.out
        rw [all_drop _ zs k (by omega) hz] at hs
        rcases RL.out with h0 | ⟨b1, o1, rfl, hca2⟩
        · rw [h0] at hm; simp at hm; omega
        have p0 := hca2 k (by omega)
        rw [hz] at p0
        clear hca2 hz
        have CA := Hid.mk (l9Word_ok z)
        cases hg : btw z 0 9999
        · rw [hg] at hs; simp at hs
        · skip
          rw [hg, Bool.true_and] at hs
          simp only [hg] at CA
          have HS := Hid.mk hs
          clear hs hg
          go_wp2_with fail
          refine (CA.out _).mono ?_
          rintro e wr ⟨rfl, rfl⟩
          go_wp2
          go_roundw
          case rel => exact ⟨k + 1, by omega, by go_num, HS, by trivial⟩
          case measure => simp [intOf] <;> omega
      · skip
        obtain rfl : k = m := by omega
        have VR := VR1.out
        have B := B1.out
        have ha := RA.out
        have hR := RL.out
        obtain ⟨s_VR, f_VR, z_VR⟩ := VR.open
        have Bo := B
        have RL2 := Hid.mk (LTc.out _ hR)
        go_wp2_with fail
        refine (CC.out _ ha).mono ?_
        rintro e w2 ⟨c1, d1, rfl, O1, b2⟩
        clear s_VR f_VR z_VR
        have S2 := b2.size
        replace VR := VR.kept b2
        replace ha := ha.kept b2
        replace hR := hR.kept b2
        replace B := thenB B b2
        clear b2
        obtain ⟨s_VR, f_VR, z_VR⟩ := VR.open
        have Bo := B
        have OLT := Hid.mk O1.lt
        have RL3 := Hid.mk (LTc.out _ hR)
        replace VR := VR.kept (belowA w2 (.cells #[.slice c1 n d1, .int .i64 0] 104))
        replace ha := ha.kept (belowA w2 (.cells #[.slice c1 n d1, .int .i64 0] 104))
        replace hR := hR.kept (belowA w2 (.cells #[.slice c1 n d1, .int .i64 0] 104))
        replace O1 := O1.kept (belowA w2 (.cells #[.slice c1 n d1, .int .i64 0] 104))
        replace B := thenB B (belowA w2 (.cells #[.slice c1 n d1, .int .i64 0] 104))
        have VQ := V.new w2 [.slice c1 n d1, .int .i64 0] 104
        clear s_VR f_VR z_VR
        obtain ⟨s_VR, f_VR, z_VR⟩ := VR.open
        obtain ⟨s_VQ, f_VQ, z_VQ⟩ := VQ.open
        have Bo := B
        have M := MkB.made hn VQ (O1.mono (show w.heap.size + 1 ≤ _ by have := VR.1; omega)) (by have := VR.1; (try simp only [World.size_alloc] at *); omega) (fun b hb => by have := (OLT.out b hb).2; omega)
        have hQ1 : w.heap.size + 1 ≤ w2.heap.size := by omega
        clear O1 VQ
        go_wp2_with fail
        refine (CPf.out _ _ _ M hR (fun b hb => by have := RL3.out b hb; omega)).mono ?_
        rintro e9 w5 ⟨rfl, M5, G5⟩
        have VR5 := VR.grownB G5 (by omega)
        have B5 := B.grown G5 (by (try simp only [World.size_alloc]); omega) (by intro q hq; simp at hq; omega)
        clear M G5 VR B ha hR Bo
        obtain ⟨c2, d2, VQ, O2, hb5, hne5⟩ := M5
        simp only at VQ O2
        rw [HK.out] at VQ
        have VR := VR5
        have B := B5
        clear VR5 B5
        have OL2 := Hid.mk O2.lt
        clear s_VR f_VR z_VR s_VQ f_VQ z_VQ
        have VF := Hid.mk (VR.filled [.int .i64 pc, .int .i64 0, .slice none 0 0] rfl)
        have BR := belowCells B (show w.heap.size ≤ w.heap.size by (first | omega | (simp; done) | (simp; omega))) 0 [.int .i64 pc, .int .i64 0, .slice none 0 0]
        have HT := Hid.mk VR.there
        replace BR := Hid.mk BR
        clear O2
        obtain ⟨s_VR, f_VR, z_VR⟩ := VR.open
        obtain ⟨s_VQ, f_VQ, z_VQ⟩ := VQ.open
        go_wp2_with (refine wpList_store_mid rfl 33 _ _ rfl (w.heap.size) 0 #[.int .i64 pc, .int .i64 0, .slice none 0 0] rfl rfl HT.out (by kernel_rfl) (by kernel_rfl) ?_)
        refine bodyPost_ret (v := .agg #[.int .i64 pc, .int .i64 0, .slice none 0 0]) (results_row Try.results55 _ _ (w.heap.size) [.int .i64 pc, .int .i64 0, .slice none 0 0] _ rfl VF.out Try.underlying33 rfl (by kernel_rfl)) rfl ⟨none, 0, rfl, OwnTerm.none, BR.out⟩
  · rw [e]
    have hl4 : xs.length ≤ 400 := (tfC_zero h1).1
    replace CC := Hid.mk (CC.out h1)
    rw [h1] at CT
    have hal := h2
    have hm1 : 1 ≤ m := by rcases Nat.eq_zero_or_pos m with h | h; · exact absurd (List.length_eq_zero_iff.1 (hm.trans h)) h4
                           · exact h
    have hm0 : ¬((m : Int) = 0) := by omega
    have hmb : ((m : Int) == 0) = false := by simpa using hm0
    have CPf := Hid.mk (fun base Q w h hr hq => l9Names_ok base Q ⟨xs, 0⟩ c m d zs w h hl4 hr hm hm1 (by omega) hq)
    have LTc := Hid.mk (fun w (h : Rd .i64 w c zs) => rd_lt9 h h4)
    generalize mkW ⟨xs, 0⟩ zs = P at *
    obtain ⟨⟨pl, pc⟩, pv⟩ := P
    simp only at h3 CPf ⊢
    obtain ⟨k2, hk⟩ : ∃ k, pl.length = k := ⟨_, rfl⟩
    have HK := Hid.mk hk
    subst h3
    clear e h1 h2 h4 hk hl4
    go_enter Try.func55, Try.ntmps55
    have B := Below.refl w.heap.size w
    replace ha := ha.kept (belowA w (.cells #[.int .i64 0, .int .i64 0, .slice none 0 0] 33))
    replace hR := hR.kept (belowA w (.cells #[.int .i64 0, .int .i64 0, .slice none 0 0] 33))
    replace B := thenB B (belowA w (.cells #[.int .i64 0, .int .i64 0, .slice none 0 0] 33))
    have VR := V.new w [.int .i64 0, .int .i64 0, .slice none 0 0] 33
    obtain ⟨s_VR, f_VR, z_VR⟩ := VR.open
    have Bo := B
    go_wp2_with fail
    refine (CT.out _ ha).mono ?_
    rintro e w1 ⟨rfl, b1⟩
    clear s_VR f_VR z_VR
    have S1 := b1.size
    simp only [World.size_alloc] at S1
    replace VR := VR.kept b1
    replace ha := ha.kept b1
    replace hR := hR.kept b1
    replace B := thenB B b1
    clear b1
    obtain ⟨s_VR, f_VR, z_VR⟩ := VR.open
    have Bo := B
    clear s_VR f_VR z_VR
    obtain ⟨s_VR, f_VR, z_VR⟩ := VR.open
    have Bo := B
    have VR1 := Hid.mk VR
    have B1 := Hid.mk B
    have RA := Hid.mk ha
    have RL := Hid.mk hR
    have HAL := Hid.mk hal
    clear ha hR hal VR B Bo
    clear s_VR f_VR z_VR
    go_wp2
    go_loopw [6] (fun i wr => ∃ k : Nat, k ≤ m ∧ i = .int .i64 k ∧ Hid ((zs.drop k).all (fun z => btw z 0 9999) = true) ∧ wr = w1) (fun i _ => m - (intOf i).toNat)
    case atStart => exact ⟨0, Nat.zero_le _, rfl, HAL, rfl⟩
    case round =>
      obtain ⟨k, hk, rfl, hdr, hwr⟩ := hrel
      subst hwr
      by_cases hlt : k < m
      · skip
        obtain ⟨z, hz⟩ : ∃ z, zs.getD k 0 = z := ⟨_, rfl⟩
        have hk1 : (k : Int) < (m : Int) := by omega
        have hs := hdr.out
        rw [all_drop _ zs k (by omega) hz] at hs
        rcases RL.out with h0 | ⟨b1, o1, rfl, hca2⟩
        · rw [h0] at hm; simp at hm; omega
        have p0 := hca2 k (by omega)
        rw [hz] at p0
        clear hca2 hz
        have CA := Hid.mk (l9Word_ok z)
        cases hg : btw z 0 9999
        · rw [hg] at hs; simp at hs
        · skip
          rw [hg, Bool.true_and] at hs
          simp only [hg] at CA
          have HS := Hid.mk hs
          clear hs hg
          go_wp2_with fail
          refine (CA.out _).mono ?_
          rintro e wr ⟨rfl, rfl⟩
          go_wp2
          go_roundw
          case rel => exact ⟨k + 1, by omega, by go_num, HS, by trivial⟩
          case measure => simp [intOf] <;> omega
      · skip
        obtain rfl : k = m := by omega
        have VR := VR1.out
        have B := B1.out
        have ha := RA.out
        have hR := RL.out
        obtain ⟨s_VR, f_VR, z_VR⟩ := VR.open
        have Bo := B
        have RL2 := Hid.mk (LTc.out _ hR)
        go_wp2_with fail
        refine (CC.out _ ha).mono ?_
        rintro e w2 ⟨c1, d1, rfl, O1, b2⟩
        clear s_VR f_VR z_VR
        have S2 := b2.size
        replace VR := VR.kept b2
        replace ha := ha.kept b2
        replace hR := hR.kept b2
        replace B := thenB B b2
        clear b2
        obtain ⟨s_VR, f_VR, z_VR⟩ := VR.open
        have Bo := B
        have OLT := Hid.mk O1.lt
        have RL3 := Hid.mk (LTc.out _ hR)
        replace VR := VR.kept (belowA w2 (.cells #[.slice c1 n d1, .int .i64 0] 104))
        replace ha := ha.kept (belowA w2 (.cells #[.slice c1 n d1, .int .i64 0] 104))
        replace hR := hR.kept (belowA w2 (.cells #[.slice c1 n d1, .int .i64 0] 104))
        replace O1 := O1.kept (belowA w2 (.cells #[.slice c1 n d1, .int .i64 0] 104))
        replace B := thenB B (belowA w2 (.cells #[.slice c1 n d1, .int .i64 0] 104))
        have VQ := V.new w2 [.slice c1 n d1, .int .i64 0] 104
        clear s_VR f_VR z_VR
        obtain ⟨s_VR, f_VR, z_VR⟩ := VR.open
        obtain ⟨s_VQ, f_VQ, z_VQ⟩ := VQ.open
        have Bo := B
        have M := MkB.made hn VQ (O1.mono (show w.heap.size + 1 ≤ _ by have := VR.1; omega)) (by have := VR.1; (try simp only [World.size_alloc] at *); omega) (fun b hb => by have := (OLT.out b hb).2; omega)
        have hQ1 : w.heap.size + 1 ≤ w2.heap.size := by omega
        clear O1 VQ
        go_wp2_with fail
        refine (CPf.out _ _ _ M hR (fun b hb => by have := RL3.out b hb; omega)).mono ?_
        rintro e9 w5 ⟨rfl, M5, G5⟩
        have VR5 := VR.grownB G5 (by omega)
        have B5 := B.grown G5 (by (try simp only [World.size_alloc]); omega) (by intro q hq; simp at hq; omega)
        clear M G5 VR B ha hR Bo
        obtain ⟨c2, d2, VQ, O2, hb5, hne5⟩ := M5
        simp only at VQ O2
        rw [HK.out] at VQ
        have VR := VR5
        have B := B5
        clear VR5 B5
        have OL2 := Hid.mk O2.lt
        clear s_VR f_VR z_VR s_VQ f_VQ z_VQ
        have VF := Hid.mk (VR.filled [.int .i64 0, .int .i64 pv, .slice c2 k2 d2] rfl)
        have BR := belowCells B (show w.heap.size ≤ w.heap.size by (first | omega | (simp; done) | (simp; omega))) 0 [.int .i64 0, .int .i64 pv, .slice c2 k2 d2]
        have HT := Hid.mk VR.there
        replace BR := Hid.mk BR
        have OF := Hid.mk ((O2.apart (B := w.heap.size) (fun b hb => by have := (OL2.out b hb).1; omega) 0 [.int .i64 0, .int .i64 pv, .slice c2 k2 d2]).mono (Nat.le_succ w.heap.size))
        clear O2
        obtain ⟨s_VR, f_VR, z_VR⟩ := VR.open
        obtain ⟨s_VQ, f_VQ, z_VQ⟩ := VQ.open
        go_wp2_with (refine wpList_store_mid rfl 33 _ _ rfl (w.heap.size) 0 #[.int .i64 0, .int .i64 pv, .slice c2 k2 d2] rfl rfl HT.out (by kernel_rfl) (by kernel_rfl) ?_)
        refine bodyPost_ret (v := .agg #[.int .i64 0, .int .i64 pv, .slice c2 k2 d2]) (results_row Try.results55 _ _ (w.heap.size) [.int .i64 0, .int .i64 pv, .slice c2 k2 d2] _ rfl VF.out Try.underlying33 rfl (by kernel_rfl)) rfl ⟨c2, d2, by rw [HK.out], OF.out, BR.out⟩

end Go.Proofs.Ythkmoabkeblbjaa
