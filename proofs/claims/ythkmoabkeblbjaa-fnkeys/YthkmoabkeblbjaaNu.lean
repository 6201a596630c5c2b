/- Put together: TmT, TmU. -/
import Derived.Test.YthkmoabkeblbjaaTmS
import Derived.Test.YthkmoabkeblbjaaMinM

/- PutTerm: both sides. -/
namespace Go.Proofs.Ythkmoabkeblbjaa
open Go.RowKit

theorem bookOf_no (a : Option Addr) (n ca : Nat) (xs : List T4) (w : World) (ha : RdTerm w a xs) (hn : xs.length = n) (hx : n ≤ maxLen) (hok : ∀ t ∈ xs, okT t) (h : tfC xs ≠ 0) :
    Calls Try.prog 78 #[.slice a n ca] w fun e w' => e = .returned (.tuple #[.pointer none, .int .i64 (tfC xs)]) ∧ Below w.heap.size w w' := by
  refine (bookOf_ok a n ca xs w ha hn hx hok).mono ?_
  rintro e w' ⟨v, k, rfl, rfl, b, h1 | h1⟩
  · exact ⟨by rw [h1.2], b⟩
  · exact absurd h1.1 h

theorem bookOf_yes (a : Option Addr) (n ca : Nat) (xs : List T4) (w : World) (ha : RdTerm w a xs) (hn : xs.length = n) (hx : n ≤ maxLen) (hok : ∀ t ∈ xs, okT t) (h : tfC xs = 0) :
    Calls Try.prog 78 #[.slice a n ca] w fun e w' => ∃ p g c d, e = .returned (.tuple #[.pointer (some ⟨p, 0, none⟩), .int .i64 0]) ∧ Bk w' w.heap.size p g c d xs ∧ Below w.heap.size w w' := by
  refine (bookOf_ok a n ca xs w ha hn hx hok).mono ?_
  rintro e w' ⟨v, k, rfl, rfl, b, h1 | h1⟩
  · exact absurd h h1.1
  · obtain ⟨h2, c, d, rfl, H⟩ := h1
    exact ⟨_, _, c, d, by rw [h2], H, b⟩

theorem put_no {xs : List T4} {t : T4} (h : (put xs t).c ≠ 0) : (put xs t).k = 0 ∧ (put xs t).l = [] := by
  rcases put_ways xs t with ⟨_, e⟩ | ⟨_, _, e⟩ | ⟨_, _, _, e⟩ | ⟨_, _, _, e⟩ <;> rw [e] at h ⊢ <;> simp at h ⊢

/-- What comes of putting a term into whatever table. -/
@[irreducible] def ptT (xs : List T4) (t : T4) : Put := if tfC xs = 0 then put xs t else ⟨tfC xs, 0, []⟩

theorem pt_ways (xs : List T4) (t : T4) : (tfC xs ≠ 0 ∧ ptT xs t = ⟨tfC xs, 0, []⟩) ∨ (tfC xs = 0 ∧ ptT xs t = put xs t) := by
  unfold ptT
  by_cases h : tfC xs = 0
  · exact .inr ⟨h, by rw [if_pos h]⟩
  · exact .inl ⟨h, by rw [if_neg h]⟩

/-- The both of two secrets. -/
@[irreducible] def bothT (x y : Int) : T4 := ⟨7, min x y, max x y, 0⟩

set_option maxRecDepth 20000 in
set_option maxHeartbeats 4000000 in
theorem specPutTerm_ok (a : Option Addr) (n ca : Nat) (xs : List T4) (t : T4) (w : World) (ha : RdTerm w a xs) (hn : xs.length = n) (hx : n ≤ 1048576) (hca : n ≤ ca) (hcn : a = none → ca = 0) :
    Calls Try.prog 18 #[.slice a n ca, .agg #[.int .i64 t.o, .int .i64 t.a, .int .i64 t.b, .int .i64 t.n]] w fun e w' => ∃ c d, e = .returned (.agg #[.int .i64 (ptT xs t).c, .int .i64 (ptT xs t).k, .slice c (ptT xs t).l.length d]) ∧ OwnTerm w' w.heap.size c d (ptT xs t).l ∧ Below w.heap.size w w' := by
  have q1 := build_tr0'
  have CT := Hid.mk (fun w h => specTermsFault_ok a n ca xs w h hn (by unfold maxLen; omega) hca)
  rcases pt_ways xs t with ⟨h1, hr⟩ | ⟨h1, hr⟩
  rotate_left
  have hl4 := (tfC_zero h1).1
  have CP := Hid.mk (fun w h => l5Put_ok a n ca xs t w h hn (by omega) hcn)
  rotate_left
  · have h2 : (tfC xs != 0) = true := by simp [h1]
    rw [hr]
    clear hr h1
    generalize tfC xs = kk at *
    go_enter Try.func18, Try.ntmps18
    have B := Below.refl w.heap.size w
    replace ha := ha.kept (belowA w (.cells #[.int .i64 t.o, .int .i64 t.a, .int .i64 t.b, .int .i64 t.n] 36))
    replace B := thenB B (belowA w (.cells #[.int .i64 t.o, .int .i64 t.a, .int .i64 t.b, .int .i64 t.n] 36))
    have VX := V.new w [.int .i64 t.o, .int .i64 t.a, .int .i64 t.b, .int .i64 t.n] 36
    replace VX := VX.kept (belowA (w.alloc (.cells #[.int .i64 t.o, .int .i64 t.a, .int .i64 t.b, .int .i64 t.n] 36)) (.cells #[.int .i64 0, .int .i64 0, .slice none 0 0] 33))
    replace ha := ha.kept (belowA (w.alloc (.cells #[.int .i64 t.o, .int .i64 t.a, .int .i64 t.b, .int .i64 t.n] 36)) (.cells #[.int .i64 0, .int .i64 0, .slice none 0 0] 33))
    replace B := thenB B (belowA (w.alloc (.cells #[.int .i64 t.o, .int .i64 t.a, .int .i64 t.b, .int .i64 t.n] 36)) (.cells #[.int .i64 0, .int .i64 0, .slice none 0 0] 33))
    have VR : V ((w.alloc (.cells #[.int .i64 t.o, .int .i64 t.a, .int .i64 t.b, .int .i64 t.n] 36)).alloc (.cells #[.int .i64 0, .int .i64 0, .slice none 0 0] 33)) (w.heap.size + 1) [.int .i64 0, .int .i64 0, .slice none 0 0] := V.newAt _ _ _ _ (by simp)
    obtain ⟨s_VX, f_VX, z_VX⟩ := VX.open
    obtain ⟨s_VR, f_VR, z_VR⟩ := VR.open
    have Bo := B
    go_wp2_with fail
    refine (CT.out _ ha).mono ?_
    rintro e w1 ⟨rfl, b1⟩
    clear s_VX f_VX z_VX s_VR f_VR z_VR
    have S1 := b1.size
    simp only [World.size_alloc] at S1
    replace VX := VX.kept b1
    replace VR := VR.kept b1
    replace ha := ha.kept b1
    replace B := thenB B b1
    clear b1
    obtain ⟨s_VX, f_VX, z_VX⟩ := VX.open
    obtain ⟨s_VR, f_VR, z_VR⟩ := VR.open
    have Bo := B
    clear s_VX f_VX z_VX s_VR f_VR z_VR
    have VF := Hid.mk (VR.filled [.int .i64 kk, .int .i64 0, .slice none 0 0] rfl)
    have HT := Hid.mk VR.there
    have BR := belowCells B (show w.heap.size ≤ w.heap.size + 1 by (first | omega | (simp; done) | (simp; omega))) 0 [.int .i64 kk, .int .i64 0, .slice none 0 0]
    replace BR := Hid.mk BR
    obtain ⟨s_VX, f_VX, z_VX⟩ := VX.open
    obtain ⟨s_VR, f_VR, z_VR⟩ := VR.open
    go_wp2_with (refine wpList_store_mid rfl 33 _ _ rfl (w.heap.size + 1) 0 #[.int .i64 kk, .int .i64 0, .slice none 0 0] rfl rfl HT.out (by kernel_rfl) (by kernel_rfl) ?_)
    refine bodyPost_ret (v := .agg #[.int .i64 kk, .int .i64 0, .slice none 0 0]) (results_row Try.results18 _ _ (w.heap.size + 1) [.int .i64 kk, .int .i64 0, .slice none 0 0] _ rfl VF.out Try.underlying33 rfl (by kernel_rfl)) rfl ⟨none, 0, rfl, OwnTerm.none, BR.out⟩
  · rw [hr]
    rw [h1] at CT
    clear hr h1
    generalize put xs t = P at *
    obtain ⟨kc, kk, ls⟩ := P
    simp only at *
    obtain ⟨kl, hkl⟩ : ∃ m, ls.length = m := ⟨_, rfl⟩
    rw [hkl] at CP ⊢
    replace hkl := Hid.mk hkl
    go_enter Try.func18, Try.ntmps18
    have B := Below.refl w.heap.size w
    replace ha := ha.kept (belowA w (.cells #[.int .i64 t.o, .int .i64 t.a, .int .i64 t.b, .int .i64 t.n] 36))
    replace B := thenB B (belowA w (.cells #[.int .i64 t.o, .int .i64 t.a, .int .i64 t.b, .int .i64 t.n] 36))
    have VX := V.new w [.int .i64 t.o, .int .i64 t.a, .int .i64 t.b, .int .i64 t.n] 36
    replace VX := VX.kept (belowA (w.alloc (.cells #[.int .i64 t.o, .int .i64 t.a, .int .i64 t.b, .int .i64 t.n] 36)) (.cells #[.int .i64 0, .int .i64 0, .slice none 0 0] 33))
    replace ha := ha.kept (belowA (w.alloc (.cells #[.int .i64 t.o, .int .i64 t.a, .int .i64 t.b, .int .i64 t.n] 36)) (.cells #[.int .i64 0, .int .i64 0, .slice none 0 0] 33))
    replace B := thenB B (belowA (w.alloc (.cells #[.int .i64 t.o, .int .i64 t.a, .int .i64 t.b, .int .i64 t.n] 36)) (.cells #[.int .i64 0, .int .i64 0, .slice none 0 0] 33))
    have VR : V ((w.alloc (.cells #[.int .i64 t.o, .int .i64 t.a, .int .i64 t.b, .int .i64 t.n] 36)).alloc (.cells #[.int .i64 0, .int .i64 0, .slice none 0 0] 33)) (w.heap.size + 1) [.int .i64 0, .int .i64 0, .slice none 0 0] := V.newAt _ _ _ _ (by simp)
    obtain ⟨s_VX, f_VX, z_VX⟩ := VX.open
    obtain ⟨s_VR, f_VR, z_VR⟩ := VR.open
    have Bo := B
    go_wp2_with fail
    refine (CT.out _ ha).mono ?_
    rintro e w21 ⟨rfl, b21⟩
    clear s_VX f_VX z_VX s_VR f_VR z_VR
    have S21 := b21.size
    simp only [World.size_alloc] at S21
    replace VX := VX.kept b21
    replace VR := VR.kept b21
    replace ha := ha.kept b21
    replace B := thenB B b21
    clear b21
    obtain ⟨s_VX, f_VX, z_VX⟩ := VX.open
    obtain ⟨s_VR, f_VR, z_VR⟩ := VR.open
    have Bo := B
    go_wp2_with fail
    refine (CP.out _ ha).mono ?_
    rintro e w22 ⟨c, d, rfl, O, b22⟩
    clear s_VX f_VX z_VX s_VR f_VR z_VR
    have S22 := b22.size
    replace VX := VX.kept b22
    replace VR := VR.kept b22
    replace ha := ha.kept b22
    replace B := thenB B b22
    clear b22
    obtain ⟨s_VX, f_VX, z_VX⟩ := VX.open
    obtain ⟨s_VR, f_VR, z_VR⟩ := VR.open
    have Bo := B
    have OL := Hid.mk (fun b hb => (O.lt b hb).1)
    clear s_VX f_VX z_VX s_VR f_VR z_VR
    have VF := Hid.mk (VR.filled [.int .i64 kc, .int .i64 kk, .slice c kl d] rfl)
    have HT := Hid.mk VR.there
    have BR := belowCells B (show w.heap.size ≤ w.heap.size + 1 by (first | omega | (simp; done) | (simp; omega))) 0 [.int .i64 kc, .int .i64 kk, .slice c kl d]
    replace BR := Hid.mk BR
    have HO := Hid.mk ((O.mono (show w.heap.size ≤ _ by first | omega | (simp; done) | (simp; omega))).apart (B := w.heap.size + 1) (by intro b hb; have := OL.out b hb; first | omega | (simp at this; omega)) 0 [.int .i64 kc, .int .i64 kk, .slice c kl d])
    obtain ⟨s_VX, f_VX, z_VX⟩ := VX.open
    obtain ⟨s_VR, f_VR, z_VR⟩ := VR.open
    go_wp2_with (refine wpList_store_mid rfl 33 _ _ rfl (w.heap.size + 1) 0 #[.int .i64 kc, .int .i64 kk, .slice c kl d] rfl rfl HT.out (by kernel_rfl) (by kernel_rfl) ?_)
    refine bodyPost_ret (v := .agg #[.int .i64 kc, .int .i64 kk, .slice c kl d]) (results_row Try.results18 _ _ (w.heap.size + 1) [.int .i64 kc, .int .i64 kk, .slice c kl d] _ rfl VF.out Try.underlying33 rfl (by kernel_rfl)) rfl ⟨c, d, rfl, HO.out, BR.out⟩

set_option maxRecDepth 20000 in
set_option maxHeartbeats 4000000 in
theorem implPutTerm_ok (a : Option Addr) (n ca : Nat) (xs : List T4) (t : T4) (w : World) (ha : RdTerm w a xs) (hn : xs.length = n) (hx : n ≤ 1048576) (hok : ∀ t ∈ xs, okT t) (ht : okT t) :
    Calls Try.prog 17 #[.slice a n ca, .agg #[.int .i64 t.o, .int .i64 t.a, .int .i64 t.b, .int .i64 t.n]] w fun e w' => ∃ c d, e = .returned (.agg #[.int .i64 (ptT xs t).c, .int .i64 (ptT xs t).k, .slice c (ptT xs t).l.length d]) ∧ OwnTerm w' w.heap.size c d (ptT xs t).l ∧ Below w.heap.size w w' := by
  have q1 := build_tr0'
  rcases pt_ways xs t with ⟨h1, hr⟩ | ⟨h1, hr⟩
  · have h2 : (tfC xs != 0) = true := by simp [h1]
    have CB := Hid.mk (fun w h => bookOf_no a n ca xs w h hn (by unfold maxLen; omega) hok h1)
    rw [hr]
    clear hr h1
    generalize tfC xs = kk at *
    go_enter Try.func17, Try.ntmps17
    have B := Below.refl w.heap.size w
    replace ha := ha.kept (belowA w (.cells #[.int .i64 t.o, .int .i64 t.a, .int .i64 t.b, .int .i64 t.n] 36))
    replace B := thenB B (belowA w (.cells #[.int .i64 t.o, .int .i64 t.a, .int .i64 t.b, .int .i64 t.n] 36))
    have VX := V.new w [.int .i64 t.o, .int .i64 t.a, .int .i64 t.b, .int .i64 t.n] 36
    replace VX := VX.kept (belowA (w.alloc (.cells #[.int .i64 t.o, .int .i64 t.a, .int .i64 t.b, .int .i64 t.n] 36)) (.cells #[.int .i64 0, .int .i64 0, .slice none 0 0] 33))
    replace ha := ha.kept (belowA (w.alloc (.cells #[.int .i64 t.o, .int .i64 t.a, .int .i64 t.b, .int .i64 t.n] 36)) (.cells #[.int .i64 0, .int .i64 0, .slice none 0 0] 33))
    replace B := thenB B (belowA (w.alloc (.cells #[.int .i64 t.o, .int .i64 t.a, .int .i64 t.b, .int .i64 t.n] 36)) (.cells #[.int .i64 0, .int .i64 0, .slice none 0 0] 33))
    have VR : V ((w.alloc (.cells #[.int .i64 t.o, .int .i64 t.a, .int .i64 t.b, .int .i64 t.n] 36)).alloc (.cells #[.int .i64 0, .int .i64 0, .slice none 0 0] 33)) (w.heap.size + 1) [.int .i64 0, .int .i64 0, .slice none 0 0] := V.newAt _ _ _ _ (by simp)
    obtain ⟨s_VX, f_VX, z_VX⟩ := VX.open
    obtain ⟨s_VR, f_VR, z_VR⟩ := VR.open
    have Bo := B
    go_wp2_with fail
    refine (CB.out _ ha).mono ?_
    rintro e w1 ⟨rfl, b1⟩
    clear s_VX f_VX z_VX s_VR f_VR z_VR
    have S1 := b1.size
    simp only [World.size_alloc] at S1
    replace VX := VX.kept b1
    replace VR := VR.kept b1
    replace ha := ha.kept b1
    replace B := thenB B b1
    clear b1
    obtain ⟨s_VX, f_VX, z_VX⟩ := VX.open
    obtain ⟨s_VR, f_VR, z_VR⟩ := VR.open
    have Bo := B
    clear s_VX f_VX z_VX s_VR f_VR z_VR
    have VF := Hid.mk (VR.filled [.int .i64 kk, .int .i64 0, .slice none 0 0] rfl)
    have HT := Hid.mk VR.there
    have BR := belowCells B (show w.heap.size ≤ w.heap.size + 1 by (first | omega | (simp; done) | (simp; omega))) 0 [.int .i64 kk, .int .i64 0, .slice none 0 0]
    replace BR := Hid.mk BR
    obtain ⟨s_VX, f_VX, z_VX⟩ := VX.open
    obtain ⟨s_VR, f_VR, z_VR⟩ := VR.open
    go_wp2_with (refine wpList_store_mid rfl 33 _ _ rfl (w.heap.size + 1) 0 #[.int .i64 kk, .int .i64 0, .slice none 0 0] rfl rfl HT.out (by kernel_rfl) (by kernel_rfl) ?_)
    refine bodyPost_ret (v := .agg #[.int .i64 kk, .int .i64 0, .slice none 0 0]) (results_row Try.results17 _ _ (w.heap.size + 1) [.int .i64 kk, .int .i64 0, .slice none 0 0] _ rfl VF.out Try.underlying33 rfl (by kernel_rfl)) rfl ⟨none, 0, rfl, OwnTerm.none, BR.out⟩
  · have CB := Hid.mk (fun w h => bookOf_yes a n ca xs w h hn (by unfold maxLen; omega) hok h1)
    have hl4 := (tfC_zero h1).1
    have CP := Hid.mk (fun base p g c d w H => put_ok base p g c d xs t w H ht hl4)
    rw [hr]
    by_cases hc : (put xs t).c = 0
    · have e1 : putL xs t = (put xs t).l := by unfold putL; rw [if_pos hc]
      rw [e1] at CP
      clear e1 hr h1
      generalize put xs t = P at *
      obtain ⟨kc, kk, ls⟩ := P
      simp only at *
      subst hc
      obtain ⟨kl, hkl⟩ : ∃ m, ls.length = m := ⟨_, rfl⟩
      rw [hkl]
      replace hkl := Hid.mk hkl
      go_enter Try.func17, Try.ntmps17
      have B := Below.refl w.heap.size w
      replace ha := ha.kept (belowA w (.cells #[.int .i64 t.o, .int .i64 t.a, .int .i64 t.b, .int .i64 t.n] 36))
      replace B := thenB B (belowA w (.cells #[.int .i64 t.o, .int .i64 t.a, .int .i64 t.b, .int .i64 t.n] 36))
      have VX := V.new w [.int .i64 t.o, .int .i64 t.a, .int .i64 t.b, .int .i64 t.n] 36
      replace VX := VX.kept (belowA (w.alloc (.cells #[.int .i64 t.o, .int .i64 t.a, .int .i64 t.b, .int .i64 t.n] 36)) (.cells #[.int .i64 0, .int .i64 0, .slice none 0 0] 33))
      replace ha := ha.kept (belowA (w.alloc (.cells #[.int .i64 t.o, .int .i64 t.a, .int .i64 t.b, .int .i64 t.n] 36)) (.cells #[.int .i64 0, .int .i64 0, .slice none 0 0] 33))
      replace B := thenB B (belowA (w.alloc (.cells #[.int .i64 t.o, .int .i64 t.a, .int .i64 t.b, .int .i64 t.n] 36)) (.cells #[.int .i64 0, .int .i64 0, .slice none 0 0] 33))
      have VR : V ((w.alloc (.cells #[.int .i64 t.o, .int .i64 t.a, .int .i64 t.b, .int .i64 t.n] 36)).alloc (.cells #[.int .i64 0, .int .i64 0, .slice none 0 0] 33)) (w.heap.size + 1) [.int .i64 0, .int .i64 0, .slice none 0 0] := V.newAt _ _ _ _ (by simp)
      obtain ⟨s_VX, f_VX, z_VX⟩ := VX.open
      obtain ⟨s_VR, f_VR, z_VR⟩ := VR.open
      have Bo := B
      go_wp2_with fail
      refine (CB.out _ ha).mono ?_
      rintro e w21 ⟨p, g, c0, d0, rfl, H, b21⟩
      clear s_VX f_VX z_VX s_VR f_VR z_VR
      have S21 := b21.size
      simp only [World.size_alloc] at S21
      replace VX := VX.kept b21
      replace VR := VR.kept b21
      replace ha := ha.kept b21
      replace B := thenB B b21
      clear b21
      obtain ⟨s_VX, f_VX, z_VX⟩ := VX.open
      obtain ⟨s_VR, f_VR, z_VR⟩ := VR.open
      have Bo := B
      have hlt0 := H.lt
      simp only [World.size_alloc] at hlt0
      have hlt := Hid.mk hlt0
      clear hlt0
      have hvr := VR.1
      have hsz := Hid.mk B.size
      have VRN : Hid (¬ BkX p g c0 (w.heap.size + 1)) := Hid.mk (fun e => by have := (hlt.out _ e).1; omega)
      go_wp2_with fail
      refine (CP.out _ p g c0 d0 _ H).mono ?_
      rintro e w9 ⟨c, d, rfl, H9, S9, -⟩
      clear s_VX f_VX z_VX s_VR f_VR z_VR
      replace VR := VR.sm S9 VRN.out
      have B9 := S9.below' B (by omega) (fun j hj => by have := (hlt.out j hj).1; omega)
      clear S9 H VX ha B Bo
      have B := B9
      clear B9
      have VP := H9.v
      rw [hkl.out] at VP
      have CA := Hid.mk (fun w h => answer_yes p g c kl d kk w h)
      obtain ⟨s_VR, f_VR, z_VR⟩ := VR.open
      have Bo := B
      go_wp2_with fail
      refine (CA.out _ VP).mono ?_
      rintro e w22 ⟨rfl, b22⟩
      clear s_VR f_VR z_VR
      have S22 := b22.size
      replace VR := VR.kept b22
      replace H9 := H9.kept b22
      replace B := thenB B b22
      clear b22
      obtain ⟨s_VR, f_VR, z_VR⟩ := VR.open
      have Bo := B
      have OL := Hid.mk (fun b hb => (H9.o.lt b hb).1)
      clear s_VR f_VR z_VR
      have VF := Hid.mk (VR.filled [.int .i64 0, .int .i64 kk, .slice c kl d] rfl)
      have HT := Hid.mk VR.there
      have BR := belowCells B (show w.heap.size ≤ w.heap.size + 1 by (first | omega | (simp; done) | (simp; omega))) 0 [.int .i64 0, .int .i64 kk, .slice c kl d]
      replace BR := Hid.mk BR
      have HO := Hid.mk ((H9.o.mono (show w.heap.size ≤ _ by first | omega | (simp; done) | (simp; omega))).apart (B := w.heap.size + 1) (by intro b hb; have := OL.out b hb; first | omega | (simp at this; omega)) 0 [.int .i64 0, .int .i64 kk, .slice c kl d])
      obtain ⟨s_VR, f_VR, z_VR⟩ := VR.open
      go_wp2_with (refine wpList_store_mid rfl 33 _ _ rfl (w.heap.size + 1) 0 #[.int .i64 0, .int .i64 kk, .slice c kl d] rfl rfl HT.out (by kernel_rfl) (by kernel_rfl) ?_)
      refine bodyPost_ret (v := .agg #[.int .i64 0, .int .i64 kk, .slice c kl d]) (results_row Try.results17 _ _ (w.heap.size + 1) [.int .i64 0, .int .i64 kk, .slice c kl d] _ rfl VF.out Try.underlying33 rfl (by kernel_rfl)) rfl ⟨c, d, rfl, HO.out, BR.out⟩
    · obtain ⟨e1, e2⟩ := put_no hc
      have HC := Hid.mk hc
      rw [e1] at CP
      rw [e1, e2]
      clear e1 e2 hr h1 hc
      generalize (put xs t).c = kc at *
      go_enter Try.func17, Try.ntmps17
      have B := Below.refl w.heap.size w
      replace ha := ha.kept (belowA w (.cells #[.int .i64 t.o, .int .i64 t.a, .int .i64 t.b, .int .i64 t.n] 36))
      replace B := thenB B (belowA w (.cells #[.int .i64 t.o, .int .i64 t.a, .int .i64 t.b, .int .i64 t.n] 36))
      have VX := V.new w [.int .i64 t.o, .int .i64 t.a, .int .i64 t.b, .int .i64 t.n] 36
      replace VX := VX.kept (belowA (w.alloc (.cells #[.int .i64 t.o, .int .i64 t.a, .int .i64 t.b, .int .i64 t.n] 36)) (.cells #[.int .i64 0, .int .i64 0, .slice none 0 0] 33))
      replace ha := ha.kept (belowA (w.alloc (.cells #[.int .i64 t.o, .int .i64 t.a, .int .i64 t.b, .int .i64 t.n] 36)) (.cells #[.int .i64 0, .int .i64 0, .slice none 0 0] 33))
      replace B := thenB B (belowA (w.alloc (.cells #[.int .i64 t.o, .int .i64 t.a, .int .i64 t.b, .int .i64 t.n] 36)) (.cells #[.int .i64 0, .int .i64 0, .slice none 0 0] 33))
      have VR : V ((w.alloc (.cells #[.int .i64 t.o, .int .i64 t.a, .int .i64 t.b, .int .i64 t.n] 36)).alloc (.cells #[.int .i64 0, .int .i64 0, .slice none 0 0] 33)) (w.heap.size + 1) [.int .i64 0, .int .i64 0, .slice none 0 0] := V.newAt _ _ _ _ (by simp)
      obtain ⟨s_VX, f_VX, z_VX⟩ := VX.open
      obtain ⟨s_VR, f_VR, z_VR⟩ := VR.open
      have Bo := B
      go_wp2_with fail
      refine (CB.out _ ha).mono ?_
      rintro e w41 ⟨p, g, c0, d0, rfl, H, b41⟩
      clear s_VX f_VX z_VX s_VR f_VR z_VR
      have S41 := b41.size
      simp only [World.size_alloc] at S41
      replace VX := VX.kept b41
      replace VR := VR.kept b41
      replace ha := ha.kept b41
      replace B := thenB B b41
      clear b41
      obtain ⟨s_VX, f_VX, z_VX⟩ := VX.open
      obtain ⟨s_VR, f_VR, z_VR⟩ := VR.open
      have Bo := B
      have hlt0 := H.lt
      simp only [World.size_alloc] at hlt0
      have hlt := Hid.mk hlt0
      clear hlt0
      have hvr := VR.1
      have hsz := Hid.mk B.size
      have VRN : Hid (¬ BkX p g c0 (w.heap.size + 1)) := Hid.mk (fun e => by have := (hlt.out _ e).1; omega)
      go_wp2_with fail
      refine (CP.out _ p g c0 d0 _ H).mono ?_
      rintro e w9 ⟨c, d, rfl, H9, S9, -⟩
      clear s_VX f_VX z_VX s_VR f_VR z_VR
      replace VR := VR.sm S9 VRN.out
      have B9 := S9.below' B (by omega) (fun j hj => by have := (hlt.out j hj).1; omega)
      clear S9 H VX ha B Bo
      have B := B9
      clear B9
      have VP := H9.v
      have CA := Hid.mk (fun w h => answer_no p g c (putL xs t).length d kc HC.out w h)
      have HC2 := HC.out
      obtain ⟨s_VR, f_VR, z_VR⟩ := VR.open
      have Bo := B
      go_wp2_with fail
      refine (CA.out _ VP).mono ?_
      rintro e w42 ⟨rfl, b42⟩
      clear s_VR f_VR z_VR
      have S42 := b42.size
      replace VR := VR.kept b42
      replace B := thenB B b42
      clear b42
      obtain ⟨s_VR, f_VR, z_VR⟩ := VR.open
      have Bo := B
      clear s_VR f_VR z_VR
      have VF := Hid.mk (VR.filled [.int .i64 kc, .int .i64 0, .slice none 0 0] rfl)
      have HT := Hid.mk VR.there
      have BR := belowCells B (show w.heap.size ≤ w.heap.size + 1 by (first | omega | (simp; done) | (simp; omega))) 0 [.int .i64 kc, .int .i64 0, .slice none 0 0]
      replace BR := Hid.mk BR
      obtain ⟨s_VR, f_VR, z_VR⟩ := VR.open
      go_wp2_with (refine wpList_store_mid rfl 33 _ _ rfl (w.heap.size + 1) 0 #[.int .i64 kc, .int .i64 0, .slice none 0 0] rfl rfl HT.out (by kernel_rfl) (by kernel_rfl) ?_)
      refine bodyPost_ret (v := .agg #[.int .i64 kc, .int .i64 0, .slice none 0 0]) (results_row Try.results17 _ _ (w.heap.size + 1) [.int .i64 kc, .int .i64 0, .slice none 0 0] _ rfl VF.out Try.underlying33 rfl (by kernel_rfl)) rfl ⟨none, 0, rfl, OwnTerm.none, BR.out⟩

end Go.Proofs.Ythkmoabkeblbjaa

/- PutBoth: both sides. -/
namespace Go.Proofs.Ythkmoabkeblbjaa
open Go.RowKit

theorem build_bothT (x y : Int) (w : World) : (Instr.build 36 #[(0, .int .i64 7), (1, .int .i64 x), (2, .int .i64 y)]).run Try.prog w = .ok (.agg #[.int .i64 7, .int .i64 x, .int .i64 y, .int .i64 0]) w := run_build w 36 _ _ (by kernel_rfl)

set_option maxRecDepth 20000 in
set_option maxHeartbeats 4000000 in
theorem l5Both_ok (a : Option Addr) (n ca : Nat) (xs : List T4) (x y : Int) (w : World) (ha : RdTerm w a xs) (hn : xs.length = n) (hx : n ≤ 1000000) (hcn : a = none → ca = 0) :
    Calls Try.prog 120 #[.slice a n ca, .int .i64 x, .int .i64 y] w fun e w' => ∃ c d, e = .returned (.agg #[.int .i64 (put xs (bothT x y)).c, .int .i64 (put xs (bothT x y)).k, .slice c (put xs (bothT x y)).l.length d]) ∧ OwnTerm w' w.heap.size c d (put xs (bothT x y)).l ∧ Below w.heap.size w w' := by
  have q1 := build_bothT
  have CP := Hid.mk (fun w h => l5Put_ok a n ca xs (bothT x y) w h hn hx hcn)
  generalize put xs (bothT x y) = P at *
  obtain ⟨kc, kk, ls⟩ := P
  simp only at *
  obtain ⟨kl, hkl⟩ : ∃ m, ls.length = m := ⟨_, rfl⟩
  rw [hkl] at CP ⊢
  replace hkl := Hid.mk hkl
  unfold bothT at CP
  go_enter Try.func120, Try.ntmps120
  have B := Below.refl w.heap.size w
  replace ha := ha.kept (belowA w (.cells #[.int .i64 0, .int .i64 0, .slice none 0 0] 33))
  replace B := thenB B (belowA w (.cells #[.int .i64 0, .int .i64 0, .slice none 0 0] 33))
  have VR := V.new w [.int .i64 0, .int .i64 0, .slice none 0 0] 33
  obtain ⟨s_VR, f_VR, z_VR⟩ := VR.open
  have Bo := B
  go_wp2_with (first | (go_at_call 110; refine (l3Min_ok _ _ _).mono ?_; rintro e wq ⟨rfl, rfl⟩) | (go_at_call 63; refine (l3Max_ok _ _ _).mono ?_; rintro e wq ⟨rfl, rfl⟩) | fail)
  refine (CP.out _ ha).mono ?_
  rintro e w1 ⟨c, d, rfl, O, b1⟩
  clear s_VR f_VR z_VR
  have S1 := b1.size
  simp only [World.size_alloc] at S1
  replace VR := VR.kept b1
  replace ha := ha.kept b1
  replace B := thenB B b1
  clear b1
  obtain ⟨s_VR, f_VR, z_VR⟩ := VR.open
  have Bo := B
  have OL := Hid.mk (fun b hb => (O.lt b hb).1)
  clear s_VR f_VR z_VR
  have VF := Hid.mk (VR.filled [.int .i64 kc, .int .i64 kk, .slice c kl d] rfl)
  have HT := Hid.mk VR.there
  have BR := belowCells B (show w.heap.size ≤ w.heap.size by (first | omega | (simp; done) | (simp; omega))) 0 [.int .i64 kc, .int .i64 kk, .slice c kl d]
  replace BR := Hid.mk BR
  have HO := Hid.mk ((O.mono (show w.heap.size ≤ _ by first | omega | (simp; done) | (simp; omega))).apart (B := w.heap.size) (by intro b hb; have := OL.out b hb; first | omega | (simp at this; omega)) 0 [.int .i64 kc, .int .i64 kk, .slice c kl d])
  obtain ⟨s_VR, f_VR, z_VR⟩ := VR.open
  go_wp2_with (refine wpList_store_mid rfl 33 _ _ rfl (w.heap.size) 0 #[.int .i64 kc, .int .i64 kk, .slice c kl d] rfl rfl HT.out (by kernel_rfl) (by kernel_rfl) ?_)
  refine bodyPost_ret (v := .agg #[.int .i64 kc, .int .i64 kk, .slice c kl d]) (results_row Try.results120 _ _ (w.heap.size) [.int .i64 kc, .int .i64 kk, .slice c kl d] _ rfl VF.out Try.underlying33 rfl (by kernel_rfl)) rfl ⟨c, d, rfl, HO.out, BR.out⟩

set_option maxHeartbeats 1000000 in
theorem bothOf_ok (x y : Int) (w : World) : Calls Try.prog 71 #[.int .i64 x, .int .i64 y] w fun e w' => e = .returned (.agg #[.int .i64 7, .int .i64 (min x y), .int .i64 (max x y), .int .i64 0]) ∧ Below w.heap.size w w' := by
  have q1 := build_bothT
  rcases (by omega : x < y ∨ x = y ∨ y < x) with h | h | h
  · have e1 : min x y = x := Int.min_eq_left (by omega)
    have e2 : max x y = y := Int.max_eq_right (by omega)
    rw [e1, e2]
    clear e1 e2
    have h2 : x ≤ y := by omega
    have h3 : ¬ (y < x) := by omega
    have h4 : ¬ (y ≤ x) := by omega
    go_enter Try.func71, Try.ntmps71
    go_wp2
    refine bodyPost_ret (v := .agg #[.int .i64 7, .int .i64 x, .int .i64 y, .int .i64 0]) (by simp [results, Try.results71, go_sem]) rfl ⟨rfl, ?_⟩
    repeat' (first | exact Below.refl _ _ | refine Below.alloc ?_ (by simp) _ | refine Below.setCell ?_ (by simp) _ | refine Below.drew ?_)
  · subst h
    have e1 : min x x = x := Int.min_self x
    have e2 : max x x = x := Int.max_self x
    rw [e1, e2]
    clear e1 e2
    have h2 : x ≤ x := by omega
    have h3 : ¬ (x < x) := by omega
    go_enter Try.func71, Try.ntmps71
    go_wp2
    refine bodyPost_ret (v := .agg #[.int .i64 7, .int .i64 x, .int .i64 x, .int .i64 0]) (by simp [results, Try.results71, go_sem]) rfl ⟨rfl, ?_⟩
    repeat' (first | exact Below.refl _ _ | refine Below.alloc ?_ (by simp) _ | refine Below.setCell ?_ (by simp) _ | refine Below.drew ?_)
  · have e1 : min x y = y := Int.min_eq_right (by omega)
    have e2 : max x y = x := Int.max_eq_left (by omega)
    rw [e1, e2]
    clear e1 e2
    have h2 : y ≤ x := by omega
    have h3 : ¬ (x < y) := by omega
    have h4 : ¬ (x ≤ y) := by omega
    go_enter Try.func71, Try.ntmps71
    go_wp2
    refine bodyPost_ret (v := .agg #[.int .i64 7, .int .i64 y, .int .i64 x, .int .i64 0]) (by simp [results, Try.results71, go_sem]) rfl ⟨rfl, ?_⟩
    repeat' (first | exact Below.refl _ _ | refine Below.alloc ?_ (by simp) _ | refine Below.setCell ?_ (by simp) _ | refine Below.drew ?_)

theorem okI_min {x y : Int} (hx : okI x) (hy : okI y) : okI (min x y) := by
  rcases Int.le_total x y with h | h
  · rw [Int.min_eq_left h]; exact hx
  · rw [Int.min_eq_right h]; exact hy

theorem okI_max {x y : Int} (hx : okI x) (hy : okI y) : okI (max x y) := by
  rcases Int.le_total x y with h | h
  · rw [Int.max_eq_right h]; exact hy
  · rw [Int.max_eq_left h]; exact hx

theorem okT_both {x y : Int} (hx : okI x) (hy : okI y) : okT (bothT x y) := by
  unfold bothT
  exact ⟨(okI_of (by decide) (by decide) : okI 7), okI_min hx hy, okI_max hx hy, (okI_of (by decide) (by decide) : okI 0)⟩

end Go.Proofs.Ythkmoabkeblbjaa
