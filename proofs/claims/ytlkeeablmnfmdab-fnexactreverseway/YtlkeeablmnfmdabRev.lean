/- 'ReverseWay', the model's and the program's, by contracts. -/
import Derived.Test.YtlkeeablmnfmdabSame
import Derived.Test.YtlkeeablmnfmdabVar
namespace Go.Proofs.Ytlkeeablmnfmdab
open Go.RowKit

/-- What is answered beside a code: nothing, if there is one. -/
@[irreducible] def z0 (k v : Int) : Int := if k = 0 then v else 0
@[irreducible] def zl (k : Int) (xs : List Int) : List Int := if k = 0 then xs else []

theorem z0_0 (v : Int) : z0 0 v = v := by unfold z0; simp
theorem zl_0 (xs : List Int) : zl 0 xs = xs := by unfold zl; simp
theorem z0_1 {k : Int} (h : k ≠ 0) (v : Int) : z0 k v = 0 := by unfold z0; simp [h]
theorem zl_1 {k : Int} (h : k ≠ 0) (xs : List Int) : zl k xs = [] := by unfold zl; simp [h]
theorem zl_len (k : Int) (xs : List Int) : (zl k xs).length ≤ xs.length := by unfold zl; split <;> simp

theorem pfC_len {f t r l x y : Int} {n : Nat} (h : pfC f t r l x y n = 0) : n ≤ 200 := (pfC_zero h).2.2

set_option maxHeartbeats 1000000 in
theorem implReverseWay_ok (f t r l x y : Int) (a : Option Addr) (n ca : Nat) (xs : List Int) (w : World) (hR : Rd .u8 w a xs) (hn : xs.length = n) :
    Calls Try.prog 14 #[.agg #[.int .i64 f, .int .i64 t, .int .i64 r, .int .i64 l, .int .i64 x, .int .i64 y, .slice a n ca]] w fun e w' =>
      ∃ c d, e = .returned (.agg #[.int .i64 (pfC f t r l x y n), .int .i64 (z0 (pfC f t r l x y n) t), .int .i64 (z0 (pfC f t r l x y n) f), .int .i64 (z0 (pfC f t r l x y n) r), .int .i64 (z0 (pfC f t r l x y n) l), .int .i64 (z0 (pfC f t r l x y n) y), .int .i64 (z0 (pfC f t r l x y n) x), .slice c (zl (pfC f t r l x y n) xs).length d]) ∧
        Own .u8 5 w' w.heap.size c d (zl (pfC f t r l x y n) xs) ∧ Below w.heap.size w w' := by
  have C := Hid.mk (fun w => implPacketFault_ok f t r l x y a n ca w)
  have hlen := Hid.mk (@pfC_len f t r l x y n)
  generalize pfC f t r l x y n = k at *
  by_cases hk : k = 0
  · subst hk
    have hx := hlen.out rfl
    simp only [z0_0, zl_0]
    clear hlen
    go_enter Try.func14, Try.ntmps14
    go_wp2_with fail
    refine (C.out _).mono ?_
    rintro e w1 ⟨rfl, b1⟩
    have B1 := thenB (belowA2 w _ _) b1
    have A0 : At w1 w.heap.size [.int .i64 f, .int .i64 t, .int .i64 r, .int .i64 l, .int .i64 x, .int .i64 y, .slice a n ca] := ((At.newP w _ _ _ _ _ _ _ 28).kept (belowA _ _)).kept b1
    have A1 : At w1 (w.heap.size + 1) [.int .i64 0, .int .i64 0, .int .i64 0, .int .i64 0, .int .i64 0, .int .i64 0, .int .i64 0, .slice none 0 0] := by
      have h := (At.newR (w.alloc _) _ _ _ _ _ _ _ _ 32).kept b1
      simpa using h
    have hz1 : w.heap.size + 1 + 1 ≤ w1.heap.size := by have h := b1.size; simpa using h
    have Z0 : Fz w1 w.heap.size := ((Fz.new w _ _).kept (by simp) (belowA _ _)).kept (by simp; omega) b1
    have Z1 : Fz w1 (w.heap.size + 1) := by
      have h := (Fz.new (w.alloc _) _ _).kept (by simp) b1
      simpa using h
    have z0 : ∀ o, w1.frozen? ⟨w.heap.size, o, none⟩ = false := Z0
    have z1 : ∀ o, w1.frozen? ⟨w.heap.size + 1, o, none⟩ = false := Z1
    clear b1
    have R1 := hR.kept (((((B1.setCell (p := ⟨w.heap.size, 0, none⟩) (Nat.le_refl _) (.int .i64 t)).setCell (p := ⟨w.heap.size, 1, none⟩) (Nat.le_refl _) (.int .i64 f)).setCell (p := ⟨w.heap.size, 4, none⟩) (Nat.le_refl _) (.int .i64 y)).setCell (p := ⟨w.heap.size, 5, none⟩) (Nat.le_refl _) (.int .i64 x)))
    have B2 := (((((B1.setCell (p := ⟨w.heap.size, 0, none⟩) (Nat.le_refl _) (.int .i64 t)).setCell (p := ⟨w.heap.size, 1, none⟩) (Nat.le_refl _) (.int .i64 f)).setCell (p := ⟨w.heap.size, 4, none⟩) (Nat.le_refl _) (.int .i64 y)).setCell (p := ⟨w.heap.size, 5, none⟩) (Nat.le_refl _) (.int .i64 x)))
    obtain ⟨f0, f1, f2, f3, f4, f5, f6, f7⟩ := A0.seven
    go_wp2_with fail
    refine (clone_any a n ca xs _ R1 hn (by omega)).mono ?_
    rintro e w2 ⟨c, d, rfl, o2, b2⟩
    clear f0 f1 f2 f3 f4 f5 f6 f7
    have A0 := ((((A0.set (i := 0) (by simp) (.int .i64 t)).set (i := 1) (by simp) (.int .i64 f)).set (i := 4) (by simp) (.int .i64 y)).set (i := 5) (by simp) (.int .i64 x)).kept b2
    have A1 := ((((A1.other (p := ⟨w.heap.size, 0, none⟩) (by simp) (.int .i64 t)).other (p := ⟨w.heap.size, 1, none⟩) (by simp) (.int .i64 f)).other (p := ⟨w.heap.size, 4, none⟩) (by simp) (.int .i64 y)).other (p := ⟨w.heap.size, 5, none⟩) (by simp) (.int .i64 x)).kept b2
    simp only [List.set_cons_zero, List.set_cons_succ] at A0
    have B3 := thenB B2 b2
    have O2 := Hid.mk (o2.mono (base' := w1.heap.size) (by simp [World.setCell]))
    have hz2 : w1.heap.size ≤ w2.heap.size := by have h := b2.size; simpa [World.setCell] using h
    clear z0 z1
    have z0 : ∀ o, w2.frozen? ⟨w.heap.size, o, none⟩ = false := ((((Z0.set _ _).set _ _).set _ _).set _ _).kept (by simp; omega) b2
    have z1 : ∀ o, w2.frozen? ⟨w.heap.size + 1, o, none⟩ = false := ((((Z1.set _ _).set _ _).set _ _).set _ _).kept (by simp; omega) b2
    clear o2 b2 R1 B2
    obtain ⟨f0, f1, f2, f3, f4, f5, f6, f7⟩ := A0.seven
    obtain ⟨g0, g1, g2, g3, g4, g5, g6, g7, g8⟩ := A1.eight
    go_wp2
    refine bodyPost_ret (v := .agg #[.int .i64 0, .int .i64 t, .int .i64 f, .int .i64 r, .int .i64 l, .int .i64 y, .int .i64 x, .slice c n d]) (by simp [results, Try.results14, go_sem, g0, g1, g2, g3, g4, g5, g6, g7]) rfl ⟨c, d, by simp [hn], ?_, ?_⟩
    · refine (((((((((O2.out.below ?_ _).below ?_ _).below ?_ _).below ?_ _).below ?_ _).below ?_ _).below ?_ _).below ?_ _).below ?_ _).mono ?_
      all_goals
        try simp
        try omega
    · refine ((((((((B3.setCell ?_ _).setCell ?_ _).setCell ?_ _).setCell ?_ _).setCell ?_ _).setCell ?_ _).setCell ?_ _).setCell ?_ _).setCell ?_ _
      all_goals
        try simp
        try omega
  · have hk1 : (k != 0) = true := by simp [hk]
    simp only [z0_1 hk, zl_1 hk]
    go_enter Try.func14, Try.ntmps14
    go_wp2_with fail
    refine (C.out _).mono ?_
    rintro e w1 ⟨rfl, b1⟩
    have B1 := thenB (belowA2 w _ _) b1
    have A1 : At w1 (w.heap.size + 1) [.int .i64 0, .int .i64 0, .int .i64 0, .int .i64 0, .int .i64 0, .int .i64 0, .int .i64 0, .slice none 0 0] := by
      have h := (At.newR (w.alloc _) _ _ _ _ _ _ _ _ 32).kept b1
      simpa using h
    have Z0 : Fz w1 w.heap.size := ((Fz.new w _ _).kept (by simp) (belowA _ _)).kept (by simp; omega) b1
    have Z1 : Fz w1 (w.heap.size + 1) := by
      have h := (Fz.new (w.alloc _) _ _).kept (by simp) b1
      simpa using h
    have z0 : ∀ o, w1.frozen? ⟨w.heap.size, o, none⟩ = false := Z0
    have z1 : ∀ o, w1.frozen? ⟨w.heap.size + 1, o, none⟩ = false := Z1
    clear b1
    obtain ⟨g0, g1, g2, g3, g4, g5, g6, g7, g8⟩ := A1.eight
    go_wp2
    refine bodyPost_ret (v := .agg #[.int .i64 k, .int .i64 0, .int .i64 0, .int .i64 0, .int .i64 0, .int .i64 0, .int .i64 0, .slice none 0 0]) (by simp [results, Try.results14, go_sem, g0, g1, g2, g3, g4, g5, g6, g7]) rfl ⟨none, 0, rfl, own_none, ?_⟩
    refine (((((((B1.setCell ?_ _).setCell ?_ _).setCell ?_ _).setCell ?_ _).setCell ?_ _).setCell ?_ _).setCell ?_ _).setCell ?_ _
    all_goals
      try simp
      try omega

theorem Own.nocap {k : IntKind} {e : TypeId} {w : World} {base : Nat} {a : Option Addr} {cap : Nat} {zs : List Int} (h : Own k e w base a cap zs) : a = none → cap = 0 := by
  intro ha
  subst ha
  rcases h.2 with ⟨h0, _⟩ | ⟨g, cap', cur, hv, _⟩
  · simp only [Value.slice.injEq] at h0; exact h0.2.2
  · simp at hv

theorem bad_ok (k : Int) (w : World) :
    Calls Try.prog 24 #[.int .i64 k] w fun e w' => e = .returned (.agg #[.int .i64 k, .int .i64 0, .int .i64 0, .int .i64 0, .int .i64 0, .int .i64 0, .int .i64 0, .slice none 0 0]) ∧ Below w.heap.size w w' := by
  have Z0 := Fz.new w #[.int .i64 0, .int .i64 0, .int .i64 0, .int .i64 0, .int .i64 0, .int .i64 0, .int .i64 0, .slice none 0 0] 32
  have z0 : ∀ o, (w.alloc (.cells #[.int .i64 0, .int .i64 0, .int .i64 0, .int .i64 0, .int .i64 0, .int .i64 0, .int .i64 0, .slice none 0 0] 32)).frozen? ⟨w.heap.size, o, none⟩ = false := Z0
  go_enter Try.func24, Try.ntmps24
  go_wp2
  refine bodyPost_ret (v := .agg #[.int .i64 k, .int .i64 0, .int .i64 0, .int .i64 0, .int .i64 0, .int .i64 0, .int .i64 0, .slice none 0 0]) (by simp [results, Try.results24, go_sem]) rfl ⟨rfl, belowA _ _⟩

set_option maxHeartbeats 1000000 in
theorem copy_ok (f t r l x y : Int) (a : Option Addr) (n ca : Nat) (xs : List Int) (w : World) (hR : Rd .u8 w a xs) (hn : xs.length = n) (hx : n ≤ 1048576) (hnc : a = none → ca = 0) :
    Calls Try.prog 25 #[.agg #[.int .i64 f, .int .i64 t, .int .i64 r, .int .i64 l, .int .i64 x, .int .i64 y, .slice a n ca]] w fun e w' =>
      ∃ c d, e = .returned (.agg #[.int .i64 f, .int .i64 t, .int .i64 r, .int .i64 l, .int .i64 x, .int .i64 y, .slice c n d]) ∧ Own .u8 5 w' w.heap.size c d xs ∧ Below w.heap.size w w' := by
  obtain ⟨i0, hi, q0, q1, q2⟩ := info_parts Try.info_u8
  obtain ⟨W0, hW0⟩ : ∃ W0, W0 = (w.alloc (.cells #[.int .i64 f, .int .i64 t, .int .i64 r, .int .i64 l, .int .i64 x, .int .i64 y, .slice a n ca] 28)).alloc (.cells #[.int .i64 0, .int .i64 0, .int .i64 0, .int .i64 0, .int .i64 0, .int .i64 0, .slice none 0 0] 28) := ⟨_, rfl⟩
  have hs0 : W0.heap.size = w.heap.size + 1 + 1 := by rw [hW0]; simp
  have hB0 : Below w.heap.size w W0 := by rw [hW0]; exact belowA2 _ _ _
  have A0 : At W0 w.heap.size [.int .i64 f, .int .i64 t, .int .i64 r, .int .i64 l, .int .i64 x, .int .i64 y, .slice a n ca] := by rw [hW0]; exact (At.newP w _ _ _ _ _ _ _ 28).kept (belowA _ _)
  have A1 : At W0 (w.heap.size + 1) [.int .i64 0, .int .i64 0, .int .i64 0, .int .i64 0, .int .i64 0, .int .i64 0, .slice none 0 0] := by
    have h := At.newP (w.alloc (.cells #[.int .i64 f, .int .i64 t, .int .i64 r, .int .i64 l, .int .i64 x, .int .i64 y, .slice a n ca] 28)) (.int .i64 0) (.int .i64 0) (.int .i64 0) (.int .i64 0) (.int .i64 0) (.int .i64 0) (.slice none 0 0) 28
    rw [hW0]; simpa using h
  have Z0 : Fz W0 w.heap.size := by rw [hW0]; exact (Fz.new w _ _).kept (by simp) (belowA _ _)
  have Z1 : Fz W0 (w.heap.size + 1) := by
    have h := Fz.new (w.alloc (.cells #[.int .i64 f, .int .i64 t, .int .i64 r, .int .i64 l, .int .i64 x, .int .i64 y, .slice a n ca] 28)) #[.int .i64 0, .int .i64 0, .int .i64 0, .int .i64 0, .int .i64 0, .int .i64 0, .slice none 0 0] 28
    rw [hW0]; simpa using h
  have hmade : (W0.alloc (.cells #[] 5)).ownsRow (w.heap.size + 1 + 1) 5 1 (.slice (some ⟨w.heap.size + 1 + 1, 0, none⟩) 0 0) 0 (([] : List Int).map (Value.int .u8)) := by
    rw [← hs0]
    simpa using World.ownsRow_made (base := W0.heap.size) (e := 5) (size := 1) W0 #[] 0 (Nat.le_refl _) (Nat.zero_le _) rfl
  have hx2 : 0 + n ≤ 140737488355328 := by omega
  have hR1 := (hR.kept hB0).kept (belowA W0 (.cells #[] 5))
  have HW := Hid.mk hW0
  rw [hW0] at hmade hR1
  clear hW0
  go_enter Try.func25, Try.ntmps25
  go_wp2_with (at_builtin; refine wpList_append_rd _ rfl _ _ 23 rfl (w.heap.size + 1 + 1) 5 i0 Try.underlying23 hi q0 q1 q2 _ 0 [] rfl hmade a n ca xs rfl hR1 hn hnc hx2 (by simp) ?_)
  intro v1 w1 hown hg
  rw [← HW.out] at hg
  have hb := (belowA W0 (.cells #[] 5)).grown hg (by simp) (by simp [Value.ownBlock, hs0])
  have hown' : w1.ownsRow (w.heap.size + 1 + 1) 5 1 v1 n (xs.map (Value.int .u8)) := by simpa using hown
  obtain ⟨c, d, rfl⟩ := ownsRow_shape hown'
  have HO := Hid.mk (Own.mk hown' hn)
  have A0 := A0.kept hb
  have A1 := A1.kept hb
  have hs1 : w.heap.size + 1 + 1 ≤ w1.heap.size := by have h := hb.size; rw [hs0] at h; exact h
  have z0 : ∀ o, w1.frozen? ⟨w.heap.size, o, none⟩ = false := Z0.kept (by omega) hb
  have z1 : ∀ o, w1.frozen? ⟨w.heap.size + 1, o, none⟩ = false := Z1.kept (by omega) hb
  have B1 := hB0.trans (hb.mono (by omega))
  clear hown hown' hg hb hmade hR1 Z0 Z1 hs0
  obtain ⟨f0, f1, f2, f3, f4, f5, f6, f7⟩ := A0.seven
  obtain ⟨g0, g1, g2, g3, g4, g5, g6, g7⟩ := A1.seven
  go_wp2
  refine bodyPost_ret (v := .agg #[.int .i64 f, .int .i64 t, .int .i64 r, .int .i64 l, .int .i64 x, .int .i64 y, .slice c n d]) (by simp [results, Try.results25, go_sem, g0, g1, g2, g3, g4, g5, g6]) rfl ⟨c, d, rfl, ?_, ?_⟩
  · refine ((((((((HO.out.below ?_ _).below ?_ _).below ?_ _).below ?_ _).below ?_ _).below ?_ _).below ?_ _).below ?_ _).mono ?_
    all_goals
      try simp
      try omega
  · refine (((((((B1.setCell ?_ _).setCell ?_ _).setCell ?_ _).setCell ?_ _).setCell ?_ _).setCell ?_ _).setCell ?_ _).setCell ?_ _
    all_goals
      try simp
      try omega

set_option maxHeartbeats 1000000 in
theorem specReverseWay_ok (f t r l x y : Int) (a : Option Addr) (n ca : Nat) (xs : List Int) (w : World) (hR : Rd .u8 w a xs) (hn : xs.length = n) (hnc : a = none → ca = 0) :
    Calls Try.prog 13 #[.agg #[.int .i64 f, .int .i64 t, .int .i64 r, .int .i64 l, .int .i64 x, .int .i64 y, .slice a n ca]] w fun e w' =>
      ∃ c d, e = .returned (.agg #[.int .i64 (pfC f t r l x y n), .int .i64 (z0 (pfC f t r l x y n) t), .int .i64 (z0 (pfC f t r l x y n) f), .int .i64 (z0 (pfC f t r l x y n) r), .int .i64 (z0 (pfC f t r l x y n) l), .int .i64 (z0 (pfC f t r l x y n) y), .int .i64 (z0 (pfC f t r l x y n) x), .slice c (zl (pfC f t r l x y n) xs).length d]) ∧
        Own .u8 5 w' w.heap.size c d (zl (pfC f t r l x y n) xs) ∧ Below w.heap.size w w' := by
  have C := Hid.mk (fun w => specPacketFault_ok f t r l x y a n ca w)
  have hlen := Hid.mk (@pfC_len f t r l x y n)
  generalize pfC f t r l x y n = k at *
  by_cases hk : k = 0
  · subst hk
    have hx := hlen.out rfl
    simp only [z0_0, zl_0]
    clear hlen
    go_enter Try.func13, Try.ntmps13
    go_wp2_with fail
    refine (C.out _).mono ?_
    rintro e w1 ⟨rfl, b1⟩
    have B1 := thenB (belowA2 w _ _) b1
    have V0 := ((V.new w [.int .i64 f, .int .i64 t, .int .i64 r, .int .i64 l, .int .i64 x, .int .i64 y, .slice a n ca] 28).kept (belowA _ _)).kept b1
    have V1 := (V.new (w.alloc _) [.int .i64 0, .int .i64 0, .int .i64 0, .int .i64 0, .int .i64 0, .int .i64 0, .int .i64 0, .slice none 0 0] 32).kept b1
    have hz1 := b1.size
    simp at hz1 V1
    clear b1
    have O0 := V0.open
    obtain ⟨s0, f0, z0⟩ := O0
    go_wp2_with fail
    refine (copy_ok f t r l x y a n ca xs _ (hR.kept B1) hn (by omega) hnc).mono ?_
    rintro e w2 ⟨c, d, rfl, o2, b2⟩
    have B2 := thenB B1 b2
    have hz2 := b2.size
    have O2 := Hid.mk (o2.mono (base' := w1.heap.size) (by simp))
    clear s0 f0 z0
    obtain ⟨s0, f0, z0⟩ := (V0.kept b2).open
    obtain ⟨s1, f1, z1⟩ := (V1.kept b2).open
    clear b2 o2 B1 V0 V1
    go_wp2
    refine bodyPost_ret (v := .agg #[.int .i64 0, .int .i64 t, .int .i64 f, .int .i64 r, .int .i64 l, .int .i64 y, .int .i64 x, .slice c n d]) (by simp [results, Try.results13, go_sem, f1, s1]) rfl ⟨c, d, by simp [hn], ?_, ?_⟩
    · refine Own.mono (base := w1.heap.size) ?_ (by omega)
      repeat' first | with_reducible exact O2.out | with_reducible refine Own.below ?_ ?_ _ | with_reducible refine Own.alloc ?_ _ | (simp; try omega)
    · repeat' first | with_reducible exact B2 | with_reducible refine Below.setCell ?_ ?_ _ | with_reducible refine Below.alloc ?_ ?_ _ | (simp; try omega)
  · have hk1 : (k != 0) = true := by simp [hk]
    simp only [z0_1 hk, zl_1 hk]
    go_enter Try.func13, Try.ntmps13
    go_wp2_with fail
    refine (C.out _).mono ?_
    rintro e w1 ⟨rfl, b1⟩
    have B1 := thenB (belowA2 w _ _) b1
    have V1 := (V.new (w.alloc _) [.int .i64 0, .int .i64 0, .int .i64 0, .int .i64 0, .int .i64 0, .int .i64 0, .int .i64 0, .slice none 0 0] 32).kept b1
    have hz1 := b1.size
    simp at hz1 V1
    clear b1
    go_wp2_with fail
    refine (bad_ok k _).mono ?_
    rintro e w2 ⟨rfl, b2⟩
    have B2 := thenB B1 b2
    have hz2 := b2.size
    obtain ⟨s1, f1, z1⟩ := (V1.kept b2).open
    clear b2 B1 V1
    go_wp2
    refine bodyPost_ret (v := .agg #[.int .i64 k, .int .i64 0, .int .i64 0, .int .i64 0, .int .i64 0, .int .i64 0, .int .i64 0, .slice none 0 0]) (by simp [results, Try.results13, go_sem, f1]) rfl ⟨none, 0, rfl, own_none, ?_⟩
    repeat' first | with_reducible exact B2 | with_reducible refine Below.setCell ?_ ?_ _ | with_reducible refine Below.alloc ?_ ?_ _ | (simp; try omega)

end Go.Proofs.Ytlkeeablmnfmdab
