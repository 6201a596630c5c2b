/- 'ReverseWay', the model's and the program's, by contracts. -/
import Derived.Test.YthjaehcfakjemaaSame
import Derived.Test.YthjaehcfakjemaaZl
namespace Go.Proofs.Ythjaehcfakjemaa
open Go.RowKit

theorem pfC_len {f t r l x y : Int} {n : Nat} (h : pfC f t r l x y n = 0) : n ≤ 200 := (pfC_zero h).2.2

set_option maxHeartbeats 1000000 in
theorem implReverseWay_ok (f t r l x y : Int) (a : Option Addr) (n ca : Nat) (xs : List Int) (w : World) (hR : Rd .u8 w a xs) (hn : xs.length = n) :
    Calls Try.prog 14 #[.agg #[.int .i64 f, .int .i64 t, .int .i64 r, .int .i64 l, .int .i64 x, .int .i64 y, .slice a n ca]] w fun e w' =>
      ∃ c d, e = .returned (.agg #[.int .i64 (pfC f t r l x y n), .int .i64 (z0 (pfC f t r l x y n) t), .int .i64 (z0 (pfC f t r l x y n) f), .int .i64 (z0 (pfC f t r l x y n) r), .int .i64 (z0 (pfC f t r l x y n) l), .int .i64 (z0 (pfC f t r l x y n) y), .int .i64 (z0 (pfC f t r l x y n) x), .slice c (zl (pfC f t r l x y n) xs).length d]) ∧
        Own .u8 5 w' w.heap.size c d (zl (pfC f t r l x y n) xs) ∧ Below w.heap.size w w' := by
  have C := Hid.mk (fun w => implPacketFault_ok f t r l x y a n ca w)
  have hlen := Hid.mk (@pfC_len f t r l x y n)
  generalize pfC f t r l x y n = k at *
  by_cases hk : k = 0
  · subst hk
    have hx := hlen.out rfl
    simp only [z0_0, zl_0]
    clear hlen
    go_enter Try.func14, Try.ntmps14
    go_wp2_with fail
    refine (C.out _).mono ?_
    rintro e w1 ⟨rfl, b1⟩
    have B1 := thenB (belowA2 w _ _) b1
    have A0 : At w1 w.heap.size [.int .i64 f, .int .i64 t, .int .i64 r, .int .i64 l, .int .i64 x, .int .i64 y, .slice a n ca] := ((At.newP w _ _ _ _ _ _ _ 26).kept (belowA _ _)).kept b1
    have A1 : At w1 (w.heap.size + 1) [.int .i64 0, .int .i64 0, .int .i64 0, .int .i64 0, .int .i64 0, .int .i64 0, .int .i64 0, .slice none 0 0] := by
      have h := (At.newR (w.alloc _) _ _ _ _ _ _ _ _ 28).kept b1
      simpa using h
    have hz1 : w.heap.size + 1 + 1 ≤ w1.heap.size := by have h := b1.size; simpa using h
    have Z0 : Fz w1 w.heap.size := ((Fz.new w _ _).kept (by simp) (belowA _ _)).kept (by simp; omega) b1
    have Z1 : Fz w1 (w.heap.size + 1) := by
      have h := (Fz.new (w.alloc _) _ _).kept (by simp) b1
      simpa using h
    have z0 : ∀ o, w1.frozen? ⟨w.heap.size, o, none⟩ = false := Z0
    have z1 : ∀ o, w1.frozen? ⟨w.heap.size + 1, o, none⟩ = false := Z1
    clear b1
    have R1 := hR.kept (((((B1.setCell (p := ⟨w.heap.size, 0, none⟩) (Nat.le_refl _) (.int .i64 t)).setCell (p := ⟨w.heap.size, 1, none⟩) (Nat.le_refl _) (.int .i64 f)).setCell (p := ⟨w.heap.size, 4, none⟩) (Nat.le_refl _) (.int .i64 y)).setCell (p := ⟨w.heap.size, 5, none⟩) (Nat.le_refl _) (.int .i64 x)))
    have B2 := (((((B1.setCell (p := ⟨w.heap.size, 0, none⟩) (Nat.le_refl _) (.int .i64 t)).setCell (p := ⟨w.heap.size, 1, none⟩) (Nat.le_refl _) (.int .i64 f)).setCell (p := ⟨w.heap.size, 4, none⟩) (Nat.le_refl _) (.int .i64 y)).setCell (p := ⟨w.heap.size, 5, none⟩) (Nat.le_refl _) (.int .i64 x)))
    obtain ⟨f0, f1, f2, f3, f4, f5, f6, f7⟩ := A0.seven
    go_wp2_with fail
    refine (clone_any a n ca xs _ R1 hn (by omega)).mono ?_
    rintro e w2 ⟨c, d, rfl, o2, b2⟩
    clear f0 f1 f2 f3 f4 f5 f6 f7
    have A0 := ((((A0.set (i := 0) (by simp) (.int .i64 t)).set (i := 1) (by simp) (.int .i64 f)).set (i := 4) (by simp) (.int .i64 y)).set (i := 5) (by simp) (.int .i64 x)).kept b2
    have A1 := ((((A1.other (p := ⟨w.heap.size, 0, none⟩) (by simp) (.int .i64 t)).other (p := ⟨w.heap.size, 1, none⟩) (by simp) (.int .i64 f)).other (p := ⟨w.heap.size, 4, none⟩) (by simp) (.int .i64 y)).other (p := ⟨w.heap.size, 5, none⟩) (by simp) (.int .i64 x)).kept b2
    simp only [List.set_cons_zero, List.set_cons_succ] at A0
    have B3 := thenB B2 b2
    have O2 := Hid.mk (o2.mono (base' := w1.heap.size) (by simp [World.setCell]))
    have hz2 : w1.heap.size ≤ w2.heap.size := by have h := b2.size; simpa [World.setCell] using h
    clear z0 z1
    have z0 : ∀ o, w2.frozen? ⟨w.heap.size, o, none⟩ = false := ((((Z0.set _ _).set _ _).set _ _).set _ _).kept (by simp; omega) b2
    have z1 : ∀ o, w2.frozen? ⟨w.heap.size + 1, o, none⟩ = false := ((((Z1.set _ _).set _ _).set _ _).set _ _).kept (by simp; omega) b2
    clear o2 b2 R1 B2
    obtain ⟨f0, f1, f2, f3, f4, f5, f6, f7⟩ := A0.seven
    obtain ⟨g0, g1, g2, g3, g4, g5, g6, g7, g8⟩ := A1.eight
    go_wp2
    refine bodyPost_ret (v := .agg #[.int .i64 0, .int .i64 t, .int .i64 f, .int .i64 r, .int .i64 l, .int .i64 y, .int .i64 x, .slice c n d]) (by simp [results, Try.results14, go_sem, g0, g1, g2, g3, g4, g5, g6, g7]) rfl ⟨c, d, by simp [hn], ?_, ?_⟩
    · refine (((((((((O2.out.below ?_ _).below ?_ _).below ?_ _).below ?_ _).below ?_ _).below ?_ _).below ?_ _).below ?_ _).below ?_ _).mono ?_
      all_goals
        try simp
        try omega
    · refine ((((((((B3.setCell ?_ _).setCell ?_ _).setCell ?_ _).setCell ?_ _).setCell ?_ _).setCell ?_ _).setCell ?_ _).setCell ?_ _).setCell ?_ _
      all_goals
        try simp
        try omega
  · have hk1 : (k != 0) = true := by simp [hk]
    simp only [z0_1 hk, zl_1 hk]
    go_enter Try.func14, Try.ntmps14
    go_wp2_with fail
    refine (C.out _).mono ?_
    rintro e w1 ⟨rfl, b1⟩
    have B1 := thenB (belowA2 w _ _) b1
    have A1 : At w1 (w.heap.size + 1) [.int .i64 0, .int .i64 0, .int .i64 0, .int .i64 0, .int .i64 0, .int .i64 0, .int .i64 0, .slice none 0 0] := by
      have h := (At.newR (w.alloc _) _ _ _ _ _ _ _ _ 28).kept b1
      simpa using h
    have Z0 : Fz w1 w.heap.size := ((Fz.new w _ _).kept (by simp) (belowA _ _)).kept (by simp; omega) b1
    have Z1 : Fz w1 (w.heap.size + 1) := by
      have h := (Fz.new (w.alloc _) _ _).kept (by simp) b1
      simpa using h
    have z0 : ∀ o, w1.frozen? ⟨w.heap.size, o, none⟩ = false := Z0
    have z1 : ∀ o, w1.frozen? ⟨w.heap.size + 1, o, none⟩ = false := Z1
    clear b1
    obtain ⟨g0, g1, g2, g3, g4, g5, g6, g7, g8⟩ := A1.eight
    go_wp2
    refine bodyPost_ret (v := .agg #[.int .i64 k, .int .i64 0, .int .i64 0, .int .i64 0, .int .i64 0, .int .i64 0, .int .i64 0, .slice none 0 0]) (by simp [results, Try.results14, go_sem, g0, g1, g2, g3, g4, g5, g6, g7]) rfl ⟨none, 0, rfl, own_none, ?_⟩
    refine (((((((B1.setCell ?_ _).setCell ?_ _).setCell ?_ _).setCell ?_ _).setCell ?_ _).setCell ?_ _).setCell ?_ _).setCell ?_ _
    all_goals
      try simp
      try omega

theorem bad_ok (k : Int) (w : World) :
    Calls Try.prog 26 #[.int .i64 k] w fun e w' => e = .returned (.agg #[.int .i64 k, .int .i64 0, .int .i64 0, .int .i64 0, .int .i64 0, .int .i64 0, .int .i64 0, .slice none 0 0]) ∧ Below w.heap.size w w' := by
  have Z0 := Fz.new w #[.int .i64 0, .int .i64 0, .int .i64 0, .int .i64 0, .int .i64 0, .int .i64 0, .int .i64 0, .slice none 0 0] 28
  have z0 : ∀ o, (w.alloc (.cells #[.int .i64 0, .int .i64 0, .int .i64 0, .int .i64 0, .int .i64 0, .int .i64 0, .int .i64 0, .slice none 0 0] 28)).frozen? ⟨w.heap.size, o, none⟩ = false := Z0
  go_enter Try.func26, Try.ntmps26
  go_wp2
  refine bodyPost_ret (v := .agg #[.int .i64 k, .int .i64 0, .int .i64 0, .int .i64 0, .int .i64 0, .int .i64 0, .int .i64 0, .slice none 0 0]) (by simp [results, Try.results26, go_sem]) rfl ⟨rfl, belowA _ _⟩

end Go.Proofs.Ythjaehcfakjemaa
