/- GuessSeq, TakeLow: program and model. -/
import Derived.Test.YtkpdbdcfimdnjaaWnE
namespace Go.Proofs.Ytkpdbdcfimdnjaa
open Go.RowKit

/-- The number that is answered. -/
def gsA (x : Wn) (s : Int) : Int := if gsC x s = 0 then gsV x s else 0

theorem gs_ways (x : Wn) (s : Int) : (¬ wF x = 0 ∧ gsC x s = wF x ∧ gsA x s = 0) ∨ (wF x = 0 ∧ ¬ (0 ≤ s ∧ s ≤ 4294967295) ∧ gsC x s = 3 ∧ gsA x s = 0) ∨ (wF x = 0 ∧ (0 ≤ s ∧ s ≤ 4294967295) ∧ ¬ gsV x s ≤ 1099511627776 ∧ gsC x s = 3 ∧ gsA x s = 0) ∨ (wF x = 0 ∧ (0 ≤ s ∧ s ≤ 4294967295) ∧ gsV x s ≤ 1099511627776 ∧ gsC x s = 0 ∧ gsA x s = gsV x s) := by
  by_cases h : wF x = 0
  · by_cases g : 0 ≤ s ∧ s ≤ 4294967295
    · by_cases k : gsV x s ≤ 1099511627776
      · have e : gsC x s = 0 := by simp [gsC, h, g, k]
        exact .inr (.inr (.inr ⟨h, g, k, e, by simp [gsA, e]⟩))
      · have e : gsC x s = 3 := by simp [gsC, h, g, k]
        exact .inr (.inr (.inl ⟨h, g, k, e, by simp [gsA, e]⟩))
    · have e : gsC x s = 3 := by simp only [gsC, h, if_true]; rw [if_neg g]
      exact .inr (.inl ⟨h, g, e, by simp [gsA, e]⟩)
  · have e : gsC x s = wF x := by simp [gsC, h]
    exact .inl ⟨h, e, by simp [gsA, e, h]⟩

/-- What 'TakeLow' answers. -/
def tlR (x : Wn) (s : Int) : Int × Int × Wn := if gsC x s = 0 then tkR x (gsV x s) else (gsC x s, 0, ⟨0, 0⟩)

theorem fr_row {x : Wn} (h : inW x) : 1 ≤ frW x ∧ frW x ≤ 1099511627776 := by
  obtain ⟨_, h2, _⟩ := h
  unfold frW
  omega

set_option maxRecDepth 20000 in
set_option maxHeartbeats 4000000 in
theorem implGuess_ok (x : Wn) (s : Int) (hs : -9223372036854775808 ≤ s ∧ s ≤ 9223372036854775807) (w : World) :
    Calls Try.prog 24 #[.agg #[.int .i64 x.t, .int .i64 x.b], .int .i64 s] w fun e w' => e = .returned (.agg #[.int .i64 (gsC x s), .int .i64 (gsA x s)]) ∧ Below w.heap.size w w' := by
  have CF := Hid.mk (fun w => implWF_ok x w)
  have CB := Hid.mk (isBetween_ok s 0 4294967295)
  rcases gs_ways x s with ⟨h1, e1, e2⟩ | ⟨h1, h2, e1, e2⟩ | ⟨h1, h2, h3, e1, e2⟩ | ⟨h1, h2, h3, e1, e2⟩
  · have hne : (wF x != 0) = true := by simp [h1]
    rw [e1, e2]
    generalize wF x = k at *
    clear h1 e1 e2
    go_enter Try.func24, Try.ntmps24
    have B := Below.refl w.heap.size w
    have Bo := B
    replace B := thenB B (belowA w (.cells #[.int .i64 x.t, .int .i64 x.b] 25))
    have VA := V.new w [.int .i64 x.t, .int .i64 x.b] 25
    replace VA := VA.kept (belowA (w.alloc (.cells #[.int .i64 x.t, .int .i64 x.b] 25)) (.cells #[.int .i64 0, .int .i64 0] 42))
    replace B := thenB B (belowA (w.alloc (.cells #[.int .i64 x.t, .int .i64 x.b] 25)) (.cells #[.int .i64 0, .int .i64 0] 42))
    have VR : V ((w.alloc (.cells #[.int .i64 x.t, .int .i64 x.b] 25)).alloc (.cells #[.int .i64 0, .int .i64 0] 42)) (w.heap.size + 1) [.int .i64 0, .int .i64 0] := V.newAt _ _ _ _ (by simp)
    obtain ⟨s_VA, f_VA, z_VA⟩ := VA.open
    obtain ⟨s_VR, f_VR, z_VR⟩ := VR.open
    have Bo := B
    go_wp2_with fail
    refine (CF.out _).mono ?_
    rintro e w1 ⟨rfl, b1⟩
    clear s_VA f_VA z_VA s_VR f_VR z_VR
    have S1 := b1.size
    simp only [World.size_alloc] at S1
    replace VA := VA.kept b1
    replace VR := VR.kept b1
    replace B := thenB B b1
    clear b1
    obtain ⟨s_VA, f_VA, z_VA⟩ := VA.open
    obtain ⟨s_VR, f_VR, z_VR⟩ := VR.open
    have Bo := B
    clear s_VA f_VA z_VA s_VR f_VR z_VR
    have VF := Hid.mk (VR.filled [.int .i64 k, .int .i64 0] rfl)
    have BR := belowCells B (show w.heap.size ≤ w.heap.size + 1 by (first | omega | (simp; done) | (simp; omega))) 0 [.int .i64 k, .int .i64 0]
    have HT := Hid.mk VR.there
    replace BR := Hid.mk BR
    obtain ⟨s_VA, f_VA, z_VA⟩ := VA.open
    obtain ⟨s_VR, f_VR, z_VR⟩ := VR.open
    go_wp2_with (refine wpList_store_mid rfl 42 _ _ rfl (w.heap.size + 1) 0 #[.int .i64 k, .int .i64 0] rfl rfl HT.out (by kernel_rfl) (by kernel_rfl) ?_)
    refine bodyPost_ret (v := .agg #[.int .i64 k, .int .i64 0]) (results_row Try.results24 _ _ (w.heap.size + 1) [.int .i64 k, .int .i64 0] _ rfl VF.out Try.underlying42 rfl (by kernel_rfl)) rfl ⟨rfl, BR.out⟩
  · rw [e1, e2]
    have hb : btw s 0 4294967295 = false := by cases h : btw s 0 4294967295; rfl; exact absurd (btw_iff.1 h) h2
    simp only [hb] at CB
    simp only [h1] at CF
    clear h1 h2 e1 e2 hb
    go_enter Try.func24, Try.ntmps24
    have B := Below.refl w.heap.size w
    have Bo := B
    replace B := thenB B (belowA w (.cells #[.int .i64 x.t, .int .i64 x.b] 25))
    have VA := V.new w [.int .i64 x.t, .int .i64 x.b] 25
    replace VA := VA.kept (belowA (w.alloc (.cells #[.int .i64 x.t, .int .i64 x.b] 25)) (.cells #[.int .i64 0, .int .i64 0] 42))
    replace B := thenB B (belowA (w.alloc (.cells #[.int .i64 x.t, .int .i64 x.b] 25)) (.cells #[.int .i64 0, .int .i64 0] 42))
    have VR : V ((w.alloc (.cells #[.int .i64 x.t, .int .i64 x.b] 25)).alloc (.cells #[.int .i64 0, .int .i64 0] 42)) (w.heap.size + 1) [.int .i64 0, .int .i64 0] := V.newAt _ _ _ _ (by simp)
    obtain ⟨s_VA, f_VA, z_VA⟩ := VA.open
    obtain ⟨s_VR, f_VR, z_VR⟩ := VR.open
    have Bo := B
    go_wp2_with fail
    refine (CF.out _).mono ?_
    rintro e w1 ⟨rfl, b1⟩
    clear s_VA f_VA z_VA s_VR f_VR z_VR
    have S1 := b1.size
    simp only [World.size_alloc] at S1
    replace VA := VA.kept b1
    replace VR := VR.kept b1
    replace B := thenB B b1
    clear b1
    obtain ⟨s_VA, f_VA, z_VA⟩ := VA.open
    obtain ⟨s_VR, f_VR, z_VR⟩ := VR.open
    have Bo := B
    go_wp2_with fail
    refine (CB.out _).mono ?_
    rintro e wq ⟨rfl, rfl⟩
    clear s_VA f_VA z_VA s_VR f_VR z_VR
    have VF := Hid.mk (VR.filled [.int .i64 3, .int .i64 0] rfl)
    have BR := belowCells B (show w.heap.size ≤ w.heap.size + 1 by (first | omega | (simp; done) | (simp; omega))) 0 [.int .i64 3, .int .i64 0]
    have HT := Hid.mk VR.there
    replace BR := Hid.mk BR
    obtain ⟨s_VA, f_VA, z_VA⟩ := VA.open
    obtain ⟨s_VR, f_VR, z_VR⟩ := VR.open
    go_wp2_with (refine wpList_store_mid rfl 42 _ _ rfl (w.heap.size + 1) 0 #[.int .i64 3, .int .i64 0] rfl rfl HT.out (by kernel_rfl) (by kernel_rfl) ?_)
    refine bodyPost_ret (v := .agg #[.int .i64 3, .int .i64 0]) (results_row Try.results24 _ _ (w.heap.size + 1) [.int .i64 3, .int .i64 0] _ rfl VF.out Try.underlying42 rfl (by kernel_rfl)) rfl ⟨rfl, BR.out⟩
  · rw [e1, e2]
    have hb : btw s 0 4294967295 = true := btw_iff.2 h2
    simp only [hb] at CB
    simp only [h1] at CF
    obtain ⟨h2a, h2b⟩ := h2
    have hi := (wF_ok.mp h1).1
    obtain ⟨r1, r2⟩ := fr_row hi
    have CI := Hid.mk (fun w => firstIn_ok x hi w)
    have hV := gs_impl x s
    rw [show s % 4294967296 = s by omega] at hV
    generalize gsV x s = v at *
    generalize frW x = f at *
    have hu1 : IntKind.u32.wrap s = s := by rw [IntKind.wrap_u32']; omega
    have hu2 : IntKind.u32.wrap f = f % 4294967296 := IntKind.wrap_u32' _
    have hu3 : IntKind.u32.wrap (s - f % 4294967296) = (s - f % 4294967296) % 4294967296 := IntKind.wrap_u32' _
    obtain ⟨d, hd⟩ : ∃ d, (s - f % 4294967296) % 4294967296 = d := ⟨_, rfl⟩
    have hd0 : 0 ≤ d ∧ d < 4294967296 := by omega
    rw [hd] at hu3 hV
    clear hd
    obtain ⟨f2, hf2⟩ : ∃ d, f % 4294967296 = d := ⟨_, rfl⟩
    rw [hf2] at hu2 hu3
    have hf3 : 0 ≤ f2 ∧ f2 < 4294967296 := by omega
    clear hf2
    obtain ⟨d1, d2⟩ := hd0
    obtain ⟨f3, f4⟩ := hf3
    have hw : IntKind.i64.wrap d = d := by simp [IntKind.wrap, IntKind.bits, IntKind.signed]; omega
    have hc : decide (1099511627776 < f + d) = true := by simp; omega
    subst hV
    clear h1 e1 e2 hb hi h3
    go_enter Try.func24, Try.ntmps24
    have B := Below.refl w.heap.size w
    have Bo := B
    replace B := thenB B (belowA w (.cells #[.int .i64 x.t, .int .i64 x.b] 25))
    have VA := V.new w [.int .i64 x.t, .int .i64 x.b] 25
    replace VA := VA.kept (belowA (w.alloc (.cells #[.int .i64 x.t, .int .i64 x.b] 25)) (.cells #[.int .i64 0, .int .i64 0] 42))
    replace B := thenB B (belowA (w.alloc (.cells #[.int .i64 x.t, .int .i64 x.b] 25)) (.cells #[.int .i64 0, .int .i64 0] 42))
    have VR : V ((w.alloc (.cells #[.int .i64 x.t, .int .i64 x.b] 25)).alloc (.cells #[.int .i64 0, .int .i64 0] 42)) (w.heap.size + 1) [.int .i64 0, .int .i64 0] := V.newAt _ _ _ _ (by simp)
    obtain ⟨s_VA, f_VA, z_VA⟩ := VA.open
    obtain ⟨s_VR, f_VR, z_VR⟩ := VR.open
    have Bo := B
    go_wp2_with fail
    refine (CF.out _).mono ?_
    rintro e w1 ⟨rfl, b1⟩
    clear s_VA f_VA z_VA s_VR f_VR z_VR
    have S1 := b1.size
    simp only [World.size_alloc] at S1
    replace VA := VA.kept b1
    replace VR := VR.kept b1
    replace B := thenB B b1
    clear b1
    obtain ⟨s_VA, f_VA, z_VA⟩ := VA.open
    obtain ⟨s_VR, f_VR, z_VR⟩ := VR.open
    have Bo := B
    go_wp2_with fail
    refine (CB.out _).mono ?_
    rintro e wq ⟨rfl, rfl⟩
    go_wp2_with fail
    refine (CI.out _).mono ?_
    rintro e w2 ⟨rfl, b2⟩
    clear s_VA f_VA z_VA s_VR f_VR z_VR
    have S2 := b2.size
    replace VA := VA.kept b2
    replace VR := VR.kept b2
    replace B := thenB B b2
    clear b2
    obtain ⟨s_VA, f_VA, z_VA⟩ := VA.open
    obtain ⟨s_VR, f_VR, z_VR⟩ := VR.open
    have Bo := B
    clear s_VA f_VA z_VA s_VR f_VR z_VR
    have VF := Hid.mk (VR.filled [.int .i64 3, .int .i64 0] rfl)
    have BR := belowCells B (show w.heap.size ≤ w.heap.size + 1 by (first | omega | (simp; done) | (simp; omega))) 0 [.int .i64 3, .int .i64 0]
    have HT := Hid.mk VR.there
    replace BR := Hid.mk BR
    obtain ⟨s_VA, f_VA, z_VA⟩ := VA.open
    obtain ⟨s_VR, f_VR, z_VR⟩ := VR.open
    go_wp2_with (refine wpList_store_mid rfl 42 _ _ rfl (w.heap.size + 1) 0 #[.int .i64 3, .int .i64 0] rfl rfl HT.out (by kernel_rfl) (by kernel_rfl) ?_)
    refine bodyPost_ret (v := .agg #[.int .i64 3, .int .i64 0]) (results_row Try.results24 _ _ (w.heap.size + 1) [.int .i64 3, .int .i64 0] _ rfl VF.out Try.underlying42 rfl (by kernel_rfl)) rfl ⟨rfl, BR.out⟩
  · rw [e1, e2]
    have hb : btw s 0 4294967295 = true := btw_iff.2 h2
    simp only [hb] at CB
    simp only [h1] at CF
    obtain ⟨h2a, h2b⟩ := h2
    have hi := (wF_ok.mp h1).1
    obtain ⟨r1, r2⟩ := fr_row hi
    have CI := Hid.mk (fun w => firstIn_ok x hi w)
    have hV := gs_impl x s
    rw [show s % 4294967296 = s by omega] at hV
    generalize gsV x s = v at *
    generalize frW x = f at *
    have hu1 : IntKind.u32.wrap s = s := by rw [IntKind.wrap_u32']; omega
    have hu2 : IntKind.u32.wrap f = f % 4294967296 := IntKind.wrap_u32' _
    have hu3 : IntKind.u32.wrap (s - f % 4294967296) = (s - f % 4294967296) % 4294967296 := IntKind.wrap_u32' _
    obtain ⟨d, hd⟩ : ∃ d, (s - f % 4294967296) % 4294967296 = d := ⟨_, rfl⟩
    have hd0 : 0 ≤ d ∧ d < 4294967296 := by omega
    rw [hd] at hu3 hV
    clear hd
    obtain ⟨f2, hf2⟩ : ∃ d, f % 4294967296 = d := ⟨_, rfl⟩
    rw [hf2] at hu2 hu3
    have hf3 : 0 ≤ f2 ∧ f2 < 4294967296 := by omega
    clear hf2
    obtain ⟨d1, d2⟩ := hd0
    obtain ⟨f3, f4⟩ := hf3
    have hw : IntKind.i64.wrap d = d := by simp [IntKind.wrap, IntKind.bits, IntKind.signed]; omega
    have hc : decide (1099511627776 < f + d) = false := by simp; omega
    subst hV
    clear h1 e1 e2 hb hi h3
    go_enter Try.func24, Try.ntmps24
    have B := Below.refl w.heap.size w
    have Bo := B
    replace B := thenB B (belowA w (.cells #[.int .i64 x.t, .int .i64 x.b] 25))
    have VA := V.new w [.int .i64 x.t, .int .i64 x.b] 25
    replace VA := VA.kept (belowA (w.alloc (.cells #[.int .i64 x.t, .int .i64 x.b] 25)) (.cells #[.int .i64 0, .int .i64 0] 42))
    replace B := thenB B (belowA (w.alloc (.cells #[.int .i64 x.t, .int .i64 x.b] 25)) (.cells #[.int .i64 0, .int .i64 0] 42))
    have VR : V ((w.alloc (.cells #[.int .i64 x.t, .int .i64 x.b] 25)).alloc (.cells #[.int .i64 0, .int .i64 0] 42)) (w.heap.size + 1) [.int .i64 0, .int .i64 0] := V.newAt _ _ _ _ (by simp)
    obtain ⟨s_VA, f_VA, z_VA⟩ := VA.open
    obtain ⟨s_VR, f_VR, z_VR⟩ := VR.open
    have Bo := B
    go_wp2_with fail
    refine (CF.out _).mono ?_
    rintro e w1 ⟨rfl, b1⟩
    clear s_VA f_VA z_VA s_VR f_VR z_VR
    have S1 := b1.size
    simp only [World.size_alloc] at S1
    replace VA := VA.kept b1
    replace VR := VR.kept b1
    replace B := thenB B b1
    clear b1
    obtain ⟨s_VA, f_VA, z_VA⟩ := VA.open
    obtain ⟨s_VR, f_VR, z_VR⟩ := VR.open
    have Bo := B
    go_wp2_with fail
    refine (CB.out _).mono ?_
    rintro e wq ⟨rfl, rfl⟩
    go_wp2_with fail
    refine (CI.out _).mono ?_
    rintro e w2 ⟨rfl, b2⟩
    clear s_VA f_VA z_VA s_VR f_VR z_VR
    have S2 := b2.size
    replace VA := VA.kept b2
    replace VR := VR.kept b2
    replace B := thenB B b2
    clear b2
    obtain ⟨s_VA, f_VA, z_VA⟩ := VA.open
    obtain ⟨s_VR, f_VR, z_VR⟩ := VR.open
    have Bo := B
    clear s_VA f_VA z_VA s_VR f_VR z_VR
    have VF := Hid.mk (VR.filled [.int .i64 0, .int .i64 (f + d)] rfl)
    have BR := belowCells B (show w.heap.size ≤ w.heap.size + 1 by (first | omega | (simp; done) | (simp; omega))) 0 [.int .i64 0, .int .i64 (f + d)]
    have HT := Hid.mk VR.there
    replace BR := Hid.mk BR
    obtain ⟨s_VA, f_VA, z_VA⟩ := VA.open
    obtain ⟨s_VR, f_VR, z_VR⟩ := VR.open
    go_wp2_with (refine wpList_store_mid rfl 42 _ _ rfl (w.heap.size + 1) 0 #[.int .i64 0, .int .i64 (f + d)] rfl rfl HT.out (by kernel_rfl) (by kernel_rfl) ?_)
    refine bodyPost_ret (v := .agg #[.int .i64 0, .int .i64 (f + d)]) (results_row Try.results24 _ _ (w.heap.size + 1) [.int .i64 0, .int .i64 (f + d)] _ rfl VF.out Try.underlying42 rfl (by kernel_rfl)) rfl ⟨rfl, BR.out⟩

set_option maxRecDepth 20000 in
set_option maxHeartbeats 4000000 in
theorem specGuess_ok (x : Wn) (s : Int) (hs : -9223372036854775808 ≤ s ∧ s ≤ 9223372036854775807) (w : World) :
    Calls Try.prog 25 #[.agg #[.int .i64 x.t, .int .i64 x.b], .int .i64 s] w fun e w' => e = .returned (.agg #[.int .i64 (gsC x s), .int .i64 (gsA x s)]) ∧ Below w.heap.size w w' := by
  have CF := Hid.mk (fun w => specWF_ok x w)
  have CB := Hid.mk (l1In_ok s 0 4294967295)
  rcases gs_ways x s with ⟨h1, e1, e2⟩ | ⟨h1, h2, e1, e2⟩ | ⟨h1, h2, h3, e1, e2⟩ | ⟨h1, h2, h3, e1, e2⟩
  · have hne : (wF x != 0) = true := by simp [h1]
    rw [e1, e2]
    generalize wF x = k at *
    clear h1 e1 e2
    go_enter Try.func25, Try.ntmps25
    have B := Below.refl w.heap.size w
    have Bo := B
    replace B := thenB B (belowA w (.cells #[.int .i64 x.t, .int .i64 x.b] 25))
    have VA := V.new w [.int .i64 x.t, .int .i64 x.b] 25
    replace VA := VA.kept (belowA (w.alloc (.cells #[.int .i64 x.t, .int .i64 x.b] 25)) (.cells #[.int .i64 0, .int .i64 0] 42))
    replace B := thenB B (belowA (w.alloc (.cells #[.int .i64 x.t, .int .i64 x.b] 25)) (.cells #[.int .i64 0, .int .i64 0] 42))
    have VR : V ((w.alloc (.cells #[.int .i64 x.t, .int .i64 x.b] 25)).alloc (.cells #[.int .i64 0, .int .i64 0] 42)) (w.heap.size + 1) [.int .i64 0, .int .i64 0] := V.newAt _ _ _ _ (by simp)
    obtain ⟨s_VA, f_VA, z_VA⟩ := VA.open
    obtain ⟨s_VR, f_VR, z_VR⟩ := VR.open
    have Bo := B
    go_wp2_with fail
    refine (CF.out _).mono ?_
    rintro e w1 ⟨rfl, b1⟩
    clear s_VA f_VA z_VA s_VR f_VR z_VR
    have S1 := b1.size
    simp only [World.size_alloc] at S1
    replace VA := VA.kept b1
    replace VR := VR.kept b1
    replace B := thenB B b1
    clear b1
    obtain ⟨s_VA, f_VA, z_VA⟩ := VA.open
    obtain ⟨s_VR, f_VR, z_VR⟩ := VR.open
    have Bo := B
    clear s_VA f_VA z_VA s_VR f_VR z_VR
    have VF := Hid.mk (VR.filled [.int .i64 k, .int .i64 0] rfl)
    have BR := belowCells B (show w.heap.size ≤ w.heap.size + 1 by (first | omega | (simp; done) | (simp; omega))) 0 [.int .i64 k, .int .i64 0]
    have HT := Hid.mk VR.there
    replace BR := Hid.mk BR
    obtain ⟨s_VA, f_VA, z_VA⟩ := VA.open
    obtain ⟨s_VR, f_VR, z_VR⟩ := VR.open
    go_wp2_with (refine wpList_store_mid rfl 42 _ _ rfl (w.heap.size + 1) 0 #[.int .i64 k, .int .i64 0] rfl rfl HT.out (by kernel_rfl) (by kernel_rfl) ?_)
    refine bodyPost_ret (v := .agg #[.int .i64 k, .int .i64 0]) (results_row Try.results25 _ _ (w.heap.size + 1) [.int .i64 k, .int .i64 0] _ rfl VF.out Try.underlying42 rfl (by kernel_rfl)) rfl ⟨rfl, BR.out⟩
  · rw [e1, e2]
    have hb : btw s 0 4294967295 = false := by cases h : btw s 0 4294967295; rfl; exact absurd (btw_iff.1 h) h2
    simp only [hb] at CB
    simp only [h1] at CF
    clear h1 h2 e1 e2 hb
    go_enter Try.func25, Try.ntmps25
    have B := Below.refl w.heap.size w
    have Bo := B
    replace B := thenB B (belowA w (.cells #[.int .i64 x.t, .int .i64 x.b] 25))
    have VA := V.new w [.int .i64 x.t, .int .i64 x.b] 25
    replace VA := VA.kept (belowA (w.alloc (.cells #[.int .i64 x.t, .int .i64 x.b] 25)) (.cells #[.int .i64 0, .int .i64 0] 42))
    replace B := thenB B (belowA (w.alloc (.cells #[.int .i64 x.t, .int .i64 x.b] 25)) (.cells #[.int .i64 0, .int .i64 0] 42))
    have VR : V ((w.alloc (.cells #[.int .i64 x.t, .int .i64 x.b] 25)).alloc (.cells #[.int .i64 0, .int .i64 0] 42)) (w.heap.size + 1) [.int .i64 0, .int .i64 0] := V.newAt _ _ _ _ (by simp)
    obtain ⟨s_VA, f_VA, z_VA⟩ := VA.open
    obtain ⟨s_VR, f_VR, z_VR⟩ := VR.open
    have Bo := B
    go_wp2_with fail
    refine (CF.out _).mono ?_
    rintro e w1 ⟨rfl, b1⟩
    clear s_VA f_VA z_VA s_VR f_VR z_VR
    have S1 := b1.size
    simp only [World.size_alloc] at S1
    replace VA := VA.kept b1
    replace VR := VR.kept b1
    replace B := thenB B b1
    clear b1
    obtain ⟨s_VA, f_VA, z_VA⟩ := VA.open
    obtain ⟨s_VR, f_VR, z_VR⟩ := VR.open
    have Bo := B
    go_wp2_with fail
    refine (CB.out _).mono ?_
    rintro e wq ⟨rfl, rfl⟩
    clear s_VA f_VA z_VA s_VR f_VR z_VR
    have VF := Hid.mk (VR.filled [.int .i64 3, .int .i64 0] rfl)
    have BR := belowCells B (show w.heap.size ≤ w.heap.size + 1 by (first | omega | (simp; done) | (simp; omega))) 0 [.int .i64 3, .int .i64 0]
    have HT := Hid.mk VR.there
    replace BR := Hid.mk BR
    obtain ⟨s_VA, f_VA, z_VA⟩ := VA.open
    obtain ⟨s_VR, f_VR, z_VR⟩ := VR.open
    go_wp2_with (refine wpList_store_mid rfl 42 _ _ rfl (w.heap.size + 1) 0 #[.int .i64 3, .int .i64 0] rfl rfl HT.out (by kernel_rfl) (by kernel_rfl) ?_)
    refine bodyPost_ret (v := .agg #[.int .i64 3, .int .i64 0]) (results_row Try.results25 _ _ (w.heap.size + 1) [.int .i64 3, .int .i64 0] _ rfl VF.out Try.underlying42 rfl (by kernel_rfl)) rfl ⟨rfl, BR.out⟩
  · rw [e1, e2]
    have hb : btw s 0 4294967295 = true := btw_iff.2 h2
    simp only [hb] at CB
    simp only [h1] at CF
    obtain ⟨h2a, h2b⟩ := h2
    have hi := (wF_ok.mp h1).1
    obtain ⟨r1, r2⟩ := fr_row hi
    have CM := Hid.mk (l3Max_ok 1 (x.t - 32 + 1))
    have hm : max 1 (x.t - 32 + 1) = frW x := by unfold frW; omega
    simp only [hm] at CM
    clear hm
    have hV := gs_spec x s ⟨h2a, h2b⟩
    obtain ⟨i1, i2, _, _⟩ := hi
    generalize gsV x s = v at *
    generalize frW x = f at *
    have hS1 : Op.shift .shr .i64 f .u64 32 = pure (.int .i64 (f / 4294967296)) := by
      have h9 := shift_shr_any .i64 .u64 f 32 (by omega)
      exact h9
    obtain ⟨a, ha⟩ : ∃ a, f / 4294967296 = a := ⟨_, rfl⟩
    have ha0 : 0 ≤ a ∧ a ≤ 256 := by omega
    rw [ha] at hS1 hV
    obtain ⟨a1, a2⟩ := ha0
    have hS2 : Op.shift .shl .i64 a .u64 32 = pure (.int .i64 (a * 4294967296)) := by
      have h9 := shift_shl_any .i64 .u64 a 32 (by omega)
      have hw : IntKind.i64.wrap (a * 4294967296) = a * 4294967296 := by simp [IntKind.wrap, IntKind.bits, IntKind.signed]; omega
      rw [show (2 : Int) ^ min (32 : Int).toNat IntKind.i64.bits = 4294967296 from rfl, hw] at h9
      exact h9
    by_cases hl : a * 4294967296 + s < f
    · rw [if_pos hl] at hV
      have d1 : decide (a * 4294967296 + s < f) = true := by simp [hl]
      have hc : decide (1099511627776 < a * 4294967296 + s + 4294967296) = true := by simp; omega
      subst hV
      clear h1 e1 e2 hb h3 hl ha
      go_enter Try.func25, Try.ntmps25
      have B := Below.refl w.heap.size w
      have Bo := B
      replace B := thenB B (belowA w (.cells #[.int .i64 x.t, .int .i64 x.b] 25))
      have VA := V.new w [.int .i64 x.t, .int .i64 x.b] 25
      replace VA := VA.kept (belowA (w.alloc (.cells #[.int .i64 x.t, .int .i64 x.b] 25)) (.cells #[.int .i64 0, .int .i64 0] 42))
      replace B := thenB B (belowA (w.alloc (.cells #[.int .i64 x.t, .int .i64 x.b] 25)) (.cells #[.int .i64 0, .int .i64 0] 42))
      have VR : V ((w.alloc (.cells #[.int .i64 x.t, .int .i64 x.b] 25)).alloc (.cells #[.int .i64 0, .int .i64 0] 42)) (w.heap.size + 1) [.int .i64 0, .int .i64 0] := V.newAt _ _ _ _ (by simp)
      obtain ⟨s_VA, f_VA, z_VA⟩ := VA.open
      obtain ⟨s_VR, f_VR, z_VR⟩ := VR.open
      have Bo := B
      go_wp2_with fail
      refine (CF.out _).mono ?_
      rintro e w1 ⟨rfl, b1⟩
      clear s_VA f_VA z_VA s_VR f_VR z_VR
      have S1 := b1.size
      simp only [World.size_alloc] at S1
      replace VA := VA.kept b1
      replace VR := VR.kept b1
      replace B := thenB B b1
      clear b1
      obtain ⟨s_VA, f_VA, z_VA⟩ := VA.open
      obtain ⟨s_VR, f_VR, z_VR⟩ := VR.open
      have Bo := B
      go_wp2_with fail
      refine (CB.out _).mono ?_
      rintro e wq ⟨rfl, rfl⟩
      go_wp2_with fail
      refine (CM.out _).mono ?_
      rintro e wq ⟨rfl, rfl⟩
      clear s_VA f_VA z_VA s_VR f_VR z_VR
      have VF := Hid.mk (VR.filled [.int .i64 3, .int .i64 0] rfl)
      have BR := belowCells B (show w.heap.size ≤ w.heap.size + 1 by (first | omega | (simp; done) | (simp; omega))) 0 [.int .i64 3, .int .i64 0]
      have HT := Hid.mk VR.there
      replace BR := Hid.mk BR
      obtain ⟨s_VA, f_VA, z_VA⟩ := VA.open
      obtain ⟨s_VR, f_VR, z_VR⟩ := VR.open
      go_wp2_with (refine wpList_store_mid rfl 42 _ _ rfl (w.heap.size + 1) 0 #[.int .i64 3, .int .i64 0] rfl rfl HT.out (by kernel_rfl) (by kernel_rfl) ?_)
      refine bodyPost_ret (v := .agg #[.int .i64 3, .int .i64 0]) (results_row Try.results25 _ _ (w.heap.size + 1) [.int .i64 3, .int .i64 0] _ rfl VF.out Try.underlying42 rfl (by kernel_rfl)) rfl ⟨rfl, BR.out⟩
    · rw [if_neg hl] at hV
      have d1 : decide (a * 4294967296 + s < f) = false := by simp; omega
      have hc : decide (1099511627776 < a * 4294967296 + s) = true := by simp; omega
      subst hV
      clear h1 e1 e2 hb h3 hl ha
      go_enter Try.func25, Try.ntmps25
      have B := Below.refl w.heap.size w
      have Bo := B
      replace B := thenB B (belowA w (.cells #[.int .i64 x.t, .int .i64 x.b] 25))
      have VA := V.new w [.int .i64 x.t, .int .i64 x.b] 25
      replace VA := VA.kept (belowA (w.alloc (.cells #[.int .i64 x.t, .int .i64 x.b] 25)) (.cells #[.int .i64 0, .int .i64 0] 42))
      replace B := thenB B (belowA (w.alloc (.cells #[.int .i64 x.t, .int .i64 x.b] 25)) (.cells #[.int .i64 0, .int .i64 0] 42))
      have VR : V ((w.alloc (.cells #[.int .i64 x.t, .int .i64 x.b] 25)).alloc (.cells #[.int .i64 0, .int .i64 0] 42)) (w.heap.size + 1) [.int .i64 0, .int .i64 0] := V.newAt _ _ _ _ (by simp)
      obtain ⟨s_VA, f_VA, z_VA⟩ := VA.open
      obtain ⟨s_VR, f_VR, z_VR⟩ := VR.open
      have Bo := B
      go_wp2_with fail
      refine (CF.out _).mono ?_
      rintro e w1 ⟨rfl, b1⟩
      clear s_VA f_VA z_VA s_VR f_VR z_VR
      have S1 := b1.size
      simp only [World.size_alloc] at S1
      replace VA := VA.kept b1
      replace VR := VR.kept b1
      replace B := thenB B b1
      clear b1
      obtain ⟨s_VA, f_VA, z_VA⟩ := VA.open
      obtain ⟨s_VR, f_VR, z_VR⟩ := VR.open
      have Bo := B
      go_wp2_with fail
      refine (CB.out _).mono ?_
      rintro e wq ⟨rfl, rfl⟩
      go_wp2_with fail
      refine (CM.out _).mono ?_
      rintro e wq ⟨rfl, rfl⟩
      clear s_VA f_VA z_VA s_VR f_VR z_VR
      have VF := Hid.mk (VR.filled [.int .i64 3, .int .i64 0] rfl)
      have BR := belowCells B (show w.heap.size ≤ w.heap.size + 1 by (first | omega | (simp; done) | (simp; omega))) 0 [.int .i64 3, .int .i64 0]
      have HT := Hid.mk VR.there
      replace BR := Hid.mk BR
      obtain ⟨s_VA, f_VA, z_VA⟩ := VA.open
      obtain ⟨s_VR, f_VR, z_VR⟩ := VR.open
      go_wp2_with (refine wpList_store_mid rfl 42 _ _ rfl (w.heap.size + 1) 0 #[.int .i64 3, .int .i64 0] rfl rfl HT.out (by kernel_rfl) (by kernel_rfl) ?_)
      refine bodyPost_ret (v := .agg #[.int .i64 3, .int .i64 0]) (results_row Try.results25 _ _ (w.heap.size + 1) [.int .i64 3, .int .i64 0] _ rfl VF.out Try.underlying42 rfl (by kernel_rfl)) rfl ⟨rfl, BR.out⟩
  · rw [e1, e2]
    have hb : btw s 0 4294967295 = true := btw_iff.2 h2
    simp only [hb] at CB
    simp only [h1] at CF
    obtain ⟨h2a, h2b⟩ := h2
    have hi := (wF_ok.mp h1).1
    obtain ⟨r1, r2⟩ := fr_row hi
    have CM := Hid.mk (l3Max_ok 1 (x.t - 32 + 1))
    have hm : max 1 (x.t - 32 + 1) = frW x := by unfold frW; omega
    simp only [hm] at CM
    clear hm
    have hV := gs_spec x s ⟨h2a, h2b⟩
    obtain ⟨i1, i2, _, _⟩ := hi
    generalize gsV x s = v at *
    generalize frW x = f at *
    have hS1 : Op.shift .shr .i64 f .u64 32 = pure (.int .i64 (f / 4294967296)) := by
      have h9 := shift_shr_any .i64 .u64 f 32 (by omega)
      exact h9
    obtain ⟨a, ha⟩ : ∃ a, f / 4294967296 = a := ⟨_, rfl⟩
    have ha0 : 0 ≤ a ∧ a ≤ 256 := by omega
    rw [ha] at hS1 hV
    obtain ⟨a1, a2⟩ := ha0
    have hS2 : Op.shift .shl .i64 a .u64 32 = pure (.int .i64 (a * 4294967296)) := by
      have h9 := shift_shl_any .i64 .u64 a 32 (by omega)
      have hw : IntKind.i64.wrap (a * 4294967296) = a * 4294967296 := by simp [IntKind.wrap, IntKind.bits, IntKind.signed]; omega
      rw [show (2 : Int) ^ min (32 : Int).toNat IntKind.i64.bits = 4294967296 from rfl, hw] at h9
      exact h9
    by_cases hl : a * 4294967296 + s < f
    · rw [if_pos hl] at hV
      have d1 : decide (a * 4294967296 + s < f) = true := by simp [hl]
      have hc : decide (1099511627776 < a * 4294967296 + s + 4294967296) = false := by simp; omega
      subst hV
      clear h1 e1 e2 hb h3 hl ha
      go_enter Try.func25, Try.ntmps25
      have B := Below.refl w.heap.size w
      have Bo := B
      replace B := thenB B (belowA w (.cells #[.int .i64 x.t, .int .i64 x.b] 25))
      have VA := V.new w [.int .i64 x.t, .int .i64 x.b] 25
      replace VA := VA.kept (belowA (w.alloc (.cells #[.int .i64 x.t, .int .i64 x.b] 25)) (.cells #[.int .i64 0, .int .i64 0] 42))
      replace B := thenB B (belowA (w.alloc (.cells #[.int .i64 x.t, .int .i64 x.b] 25)) (.cells #[.int .i64 0, .int .i64 0] 42))
      have VR : V ((w.alloc (.cells #[.int .i64 x.t, .int .i64 x.b] 25)).alloc (.cells #[.int .i64 0, .int .i64 0] 42)) (w.heap.size + 1) [.int .i64 0, .int .i64 0] := V.newAt _ _ _ _ (by simp)
      obtain ⟨s_VA, f_VA, z_VA⟩ := VA.open
      obtain ⟨s_VR, f_VR, z_VR⟩ := VR.open
      have Bo := B
      go_wp2_with fail
      refine (CF.out _).mono ?_
      rintro e w1 ⟨rfl, b1⟩
      clear s_VA f_VA z_VA s_VR f_VR z_VR
      have S1 := b1.size
      simp only [World.size_alloc] at S1
      replace VA := VA.kept b1
      replace VR := VR.kept b1
      replace B := thenB B b1
      clear b1
      obtain ⟨s_VA, f_VA, z_VA⟩ := VA.open
      obtain ⟨s_VR, f_VR, z_VR⟩ := VR.open
      have Bo := B
      go_wp2_with fail
      refine (CB.out _).mono ?_
      rintro e wq ⟨rfl, rfl⟩
      go_wp2_with fail
      refine (CM.out _).mono ?_
      rintro e wq ⟨rfl, rfl⟩
      clear s_VA f_VA z_VA s_VR f_VR z_VR
      have VF := Hid.mk (VR.filled [.int .i64 0, .int .i64 (a * 4294967296 + s + 4294967296)] rfl)
      have BR := belowCells B (show w.heap.size ≤ w.heap.size + 1 by (first | omega | (simp; done) | (simp; omega))) 0 [.int .i64 0, .int .i64 (a * 4294967296 + s + 4294967296)]
      have HT := Hid.mk VR.there
      replace BR := Hid.mk BR
      obtain ⟨s_VA, f_VA, z_VA⟩ := VA.open
      obtain ⟨s_VR, f_VR, z_VR⟩ := VR.open
      go_wp2_with (refine wpList_store_mid rfl 42 _ _ rfl (w.heap.size + 1) 0 #[.int .i64 0, .int .i64 (a * 4294967296 + s + 4294967296)] rfl rfl HT.out (by kernel_rfl) (by kernel_rfl) ?_)
      refine bodyPost_ret (v := .agg #[.int .i64 0, .int .i64 (a * 4294967296 + s + 4294967296)]) (results_row Try.results25 _ _ (w.heap.size + 1) [.int .i64 0, .int .i64 (a * 4294967296 + s + 4294967296)] _ rfl VF.out Try.underlying42 rfl (by kernel_rfl)) rfl ⟨rfl, BR.out⟩
    · rw [if_neg hl] at hV
      have d1 : decide (a * 4294967296 + s < f) = false := by simp; omega
      have hc : decide (1099511627776 < a * 4294967296 + s) = false := by simp; omega
      subst hV
      clear h1 e1 e2 hb h3 hl ha
      go_enter Try.func25, Try.ntmps25
      have B := Below.refl w.heap.size w
      have Bo := B
      replace B := thenB B (belowA w (.cells #[.int .i64 x.t, .int .i64 x.b] 25))
      have VA := V.new w [.int .i64 x.t, .int .i64 x.b] 25
      replace VA := VA.kept (belowA (w.alloc (.cells #[.int .i64 x.t, .int .i64 x.b] 25)) (.cells #[.int .i64 0, .int .i64 0] 42))
      replace B := thenB B (belowA (w.alloc (.cells #[.int .i64 x.t, .int .i64 x.b] 25)) (.cells #[.int .i64 0, .int .i64 0] 42))
      have VR : V ((w.alloc (.cells #[.int .i64 x.t, .int .i64 x.b] 25)).alloc (.cells #[.int .i64 0, .int .i64 0] 42)) (w.heap.size + 1) [.int .i64 0, .int .i64 0] := V.newAt _ _ _ _ (by simp)
      obtain ⟨s_VA, f_VA, z_VA⟩ := VA.open
      obtain ⟨s_VR, f_VR, z_VR⟩ := VR.open
      have Bo := B
      go_wp2_with fail
      refine (CF.out _).mono ?_
      rintro e w1 ⟨rfl, b1⟩
      clear s_VA f_VA z_VA s_VR f_VR z_VR
      have S1 := b1.size
      simp only [World.size_alloc] at S1
      replace VA := VA.kept b1
      replace VR := VR.kept b1
      replace B := thenB B b1
      clear b1
      obtain ⟨s_VA, f_VA, z_VA⟩ := VA.open
      obtain ⟨s_VR, f_VR, z_VR⟩ := VR.open
      have Bo := B
      go_wp2_with fail
      refine (CB.out _).mono ?_
      rintro e wq ⟨rfl, rfl⟩
      go_wp2_with fail
      refine (CM.out _).mono ?_
      rintro e wq ⟨rfl, rfl⟩
      clear s_VA f_VA z_VA s_VR f_VR z_VR
      have VF := Hid.mk (VR.filled [.int .i64 0, .int .i64 (a * 4294967296 + s)] rfl)
      have BR := belowCells B (show w.heap.size ≤ w.heap.size + 1 by (first | omega | (simp; done) | (simp; omega))) 0 [.int .i64 0, .int .i64 (a * 4294967296 + s)]
      have HT := Hid.mk VR.there
      replace BR := Hid.mk BR
      obtain ⟨s_VA, f_VA, z_VA⟩ := VA.open
      obtain ⟨s_VR, f_VR, z_VR⟩ := VR.open
      go_wp2_with (refine wpList_store_mid rfl 42 _ _ rfl (w.heap.size + 1) 0 #[.int .i64 0, .int .i64 (a * 4294967296 + s)] rfl rfl HT.out (by kernel_rfl) (by kernel_rfl) ?_)
      refine bodyPost_ret (v := .agg #[.int .i64 0, .int .i64 (a * 4294967296 + s)]) (results_row Try.results25 _ _ (w.heap.size + 1) [.int .i64 0, .int .i64 (a * 4294967296 + s)] _ rfl VF.out Try.underlying42 rfl (by kernel_rfl)) rfl ⟨rfl, BR.out⟩

set_option maxRecDepth 20000 in
set_option maxHeartbeats 4000000 in
theorem implLow_ok (x : Wn) (s : Int) (hs : -9223372036854775808 ≤ s ∧ s ≤ 9223372036854775807) (w : World) :
    Calls Try.prog 26 #[.agg #[.int .i64 x.t, .int .i64 x.b], .int .i64 s] w fun e w' => e = .returned (.agg #[.int .i64 (tlR x s).1, .int .i64 (tlR x s).2.1, .int .i64 (tlR x s).2.2.t, .int .i64 (tlR x s).2.2.b]) ∧ Below w.heap.size w w' := by
  have CG := Hid.mk (fun w => implGuess_ok x s hs w)
  by_cases h0 : gsC x s = 0
  · have eA : gsA x s = gsV x s := by simp [gsA, h0]
    have h1 : wF x = 0 := by rcases gs_ways x s with ⟨h1, e1, _⟩ | ⟨h1, _⟩ | ⟨h1, _⟩ | ⟨h1, _⟩ <;> first | exact h1 | (rw [e1] at h0; exact absurd h0 h1)
    have hv : -9223372036854775808 ≤ gsV x s ∧ gsV x s ≤ 9223372036854775807 := by
      obtain ⟨r1, r2⟩ := fr_row (wF_ok.mp h1).1
      unfold gsV
      omega
    have CT := Hid.mk (fun w => implTake_ok x (gsV x s) hv w)
    have et : tsR x (gsV x s) = tkR x (gsV x s) := by rcases ts_ways x (gsV x s) with ⟨h2, _⟩ | ⟨_, _, h2⟩; exact absurd h1 h2; exact h2
    rw [show tlR x s = tkR x (gsV x s) by simp [tlR, h0]]
    simp only [h0, eA] at CG
    try simp only [et] at CT
    clear et eA h0 h1 hv
    generalize tkR x (gsV x s) = P at *
    generalize gsV x s = v at *
    obtain ⟨k, n, y⟩ := P
    simp only at CT ⊢
    go_enter Try.func26, Try.ntmps26
    have B := Below.refl w.heap.size w
    have Bo := B
    replace B := thenB B (belowA w (.cells #[.int .i64 x.t, .int .i64 x.b] 25))
    have VA := V.new w [.int .i64 x.t, .int .i64 x.b] 25
    replace VA := VA.kept (belowA (w.alloc (.cells #[.int .i64 x.t, .int .i64 x.b] 25)) (.cells #[.int .i64 0, .int .i64 0, .int .i64 0, .int .i64 0] 35))
    replace B := thenB B (belowA (w.alloc (.cells #[.int .i64 x.t, .int .i64 x.b] 25)) (.cells #[.int .i64 0, .int .i64 0, .int .i64 0, .int .i64 0] 35))
    have VR : V ((w.alloc (.cells #[.int .i64 x.t, .int .i64 x.b] 25)).alloc (.cells #[.int .i64 0, .int .i64 0, .int .i64 0, .int .i64 0] 35)) (w.heap.size + 1) [.int .i64 0, .int .i64 0, .int .i64 0, .int .i64 0] := V.newAt _ _ _ _ (by simp)
    obtain ⟨s_VA, f_VA, z_VA⟩ := VA.open
    obtain ⟨s_VR, f_VR, z_VR⟩ := VR.open
    have Bo := B
    go_wp2_with fail
    refine (CG.out _).mono ?_
    rintro e w1 ⟨rfl, b1⟩
    clear s_VA f_VA z_VA s_VR f_VR z_VR
    have S1 := b1.size
    simp only [World.size_alloc] at S1
    replace VA := VA.kept b1
    replace VR := VR.kept b1
    replace B := thenB B b1
    clear b1
    obtain ⟨s_VA, f_VA, z_VA⟩ := VA.open
    obtain ⟨s_VR, f_VR, z_VR⟩ := VR.open
    have Bo := B
    replace VA := VA.kept (belowA w1 (.cells #[.int .i64 0, .int .i64 v] 42))
    replace VR := VR.kept (belowA w1 (.cells #[.int .i64 0, .int .i64 v] 42))
    replace B := thenB B (belowA w1 (.cells #[.int .i64 0, .int .i64 v] 42))
    have VG := V.new w1 [.int .i64 0, .int .i64 v] 42
    clear s_VA f_VA z_VA s_VR f_VR z_VR
    obtain ⟨s_VA, f_VA, z_VA⟩ := VA.open
    obtain ⟨s_VR, f_VR, z_VR⟩ := VR.open
    obtain ⟨s_VG, f_VG, z_VG⟩ := VG.open
    have Bo := B
    go_wp2_with fail
    refine (CT.out _).mono ?_
    rintro e w2 ⟨rfl, b2⟩
    clear s_VA f_VA z_VA s_VR f_VR z_VR s_VG f_VG z_VG
    have S2 := b2.size
    simp only [World.size_alloc] at S2
    replace VA := VA.kept b2
    replace VR := VR.kept b2
    replace VG := VG.kept b2
    replace B := thenB B b2
    clear b2
    obtain ⟨s_VA, f_VA, z_VA⟩ := VA.open
    obtain ⟨s_VR, f_VR, z_VR⟩ := VR.open
    obtain ⟨s_VG, f_VG, z_VG⟩ := VG.open
    have Bo := B
    clear s_VA f_VA z_VA s_VR f_VR z_VR s_VG f_VG z_VG
    have VF := Hid.mk (VR.filled [.int .i64 k, .int .i64 n, .int .i64 y.t, .int .i64 y.b] rfl)
    have BR := belowCells B (show w.heap.size ≤ w.heap.size + 1 by (first | omega | (simp; done) | (simp; omega))) 0 [.int .i64 k, .int .i64 n, .int .i64 y.t, .int .i64 y.b]
    have HT := Hid.mk VR.there
    replace BR := Hid.mk BR
    obtain ⟨s_VA, f_VA, z_VA⟩ := VA.open
    obtain ⟨s_VR, f_VR, z_VR⟩ := VR.open
    obtain ⟨s_VG, f_VG, z_VG⟩ := VG.open
    go_wp2_with (refine wpList_store_mid rfl 35 _ _ rfl (w.heap.size + 1) 0 #[.int .i64 k, .int .i64 n, .int .i64 y.t, .int .i64 y.b] rfl rfl HT.out (by kernel_rfl) (by kernel_rfl) ?_)
    refine bodyPost_ret (v := .agg #[.int .i64 k, .int .i64 n, .int .i64 y.t, .int .i64 y.b]) (results_row Try.results26 _ _ (w.heap.size + 1) [.int .i64 k, .int .i64 n, .int .i64 y.t, .int .i64 y.b] _ rfl VF.out Try.underlying35 rfl (by kernel_rfl)) rfl ⟨rfl, BR.out⟩
  · have eA : gsA x s = 0 := by simp [gsA, h0]
    have hne : (gsC x s != 0) = true := by simp [h0]
    rw [show tlR x s = (gsC x s, 0, ⟨0, 0⟩) by simp [tlR, h0]]
    simp only [eA] at CG
    generalize gsC x s = k at *
    clear h0 eA
    go_enter Try.func26, Try.ntmps26
    have B := Below.refl w.heap.size w
    have Bo := B
    replace B := thenB B (belowA w (.cells #[.int .i64 x.t, .int .i64 x.b] 25))
    have VA := V.new w [.int .i64 x.t, .int .i64 x.b] 25
    replace VA := VA.kept (belowA (w.alloc (.cells #[.int .i64 x.t, .int .i64 x.b] 25)) (.cells #[.int .i64 0, .int .i64 0, .int .i64 0, .int .i64 0] 35))
    replace B := thenB B (belowA (w.alloc (.cells #[.int .i64 x.t, .int .i64 x.b] 25)) (.cells #[.int .i64 0, .int .i64 0, .int .i64 0, .int .i64 0] 35))
    have VR : V ((w.alloc (.cells #[.int .i64 x.t, .int .i64 x.b] 25)).alloc (.cells #[.int .i64 0, .int .i64 0, .int .i64 0, .int .i64 0] 35)) (w.heap.size + 1) [.int .i64 0, .int .i64 0, .int .i64 0, .int .i64 0] := V.newAt _ _ _ _ (by simp)
    obtain ⟨s_VA, f_VA, z_VA⟩ := VA.open
    obtain ⟨s_VR, f_VR, z_VR⟩ := VR.open
    have Bo := B
    go_wp2_with fail
    refine (CG.out _).mono ?_
    rintro e w1 ⟨rfl, b1⟩
    clear s_VA f_VA z_VA s_VR f_VR z_VR
    have S1 := b1.size
    simp only [World.size_alloc] at S1
    replace VA := VA.kept b1
    replace VR := VR.kept b1
    replace B := thenB B b1
    clear b1
    obtain ⟨s_VA, f_VA, z_VA⟩ := VA.open
    obtain ⟨s_VR, f_VR, z_VR⟩ := VR.open
    have Bo := B
    replace VA := VA.kept (belowA w1 (.cells #[.int .i64 k, .int .i64 0] 42))
    replace VR := VR.kept (belowA w1 (.cells #[.int .i64 k, .int .i64 0] 42))
    replace B := thenB B (belowA w1 (.cells #[.int .i64 k, .int .i64 0] 42))
    have VG := V.new w1 [.int .i64 k, .int .i64 0] 42
    clear s_VA f_VA z_VA s_VR f_VR z_VR
    obtain ⟨s_VA, f_VA, z_VA⟩ := VA.open
    obtain ⟨s_VR, f_VR, z_VR⟩ := VR.open
    obtain ⟨s_VG, f_VG, z_VG⟩ := VG.open
    have Bo := B
    clear s_VA f_VA z_VA s_VR f_VR z_VR s_VG f_VG z_VG
    have VF := Hid.mk (VR.filled [.int .i64 k, .int .i64 0, .int .i64 0, .int .i64 0] rfl)
    have BR := belowCells B (show w.heap.size ≤ w.heap.size + 1 by (first | omega | (simp; done) | (simp; omega))) 0 [.int .i64 k, .int .i64 0, .int .i64 0, .int .i64 0]
    have HT := Hid.mk VR.there
    replace BR := Hid.mk BR
    obtain ⟨s_VA, f_VA, z_VA⟩ := VA.open
    obtain ⟨s_VR, f_VR, z_VR⟩ := VR.open
    obtain ⟨s_VG, f_VG, z_VG⟩ := VG.open
    go_wp2_with (refine wpList_store_mid rfl 35 _ _ rfl (w.heap.size + 1) 0 #[.int .i64 k, .int .i64 0, .int .i64 0, .int .i64 0] rfl rfl HT.out (by kernel_rfl) (by kernel_rfl) ?_)
    refine bodyPost_ret (v := .agg #[.int .i64 k, .int .i64 0, .int .i64 0, .int .i64 0]) (results_row Try.results26 _ _ (w.heap.size + 1) [.int .i64 k, .int .i64 0, .int .i64 0, .int .i64 0] _ rfl VF.out Try.underlying35 rfl (by kernel_rfl)) rfl ⟨rfl, BR.out⟩

set_option maxRecDepth 20000 in
set_option maxHeartbeats 4000000 in
theorem specLow_ok (x : Wn) (s : Int) (hs : -9223372036854775808 ≤ s ∧ s ≤ 9223372036854775807) (w : World) :
    Calls Try.prog 31 #[.agg #[.int .i64 x.t, .int .i64 x.b], .int .i64 s] w fun e w' => e = .returned (.agg #[.int .i64 (tlR x s).1, .int .i64 (tlR x s).2.1, .int .i64 (tlR x s).2.2.t, .int .i64 (tlR x s).2.2.b]) ∧ Below w.heap.size w w' := by
  have CG := Hid.mk (fun w => specGuess_ok x s hs w)
  by_cases h0 : gsC x s = 0
  · have eA : gsA x s = gsV x s := by simp [gsA, h0]
    have h1 : wF x = 0 := by rcases gs_ways x s with ⟨h1, e1, _⟩ | ⟨h1, _⟩ | ⟨h1, _⟩ | ⟨h1, _⟩ <;> first | exact h1 | (rw [e1] at h0; exact absurd h0 h1)
    have hv : -9223372036854775808 ≤ gsV x s ∧ gsV x s ≤ 9223372036854775807 := by
      obtain ⟨r1, r2⟩ := fr_row (wF_ok.mp h1).1
      unfold gsV
      omega
    have CT := Hid.mk (fun w => l10Take_ok x (wF_ok.mp h1).1 (gsV x s) hv w)
    have et : tsR x (gsV x s) = tkR x (gsV x s) := by rcases ts_ways x (gsV x s) with ⟨h2, _⟩ | ⟨_, _, h2⟩; exact absurd h1 h2; exact h2
    rw [show tlR x s = tkR x (gsV x s) by simp [tlR, h0]]
    simp only [h0, eA] at CG
    try simp only [et] at CT
    clear et eA h0 h1 hv
    generalize tkR x (gsV x s) = P at *
    generalize gsV x s = v at *
    obtain ⟨k, n, y⟩ := P
    simp only at CT ⊢
    go_enter Try.func31, Try.ntmps31
    have B := Below.refl w.heap.size w
    have Bo := B
    replace B := thenB B (belowA w (.cells #[.int .i64 x.t, .int .i64 x.b] 25))
    have VA := V.new w [.int .i64 x.t, .int .i64 x.b] 25
    replace VA := VA.kept (belowA (w.alloc (.cells #[.int .i64 x.t, .int .i64 x.b] 25)) (.cells #[.int .i64 0, .int .i64 0, .int .i64 0, .int .i64 0] 35))
    replace B := thenB B (belowA (w.alloc (.cells #[.int .i64 x.t, .int .i64 x.b] 25)) (.cells #[.int .i64 0, .int .i64 0, .int .i64 0, .int .i64 0] 35))
    have VR : V ((w.alloc (.cells #[.int .i64 x.t, .int .i64 x.b] 25)).alloc (.cells #[.int .i64 0, .int .i64 0, .int .i64 0, .int .i64 0] 35)) (w.heap.size + 1) [.int .i64 0, .int .i64 0, .int .i64 0, .int .i64 0] := V.newAt _ _ _ _ (by simp)
    obtain ⟨s_VA, f_VA, z_VA⟩ := VA.open
    obtain ⟨s_VR, f_VR, z_VR⟩ := VR.open
    have Bo := B
    go_wp2_with fail
    refine (CG.out _).mono ?_
    rintro e w1 ⟨rfl, b1⟩
    clear s_VA f_VA z_VA s_VR f_VR z_VR
    have S1 := b1.size
    simp only [World.size_alloc] at S1
    replace VA := VA.kept b1
    replace VR := VR.kept b1
    replace B := thenB B b1
    clear b1
    obtain ⟨s_VA, f_VA, z_VA⟩ := VA.open
    obtain ⟨s_VR, f_VR, z_VR⟩ := VR.open
    have Bo := B
    replace VA := VA.kept (belowA w1 (.cells #[.int .i64 0, .int .i64 v] 42))
    replace VR := VR.kept (belowA w1 (.cells #[.int .i64 0, .int .i64 v] 42))
    replace B := thenB B (belowA w1 (.cells #[.int .i64 0, .int .i64 v] 42))
    have VG := V.new w1 [.int .i64 0, .int .i64 v] 42
    clear s_VA f_VA z_VA s_VR f_VR z_VR
    obtain ⟨s_VA, f_VA, z_VA⟩ := VA.open
    obtain ⟨s_VR, f_VR, z_VR⟩ := VR.open
    obtain ⟨s_VG, f_VG, z_VG⟩ := VG.open
    have Bo := B
    go_wp2_with fail
    refine (CT.out _).mono ?_
    rintro e w2 ⟨rfl, b2⟩
    clear s_VA f_VA z_VA s_VR f_VR z_VR s_VG f_VG z_VG
    have S2 := b2.size
    simp only [World.size_alloc] at S2
    replace VA := VA.kept b2
    replace VR := VR.kept b2
    replace VG := VG.kept b2
    replace B := thenB B b2
    clear b2
    obtain ⟨s_VA, f_VA, z_VA⟩ := VA.open
    obtain ⟨s_VR, f_VR, z_VR⟩ := VR.open
    obtain ⟨s_VG, f_VG, z_VG⟩ := VG.open
    have Bo := B
    clear s_VA f_VA z_VA s_VR f_VR z_VR s_VG f_VG z_VG
    have VF := Hid.mk (VR.filled [.int .i64 k, .int .i64 n, .int .i64 y.t, .int .i64 y.b] rfl)
    have BR := belowCells B (show w.heap.size ≤ w.heap.size + 1 by (first | omega | (simp; done) | (simp; omega))) 0 [.int .i64 k, .int .i64 n, .int .i64 y.t, .int .i64 y.b]
    have HT := Hid.mk VR.there
    replace BR := Hid.mk BR
    obtain ⟨s_VA, f_VA, z_VA⟩ := VA.open
    obtain ⟨s_VR, f_VR, z_VR⟩ := VR.open
    obtain ⟨s_VG, f_VG, z_VG⟩ := VG.open
    go_wp2_with (refine wpList_store_mid rfl 35 _ _ rfl (w.heap.size + 1) 0 #[.int .i64 k, .int .i64 n, .int .i64 y.t, .int .i64 y.b] rfl rfl HT.out (by kernel_rfl) (by kernel_rfl) ?_)
    refine bodyPost_ret (v := .agg #[.int .i64 k, .int .i64 n, .int .i64 y.t, .int .i64 y.b]) (results_row Try.results31 _ _ (w.heap.size + 1) [.int .i64 k, .int .i64 n, .int .i64 y.t, .int .i64 y.b] _ rfl VF.out Try.underlying35 rfl (by kernel_rfl)) rfl ⟨rfl, BR.out⟩
  · have eA : gsA x s = 0 := by simp [gsA, h0]
    have hne : (gsC x s != 0) = true := by simp [h0]
    rw [show tlR x s = (gsC x s, 0, ⟨0, 0⟩) by simp [tlR, h0]]
    simp only [eA] at CG
    generalize gsC x s = k at *
    clear h0 eA
    go_enter Try.func31, Try.ntmps31
    have B := Below.refl w.heap.size w
    have Bo := B
    replace B := thenB B (belowA w (.cells #[.int .i64 x.t, .int .i64 x.b] 25))
    have VA := V.new w [.int .i64 x.t, .int .i64 x.b] 25
    replace VA := VA.kept (belowA (w.alloc (.cells #[.int .i64 x.t, .int .i64 x.b] 25)) (.cells #[.int .i64 0, .int .i64 0, .int .i64 0, .int .i64 0] 35))
    replace B := thenB B (belowA (w.alloc (.cells #[.int .i64 x.t, .int .i64 x.b] 25)) (.cells #[.int .i64 0, .int .i64 0, .int .i64 0, .int .i64 0] 35))
    have VR : V ((w.alloc (.cells #[.int .i64 x.t, .int .i64 x.b] 25)).alloc (.cells #[.int .i64 0, .int .i64 0, .int .i64 0, .int .i64 0] 35)) (w.heap.size + 1) [.int .i64 0, .int .i64 0, .int .i64 0, .int .i64 0] := V.newAt _ _ _ _ (by simp)
    obtain ⟨s_VA, f_VA, z_VA⟩ := VA.open
    obtain ⟨s_VR, f_VR, z_VR⟩ := VR.open
    have Bo := B
    go_wp2_with fail
    refine (CG.out _).mono ?_
    rintro e w1 ⟨rfl, b1⟩
    clear s_VA f_VA z_VA s_VR f_VR z_VR
    have S1 := b1.size
    simp only [World.size_alloc] at S1
    replace VA := VA.kept b1
    replace VR := VR.kept b1
    replace B := thenB B b1
    clear b1
    obtain ⟨s_VA, f_VA, z_VA⟩ := VA.open
    obtain ⟨s_VR, f_VR, z_VR⟩ := VR.open
    have Bo := B
    replace VA := VA.kept (belowA w1 (.cells #[.int .i64 k, .int .i64 0] 42))
    replace VR := VR.kept (belowA w1 (.cells #[.int .i64 k, .int .i64 0] 42))
    replace B := thenB B (belowA w1 (.cells #[.int .i64 k, .int .i64 0] 42))
    have VG := V.new w1 [.int .i64 k, .int .i64 0] 42
    clear s_VA f_VA z_VA s_VR f_VR z_VR
    obtain ⟨s_VA, f_VA, z_VA⟩ := VA.open
    obtain ⟨s_VR, f_VR, z_VR⟩ := VR.open
    obtain ⟨s_VG, f_VG, z_VG⟩ := VG.open
    have Bo := B
    clear s_VA f_VA z_VA s_VR f_VR z_VR s_VG f_VG z_VG
    have VF := Hid.mk (VR.filled [.int .i64 k, .int .i64 0, .int .i64 0, .int .i64 0] rfl)
    have BR := belowCells B (show w.heap.size ≤ w.heap.size + 1 by (first | omega | (simp; done) | (simp; omega))) 0 [.int .i64 k, .int .i64 0, .int .i64 0, .int .i64 0]
    have HT := Hid.mk VR.there
    replace BR := Hid.mk BR
    obtain ⟨s_VA, f_VA, z_VA⟩ := VA.open
    obtain ⟨s_VR, f_VR, z_VR⟩ := VR.open
    obtain ⟨s_VG, f_VG, z_VG⟩ := VG.open
    go_wp2_with (refine wpList_store_mid rfl 35 _ _ rfl (w.heap.size + 1) 0 #[.int .i64 k, .int .i64 0, .int .i64 0, .int .i64 0] rfl rfl HT.out (by kernel_rfl) (by kernel_rfl) ?_)
    refine bodyPost_ret (v := .agg #[.int .i64 k, .int .i64 0, .int .i64 0, .int .i64 0]) (results_row Try.results31 _ _ (w.heap.size + 1) [.int .i64 k, .int .i64 0, .int .i64 0, .int .i64 0] _ rfl VF.out Try.underlying35 rfl (by kernel_rfl)) rfl ⟨rfl, BR.out⟩


end Go.Proofs.Ytkpdbdcfimdnjaa
