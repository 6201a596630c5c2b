/- The first rule: the program. -/
import Derived.Test.YtngkahchhioncaaDoorPolG
import Derived.Test.YtngkahchhioncaaDoorPolB
namespace Go.Proofs.YtngkahchhioncaaDoor
open Go.RowKit

theorem hoP_in {x : S9} {f t r l u v : Int} {n : Nat} (h1 : sfC x = 0) (h2 : pfC f t r l u v n = 0) : hoP x f t r l u v n = inP x f t r u v := by
  unfold hoP; simp [h1, h2]

theorem pf_codes (f t r l u v : Int) (n : Nat) : pfC f t r l u v n = 0 ∨ pfC f t r l u v n = 1 ∨ pfC f t r l u v n = 2 ∨ pfC f t r l u v n = 3 := by
  unfold pfC
  repeat' split
  all_goals omega

theorem as_codes (xs : List R11) (f t r l u v : Int) (m : Nat) : asC xs f t r l u v m = 0 ∨ asC xs f t r l u v m = 1 ∨ asC xs f t r l u v m = 2 ∨ asC xs f t r l u v m = 3 := by
  rcases as_ways xs f t r l u v m with ⟨_, h, _⟩ | ⟨_, h⟩
  · rw [h]; exact pyC_codes xs
  · rw [h]; exact pf_codes f t r l u v m

/-- What 'FirstRule' answers, as a value. -/
@[irreducible] def frV (xs : List R11) (f t r l u v : Int) (m : Nat) : Value := .agg #[.int .i64 (frC xs f t r l u v m), .int .i64 (frA xs f t r l u v m), .int .i64 (frR xs f t r l u v m).s.a, .int .i64 (frR xs f t r l u v m).s.b, .int .i64 (frR xs f t r l u v m).s.c, .int .i64 (frR xs f t r l u v m).s.d, .int .i64 (frR xs f t r l u v m).s.e, .int .i64 (frR xs f t r l u v m).s.f, .int .i64 (frR xs f t r l u v m).s.g, .int .i64 (frR xs f t r l u v m).s.h, .int .i64 (frR xs f t r l u v m).s.r, .int .i64 (frR xs f t r l u v m).p, .int .i64 (frR xs f t r l u v m).q]

theorem frV_is (xs : List R11) (f t r l u v : Int) (m : Nat) : frV xs f t r l u v m = .agg #[.int .i64 (frC xs f t r l u v m), .int .i64 (frA xs f t r l u v m), .int .i64 (frR xs f t r l u v m).s.a, .int .i64 (frR xs f t r l u v m).s.b, .int .i64 (frR xs f t r l u v m).s.c, .int .i64 (frR xs f t r l u v m).s.d, .int .i64 (frR xs f t r l u v m).s.e, .int .i64 (frR xs f t r l u v m).s.f, .int .i64 (frR xs f t r l u v m).s.g, .int .i64 (frR xs f t r l u v m).s.h, .int .i64 (frR xs f t r l u v m).s.r, .int .i64 (frR xs f t r l u v m).p, .int .i64 (frR xs f t r l u v m).q] := by unfold frV; rfl

theorem fr_ways2 (xs : List R11) (f t r l u v : Int) (m : Nat) :
    ((pyC xs != 0) = true ∧ frV xs f t r l u v m = .agg #[.int .i64 (pyC xs), .int .i64 0, .int .i64 0, .int .i64 0, .int .i64 0, .int .i64 0, .int .i64 0, .int .i64 0, .int .i64 0, .int .i64 0, .int .i64 0, .int .i64 0, .int .i64 0]) ∨
    (pyC xs = 0 ∧ (pfC f t r l u v m != 0) = true ∧ frV xs f t r l u v m = .agg #[.int .i64 (pfC f t r l u v m), .int .i64 0, .int .i64 0, .int .i64 0, .int .i64 0, .int .i64 0, .int .i64 0, .int .i64 0, .int .i64 0, .int .i64 0, .int .i64 0, .int .i64 0, .int .i64 0]) ∨
    (pyC xs = 0 ∧ pfC f t r l u v m = 0 ∧ (∀ (k : Nat) (x : R11), fstK xs f t r u v = k → k < xs.length → xs.getD k zRule = x → frV xs f t r l u v m = .agg #[.int .i64 0, .int .i64 k, .int .i64 x.s.a, .int .i64 x.s.b, .int .i64 x.s.c, .int .i64 x.s.d, .int .i64 x.s.e, .int .i64 x.s.f, .int .i64 x.s.g, .int .i64 x.s.h, .int .i64 x.s.r, .int .i64 x.p, .int .i64 x.q]) ∧ (fstK xs f t r u v = xs.length → frV xs f t r l u v m = .agg #[.int .i64 4, .int .i64 0, .int .i64 0, .int .i64 0, .int .i64 0, .int .i64 0, .int .i64 0, .int .i64 0, .int .i64 0, .int .i64 0, .int .i64 0, .int .i64 0, .int .i64 0])) := by
  rw [frV_is]
  rcases as_ways xs f t r l u v m with ⟨h1, h2, h3⟩ | ⟨h1, h2⟩
  · refine .inl ⟨h1, ?_⟩
    rcases fr_ways xs f t r l u v m with ⟨_, _, e1, e2, e3, _⟩ | ⟨h4, _⟩ | ⟨h4, _⟩
    · rw [e1, e2, e3, h2]; rfl
    · rw [h2] at h4; exact absurd h4 h3
    · rw [h2] at h4; exact absurd h4 h3
  · by_cases h5 : pfC f t r l u v m = 0
    · rw [h5] at h2
      refine .inr (.inr ⟨h1, h5, ?_, ?_⟩)
      · intro k x hk hl hx
        rcases fr_ways xs f t r l u v m with ⟨_, h4, _⟩ | ⟨_, h4, _⟩ | ⟨_, _, e1, e2, e3, _⟩
        · exact absurd h2 h4
        · omega
        · rw [e1, e2, e3, hk, hx]
      · intro hk
        rcases fr_ways xs f t r l u v m with ⟨_, h4, _⟩ | ⟨_, h4, e1, e2, e3, _⟩ | ⟨_, h4, _⟩
        · exact absurd h2 h4
        · rw [e1, e2, e3]; rfl
        · omega
    · refine .inr (.inl ⟨h1, by simpa using h5, ?_⟩)
      rcases fr_ways xs f t r l u v m with ⟨_, _, e1, e2, e3, _⟩ | ⟨h4, _⟩ | ⟨h4, _⟩
      · rw [e1, e2, e3, h2]; rfl
      · rw [h2] at h4; exact absurd h4 h5
      · rw [h2] at h4; exact absurd h4 h5

set_option maxRecDepth 20000 in
set_option maxHeartbeats 4000000 in
theorem implFirstRule_ok (a : Option Addr) (n ca : Nat) (xs : List R11) (f t r l u v : Int) (s : Option Addr) (m cs : Nat) (w : World) (ha : RdRule w a xs) (hn : xs.length = n) (hx : n ≤ maxLen) :
    Calls Tryd.prog 15 #[.slice a n ca, .agg #[.int .i64 f, .int .i64 t, .int .i64 r, .int .i64 l, .int .i64 u, .int .i64 v, .slice s m cs]] w fun e w' => e = .returned (frV xs f t r l u v m) ∧ Below w.heap.size w w' := by
  have CP := Hid.mk (fun w h => implPolicyFault_ok a n ca xs w h hn hx)
  have CQ := Hid.mk (fun w => implPacketFault_ok f t r l u v s m cs w)
  have q0 := build_rr0
  have q1 := build_rr1
  have hw := fr_ways2 xs f t r l u v m
  obtain ⟨A0, hA0⟩ : ∃ A0, frV xs f t r l u v m = A0 := ⟨_, rfl⟩
  rw [hA0] at hw ⊢
  clear hA0
  unfold maxLen at hx
  rcases hw with ⟨h1, e1⟩ | ⟨h1, h2, e1⟩ | ⟨h1, h2, e1, e2⟩
  · replace e1 := Hid.mk e1
    generalize pyC xs = kk at *
    go_enter Tryd.func15, Tryd.ntmps15
    have B := Below.refl w.heap.size w
    replace ha := ha.kept (belowA w (.cells #[.int .i64 f, .int .i64 t, .int .i64 r, .int .i64 l, .int .i64 u, .int .i64 v, .slice s m cs] 26))
    replace B := thenB B (belowA w (.cells #[.int .i64 f, .int .i64 t, .int .i64 r, .int .i64 l, .int .i64 u, .int .i64 v, .slice s m cs] 26))
    have VP := V.new w [.int .i64 f, .int .i64 t, .int .i64 r, .int .i64 l, .int .i64 u, .int .i64 v, .slice s m cs] 26
    replace VP := VP.kept (belowA (w.alloc (.cells #[.int .i64 f, .int .i64 t, .int .i64 r, .int .i64 l, .int .i64 u, .int .i64 v, .slice s m cs] 26)) (.cells #[.int .i64 0, .int .i64 0, .int .i64 0, .int .i64 0, .int .i64 0, .int .i64 0, .int .i64 0, .int .i64 0, .int .i64 0, .int .i64 0, .int .i64 0, .int .i64 0, .int .i64 0] 36))
    replace ha := ha.kept (belowA (w.alloc (.cells #[.int .i64 f, .int .i64 t, .int .i64 r, .int .i64 l, .int .i64 u, .int .i64 v, .slice s m cs] 26)) (.cells #[.int .i64 0, .int .i64 0, .int .i64 0, .int .i64 0, .int .i64 0, .int .i64 0, .int .i64 0, .int .i64 0, .int .i64 0, .int .i64 0, .int .i64 0, .int .i64 0, .int .i64 0] 36))
    replace B := thenB B (belowA (w.alloc (.cells #[.int .i64 f, .int .i64 t, .int .i64 r, .int .i64 l, .int .i64 u, .int .i64 v, .slice s m cs] 26)) (.cells #[.int .i64 0, .int .i64 0, .int .i64 0, .int .i64 0, .int .i64 0, .int .i64 0, .int .i64 0, .int .i64 0, .int .i64 0, .int .i64 0, .int .i64 0, .int .i64 0, .int .i64 0] 36))
    have VR : V ((w.alloc (.cells #[.int .i64 f, .int .i64 t, .int .i64 r, .int .i64 l, .int .i64 u, .int .i64 v, .slice s m cs] 26)).alloc (.cells #[.int .i64 0, .int .i64 0, .int .i64 0, .int .i64 0, .int .i64 0, .int .i64 0, .int .i64 0, .int .i64 0, .int .i64 0, .int .i64 0, .int .i64 0, .int .i64 0, .int .i64 0] 36)) (w.heap.size + 1) [.int .i64 0, .int .i64 0, .int .i64 0, .int .i64 0, .int .i64 0, .int .i64 0, .int .i64 0, .int .i64 0, .int .i64 0, .int .i64 0, .int .i64 0, .int .i64 0, .int .i64 0] := V.newAt _ _ _ _ (by simp)
    obtain ⟨s_VP, f_VP, z_VP⟩ := VP.open
    obtain ⟨s_VR, f_VR, z_VR⟩ := VR.open
    have Bo := B
    go_wp2_with fail
    refine (CP.out _ ha).mono ?_
    rintro e w1 ⟨rfl, b1⟩
    clear s_VP f_VP z_VP s_VR f_VR z_VR
    have S1 := b1.size
    simp only [World.size_alloc] at S1
    replace VP := VP.kept b1
    replace VR := VR.kept b1
    replace ha := ha.kept b1
    replace B := thenB B b1
    clear b1
    obtain ⟨s_VP, f_VP, z_VP⟩ := VP.open
    obtain ⟨s_VR, f_VR, z_VR⟩ := VR.open
    have Bo := B
    clear s_VP f_VP z_VP s_VR f_VR z_VR
    have VF := Hid.mk (VR.filled [.int .i64 kk, .int .i64 0, .int .i64 0, .int .i64 0, .int .i64 0, .int .i64 0, .int .i64 0, .int .i64 0, .int .i64 0, .int .i64 0, .int .i64 0, .int .i64 0, .int .i64 0] rfl)
    have BR := belowCells B (show w.heap.size ≤ w.heap.size + 1 by (first | omega | (simp; done) | (simp; omega))) 0 [.int .i64 kk, .int .i64 0, .int .i64 0, .int .i64 0, .int .i64 0, .int .i64 0, .int .i64 0, .int .i64 0, .int .i64 0, .int .i64 0, .int .i64 0, .int .i64 0, .int .i64 0]
    have HT := Hid.mk VR.there
    replace BR := Hid.mk BR
    obtain ⟨s_VP, f_VP, z_VP⟩ := VP.open
    obtain ⟨s_VR, f_VR, z_VR⟩ := VR.open
    go_wp2_with (refine wpList_store_mid rfl 36 _ _ rfl (w.heap.size + 1) 0 #[.int .i64 kk, .int .i64 0, .int .i64 0, .int .i64 0, .int .i64 0, .int .i64 0, .int .i64 0, .int .i64 0, .int .i64 0, .int .i64 0, .int .i64 0, .int .i64 0, .int .i64 0] rfl rfl HT.out (by kernel_rfl) (by kernel_rfl) ?_)
    refine bodyPost_ret (v := .agg #[.int .i64 kk, .int .i64 0, .int .i64 0, .int .i64 0, .int .i64 0, .int .i64 0, .int .i64 0, .int .i64 0, .int .i64 0, .int .i64 0, .int .i64 0, .int .i64 0, .int .i64 0]) (results_row Tryd.results15 _ _ (w.heap.size + 1) [.int .i64 kk, .int .i64 0, .int .i64 0, .int .i64 0, .int .i64 0, .int .i64 0, .int .i64 0, .int .i64 0, .int .i64 0, .int .i64 0, .int .i64 0, .int .i64 0, .int .i64 0] _ rfl VF.out Tryd.underlying36 rfl (by kernel_rfl)) rfl ⟨by rw [e1.out], BR.out⟩
  · replace e1 := Hid.mk e1
    rw [h1] at CP
    generalize pfC f t r l u v m = kk at *
    go_enter Tryd.func15, Tryd.ntmps15
    have B := Below.refl w.heap.size w
    replace ha := ha.kept (belowA w (.cells #[.int .i64 f, .int .i64 t, .int .i64 r, .int .i64 l, .int .i64 u, .int .i64 v, .slice s m cs] 26))
    replace B := thenB B (belowA w (.cells #[.int .i64 f, .int .i64 t, .int .i64 r, .int .i64 l, .int .i64 u, .int .i64 v, .slice s m cs] 26))
    have VP := V.new w [.int .i64 f, .int .i64 t, .int .i64 r, .int .i64 l, .int .i64 u, .int .i64 v, .slice s m cs] 26
    replace VP := VP.kept (belowA (w.alloc (.cells #[.int .i64 f, .int .i64 t, .int .i64 r, .int .i64 l, .int .i64 u, .int .i64 v, .slice s m cs] 26)) (.cells #[.int .i64 0, .int .i64 0, .int .i64 0, .int .i64 0, .int .i64 0, .int .i64 0, .int .i64 0, .int .i64 0, .int .i64 0, .int .i64 0, .int .i64 0, .int .i64 0, .int .i64 0] 36))
    replace ha := ha.kept (belowA (w.alloc (.cells #[.int .i64 f, .int .i64 t, .int .i64 r, .int .i64 l, .int .i64 u, .int .i64 v, .slice s m cs] 26)) (.cells #[.int .i64 0, .int .i64 0, .int .i64 0, .int .i64 0, .int .i64 0, .int .i64 0, .int .i64 0, .int .i64 0, .int .i64 0, .int .i64 0, .int .i64 0, .int .i64 0, .int .i64 0] 36))
    replace B := thenB B (belowA (w.alloc (.cells #[.int .i64 f, .int .i64 t, .int .i64 r, .int .i64 l, .int .i64 u, .int .i64 v, .slice s m cs] 26)) (.cells #[.int .i64 0, .int .i64 0, .int .i64 0, .int .i64 0, .int .i64 0, .int .i64 0, .int .i64 0, .int .i64 0, .int .i64 0, .int .i64 0, .int .i64 0, .int .i64 0, .int .i64 0] 36))
    have VR : V ((w.alloc (.cells #[.int .i64 f, .int .i64 t, .int .i64 r, .int .i64 l, .int .i64 u, .int .i64 v, .slice s m cs] 26)).alloc (.cells #[.int .i64 0, .int .i64 0, .int .i64 0, .int .i64 0, .int .i64 0, .int .i64 0, .int .i64 0, .int .i64 0, .int .i64 0, .int .i64 0, .int .i64 0, .int .i64 0, .int .i64 0] 36)) (w.heap.size + 1) [.int .i64 0, .int .i64 0, .int .i64 0, .int .i64 0, .int .i64 0, .int .i64 0, .int .i64 0, .int .i64 0, .int .i64 0, .int .i64 0, .int .i64 0, .int .i64 0, .int .i64 0] := V.newAt _ _ _ _ (by simp)
    obtain ⟨s_VP, f_VP, z_VP⟩ := VP.open
    obtain ⟨s_VR, f_VR, z_VR⟩ := VR.open
    have Bo := B
    go_wp2_with fail
    refine (CP.out _ ha).mono ?_
    rintro e w11 ⟨rfl, b11⟩
    clear s_VP f_VP z_VP s_VR f_VR z_VR
    have S11 := b11.size
    simp only [World.size_alloc] at S11
    replace VP := VP.kept b11
    replace VR := VR.kept b11
    replace ha := ha.kept b11
    replace B := thenB B b11
    clear b11
    obtain ⟨s_VP, f_VP, z_VP⟩ := VP.open
    obtain ⟨s_VR, f_VR, z_VR⟩ := VR.open
    have Bo := B
    go_wp2_with fail
    refine (CQ.out _).mono ?_
    rintro e w12 ⟨rfl, b12⟩
    clear s_VP f_VP z_VP s_VR f_VR z_VR
    have S12 := b12.size
    replace VP := VP.kept b12
    replace VR := VR.kept b12
    replace ha := ha.kept b12
    replace B := thenB B b12
    clear b12
    obtain ⟨s_VP, f_VP, z_VP⟩ := VP.open
    obtain ⟨s_VR, f_VR, z_VR⟩ := VR.open
    have Bo := B
    clear s_VP f_VP z_VP s_VR f_VR z_VR
    have VF := Hid.mk (VR.filled [.int .i64 kk, .int .i64 0, .int .i64 0, .int .i64 0, .int .i64 0, .int .i64 0, .int .i64 0, .int .i64 0, .int .i64 0, .int .i64 0, .int .i64 0, .int .i64 0, .int .i64 0] rfl)
    have BR := belowCells B (show w.heap.size ≤ w.heap.size + 1 by (first | omega | (simp; done) | (simp; omega))) 0 [.int .i64 kk, .int .i64 0, .int .i64 0, .int .i64 0, .int .i64 0, .int .i64 0, .int .i64 0, .int .i64 0, .int .i64 0, .int .i64 0, .int .i64 0, .int .i64 0, .int .i64 0]
    have HT := Hid.mk VR.there
    replace BR := Hid.mk BR
    obtain ⟨s_VP, f_VP, z_VP⟩ := VP.open
    obtain ⟨s_VR, f_VR, z_VR⟩ := VR.open
    go_wp2_with (refine wpList_store_mid rfl 36 _ _ rfl (w.heap.size + 1) 0 #[.int .i64 kk, .int .i64 0, .int .i64 0, .int .i64 0, .int .i64 0, .int .i64 0, .int .i64 0, .int .i64 0, .int .i64 0, .int .i64 0, .int .i64 0, .int .i64 0, .int .i64 0] rfl rfl HT.out (by kernel_rfl) (by kernel_rfl) ?_)
    refine bodyPost_ret (v := .agg #[.int .i64 kk, .int .i64 0, .int .i64 0, .int .i64 0, .int .i64 0, .int .i64 0, .int .i64 0, .int .i64 0, .int .i64 0, .int .i64 0, .int .i64 0, .int .i64 0, .int .i64 0]) (results_row Tryd.results15 _ _ (w.heap.size + 1) [.int .i64 kk, .int .i64 0, .int .i64 0, .int .i64 0, .int .i64 0, .int .i64 0, .int .i64 0, .int .i64 0, .int .i64 0, .int .i64 0, .int .i64 0, .int .i64 0, .int .i64 0] _ rfl VF.out Tryd.underlying36 rfl (by kernel_rfl)) rfl ⟨by rw [e1.out], BR.out⟩
  · have hz := (pyC_zero h1).2
    rw [h1] at CP
    rw [h2] at CQ
    have hho : ∀ k, k < xs.length → hoP (xs.getD k zRule).s f t r l u v m = inP (xs.getD k zRule).s f t r u v := fun k hk => hoP_in (ru_zero (hz _ (getDRule_mem hk))).1 h2
    replace hho := Hid.mk hho
    replace e1 := Hid.mk e1
    replace e2 := Hid.mk e2
    clear hz h1 h2
    go_enter Tryd.func15, Tryd.ntmps15
    have B := Below.refl w.heap.size w
    replace ha := ha.kept (belowA w (.cells #[.int .i64 f, .int .i64 t, .int .i64 r, .int .i64 l, .int .i64 u, .int .i64 v, .slice s m cs] 26))
    replace B := thenB B (belowA w (.cells #[.int .i64 f, .int .i64 t, .int .i64 r, .int .i64 l, .int .i64 u, .int .i64 v, .slice s m cs] 26))
    have VP := V.new w [.int .i64 f, .int .i64 t, .int .i64 r, .int .i64 l, .int .i64 u, .int .i64 v, .slice s m cs] 26
    replace VP := VP.kept (belowA (w.alloc (.cells #[.int .i64 f, .int .i64 t, .int .i64 r, .int .i64 l, .int .i64 u, .int .i64 v, .slice s m cs] 26)) (.cells #[.int .i64 0, .int .i64 0, .int .i64 0, .int .i64 0, .int .i64 0, .int .i64 0, .int .i64 0, .int .i64 0, .int .i64 0, .int .i64 0, .int .i64 0, .int .i64 0, .int .i64 0] 36))
    replace ha := ha.kept (belowA (w.alloc (.cells #[.int .i64 f, .int .i64 t, .int .i64 r, .int .i64 l, .int .i64 u, .int .i64 v, .slice s m cs] 26)) (.cells #[.int .i64 0, .int .i64 0, .int .i64 0, .int .i64 0, .int .i64 0, .int .i64 0, .int .i64 0, .int .i64 0, .int .i64 0, .int .i64 0, .int .i64 0, .int .i64 0, .int .i64 0] 36))
    replace B := thenB B (belowA (w.alloc (.cells #[.int .i64 f, .int .i64 t, .int .i64 r, .int .i64 l, .int .i64 u, .int .i64 v, .slice s m cs] 26)) (.cells #[.int .i64 0, .int .i64 0, .int .i64 0, .int .i64 0, .int .i64 0, .int .i64 0, .int .i64 0, .int .i64 0, .int .i64 0, .int .i64 0, .int .i64 0, .int .i64 0, .int .i64 0] 36))
    have VR : V ((w.alloc (.cells #[.int .i64 f, .int .i64 t, .int .i64 r, .int .i64 l, .int .i64 u, .int .i64 v, .slice s m cs] 26)).alloc (.cells #[.int .i64 0, .int .i64 0, .int .i64 0, .int .i64 0, .int .i64 0, .int .i64 0, .int .i64 0, .int .i64 0, .int .i64 0, .int .i64 0, .int .i64 0, .int .i64 0, .int .i64 0] 36)) (w.heap.size + 1) [.int .i64 0, .int .i64 0, .int .i64 0, .int .i64 0, .int .i64 0, .int .i64 0, .int .i64 0, .int .i64 0, .int .i64 0, .int .i64 0, .int .i64 0, .int .i64 0, .int .i64 0] := V.newAt _ _ _ _ (by simp)
    obtain ⟨s_VP, f_VP, z_VP⟩ := VP.open
    obtain ⟨s_VR, f_VR, z_VR⟩ := VR.open
    have Bo := B
    go_wp2_with fail
    refine (CP.out _ ha).mono ?_
    rintro e w21 ⟨rfl, b21⟩
    clear s_VP f_VP z_VP s_VR f_VR z_VR
    have S21 := b21.size
    simp only [World.size_alloc] at S21
    replace VP := VP.kept b21
    replace VR := VR.kept b21
    replace ha := ha.kept b21
    replace B := thenB B b21
    clear b21
    obtain ⟨s_VP, f_VP, z_VP⟩ := VP.open
    obtain ⟨s_VR, f_VR, z_VR⟩ := VR.open
    have Bo := B
    go_wp2_with fail
    refine (CQ.out _).mono ?_
    rintro e w22 ⟨rfl, b22⟩
    clear s_VP f_VP z_VP s_VR f_VR z_VR
    have S22 := b22.size
    replace VP := VP.kept b22
    replace VR := VR.kept b22
    replace ha := ha.kept b22
    replace B := thenB B b22
    clear b22
    obtain ⟨s_VP, f_VP, z_VP⟩ := VP.open
    obtain ⟨s_VR, f_VR, z_VR⟩ := VR.open
    have Bo := B
    clear s_VP f_VP z_VP s_VR f_VR z_VR
    replace VP := Hid.mk VP
    replace VR := Hid.mk VR
    replace B := Hid.mk B
    replace ha := Hid.mk ha
    clear Bo
    go_wp2
    go_loopw [23] (fun i wr => ∃ k : Nat, k ≤ n ∧ k ≤ fstK xs f t r u v ∧ i = .int .i64 k ∧ V wr w.heap.size [.int .i64 f, .int .i64 t, .int .i64 r, .int .i64 l, .int .i64 u, .int .i64 v, .slice s m cs] ∧ V wr (w.heap.size + 1) [.int .i64 0, .int .i64 0, .int .i64 0, .int .i64 0, .int .i64 0, .int .i64 0, .int .i64 0, .int .i64 0, .int .i64 0, .int .i64 0, .int .i64 0, .int .i64 0, .int .i64 0] ∧ RdRule wr a xs ∧ Below w.heap.size w wr) (fun i _ => n - (intOf i).toNat)
    case atStart => exact ⟨0, Nat.zero_le _, Nat.zero_le _, rfl, VP.out, VR.out, ha.out, B.out⟩
    case round =>
      clear VP VR B ha
      obtain ⟨k, hk, hkf, rfl, VP, VR, ha, B⟩ := hrel
      by_cases hlt : k < n
      · obtain ⟨x, hx1⟩ : ∃ x, xs.getD k zRule = x := ⟨_, rfl⟩
        have hk1 : (k : Int) < (n : Int) := by omega
        have hst := fst_step hkf (by omega) hx1
        have hh := hho.out k (by omega)
        rw [hx1] at hh
        have CH := Hid.mk (fun w => implHolds_ok x.s f t r l u v s m cs w)
        rw [hh] at CH
        have HA := Hid.mk ha
        rcases ha with ha | ⟨b1, o1, rfl, hca⟩
        · simp [ha] at hn; omega
        have HQ := RdRule.cells hca k (by omega) x hx1
        have hx2 := Hid.mk hx1
        clear hca hx1 hh
        obtain ⟨p0, p1, p2, p3, p4, p5, p6, p7, p8, p9, p10⟩ := HQ
        generalize inP x.s f t r u v = c at *
        replace hst := Hid.mk hst
        have hVR := VR.1
        replace VP := VP.kept (belowA wr (.cells #[.int .i64 x.s.a, .int .i64 x.s.b, .int .i64 x.s.c, .int .i64 x.s.d, .int .i64 x.s.e, .int .i64 x.s.f, .int .i64 x.s.g, .int .i64 x.s.h, .int .i64 x.s.r, .int .i64 x.p, .int .i64 x.q] 34))
        replace VR := VR.kept (belowA wr (.cells #[.int .i64 x.s.a, .int .i64 x.s.b, .int .i64 x.s.c, .int .i64 x.s.d, .int .i64 x.s.e, .int .i64 x.s.f, .int .i64 x.s.g, .int .i64 x.s.h, .int .i64 x.s.r, .int .i64 x.p, .int .i64 x.q] 34))
        replace B := thenB B (belowA wr (.cells #[.int .i64 x.s.a, .int .i64 x.s.b, .int .i64 x.s.c, .int .i64 x.s.d, .int .i64 x.s.e, .int .i64 x.s.f, .int .i64 x.s.g, .int .i64 x.s.h, .int .i64 x.s.r, .int .i64 x.p, .int .i64 x.q] 34))
        have VX := V.new wr [.int .i64 x.s.a, .int .i64 x.s.b, .int .i64 x.s.c, .int .i64 x.s.d, .int .i64 x.s.e, .int .i64 x.s.f, .int .i64 x.s.g, .int .i64 x.s.h, .int .i64 x.s.r, .int .i64 x.p, .int .i64 x.q] 34
        obtain ⟨s_VP, f_VP, z_VP⟩ := VP.open
        obtain ⟨s_VR, f_VR, z_VR⟩ := VR.open
        obtain ⟨s_VX, f_VX, z_VX⟩ := VX.open
        have Bo := B
        replace HA := Hid.mk (HA.out.kept (belowA wr (.cells #[.int .i64 x.s.a, .int .i64 x.s.b, .int .i64 x.s.c, .int .i64 x.s.d, .int .i64 x.s.e, .int .i64 x.s.f, .int .i64 x.s.g, .int .i64 x.s.h, .int .i64 x.s.r, .int .i64 x.p, .int .i64 x.q] 34)))
        go_wp2_with fail
        refine (CH.out _).mono ?_
        rintro e w41 ⟨rfl, b41⟩
        clear s_VP f_VP z_VP s_VR f_VR z_VR s_VX f_VX z_VX
        have S41 := b41.size
        simp only [World.size_alloc] at S41
        replace VP := VP.kept b41
        replace VR := VR.kept b41
        replace VX := VX.kept b41
        replace B := thenB B b41
        replace HA := Hid.mk (HA.out.kept b41)
        clear b41
        obtain ⟨s_VP, f_VP, z_VP⟩ := VP.open
        obtain ⟨s_VR, f_VR, z_VR⟩ := VR.open
        obtain ⟨s_VX, f_VX, z_VX⟩ := VX.open
        have Bo := B
        clear p0 p1 p2 p3 p4 p5 p6 p7 p8 p9 p10
        cases c
        · have hn1 := hst.out.2 rfl
          replace hn1 := Hid.mk hn1
          clear s_VP f_VP z_VP s_VR f_VR z_VR s_VX f_VX z_VX
          replace VP := Hid.mk VP
          replace VR := Hid.mk VR
          replace B := Hid.mk B
          clear Bo VX
          go_wp2
          go_roundw
          case rel => exact ⟨k + 1, by omega, hn1.out, by go_num, VP.out, VR.out, HA.out, B.out⟩
          case measure => simp [intOf]; omega
        · have hn1 := hst.out.1 rfl
          have e3 := Hid.mk (e1.out k x hn1 (by omega) hx2.out)
          clear hn1
          clear s_VP f_VP z_VP s_VR f_VR z_VR s_VX f_VX z_VX
          have VF := Hid.mk (VR.filled [.int .i64 0, .int .i64 k, .int .i64 x.s.a, .int .i64 x.s.b, .int .i64 x.s.c, .int .i64 x.s.d, .int .i64 x.s.e, .int .i64 x.s.f, .int .i64 x.s.g, .int .i64 x.s.h, .int .i64 x.s.r, .int .i64 x.p, .int .i64 x.q] rfl)
          have BR := belowCells B (show w.heap.size ≤ w.heap.size + 1 by (first | omega | (simp; done) | (simp; omega))) 0 [.int .i64 0, .int .i64 k, .int .i64 x.s.a, .int .i64 x.s.b, .int .i64 x.s.c, .int .i64 x.s.d, .int .i64 x.s.e, .int .i64 x.s.f, .int .i64 x.s.g, .int .i64 x.s.h, .int .i64 x.s.r, .int .i64 x.p, .int .i64 x.q]
          have HT := Hid.mk VR.there
          replace BR := Hid.mk BR
          obtain ⟨s_VP, f_VP, z_VP⟩ := VP.open
          obtain ⟨s_VR, f_VR, z_VR⟩ := VR.open
          obtain ⟨s_VX, f_VX, z_VX⟩ := VX.open
          go_wp2_with (refine wpList_store_mid rfl 36 _ _ rfl (w.heap.size + 1) 0 #[.int .i64 0, .int .i64 k, .int .i64 x.s.a, .int .i64 x.s.b, .int .i64 x.s.c, .int .i64 x.s.d, .int .i64 x.s.e, .int .i64 x.s.f, .int .i64 x.s.g, .int .i64 x.s.h, .int .i64 x.s.r, .int .i64 x.p, .int .i64 x.q] rfl rfl HT.out (by kernel_rfl) (by kernel_rfl) ?_)
          refine bodyPost_ret (v := .agg #[.int .i64 0, .int .i64 k, .int .i64 x.s.a, .int .i64 x.s.b, .int .i64 x.s.c, .int .i64 x.s.d, .int .i64 x.s.e, .int .i64 x.s.f, .int .i64 x.s.g, .int .i64 x.s.h, .int .i64 x.s.r, .int .i64 x.p, .int .i64 x.q]) (results_row Tryd.results15 _ _ (w.heap.size + 1) [.int .i64 0, .int .i64 k, .int .i64 x.s.a, .int .i64 x.s.b, .int .i64 x.s.c, .int .i64 x.s.d, .int .i64 x.s.e, .int .i64 x.s.f, .int .i64 x.s.g, .int .i64 x.s.h, .int .i64 x.s.r, .int .i64 x.p, .int .i64 x.q] _ rfl VF.out Tryd.underlying36 rfl (by kernel_rfl)) rfl ⟨by rw [e3.out], BR.out⟩
      · have hz := fstK_le xs f t r u v
        have e3 := Hid.mk (e2.out (by omega))
        have hVR := VR.1
        clear hz hkf
        obtain ⟨s_VP, f_VP, z_VP⟩ := VP.open
        obtain ⟨s_VR, f_VR, z_VR⟩ := VR.open
        have Bo := B
        clear s_VP f_VP z_VP s_VR f_VR z_VR
        have VF := Hid.mk (VR.filled [.int .i64 4, .int .i64 0, .int .i64 0, .int .i64 0, .int .i64 0, .int .i64 0, .int .i64 0, .int .i64 0, .int .i64 0, .int .i64 0, .int .i64 0, .int .i64 0, .int .i64 0] rfl)
        have BR := belowCells B (show w.heap.size ≤ w.heap.size + 1 by (first | omega | (simp; done) | (simp; omega))) 0 [.int .i64 4, .int .i64 0, .int .i64 0, .int .i64 0, .int .i64 0, .int .i64 0, .int .i64 0, .int .i64 0, .int .i64 0, .int .i64 0, .int .i64 0, .int .i64 0, .int .i64 0]
        have HT := Hid.mk VR.there
        replace BR := Hid.mk BR
        obtain ⟨s_VP, f_VP, z_VP⟩ := VP.open
        obtain ⟨s_VR, f_VR, z_VR⟩ := VR.open
        go_wp2_with (refine wpList_store_mid rfl 36 _ _ rfl (w.heap.size + 1) 0 #[.int .i64 4, .int .i64 0, .int .i64 0, .int .i64 0, .int .i64 0, .int .i64 0, .int .i64 0, .int .i64 0, .int .i64 0, .int .i64 0, .int .i64 0, .int .i64 0, .int .i64 0] rfl rfl HT.out (by kernel_rfl) (by kernel_rfl) ?_)
        refine bodyPost_ret (v := .agg #[.int .i64 4, .int .i64 0, .int .i64 0, .int .i64 0, .int .i64 0, .int .i64 0, .int .i64 0, .int .i64 0, .int .i64 0, .int .i64 0, .int .i64 0, .int .i64 0, .int .i64 0]) (results_row Tryd.results15 _ _ (w.heap.size + 1) [.int .i64 4, .int .i64 0, .int .i64 0, .int .i64 0, .int .i64 0, .int .i64 0, .int .i64 0, .int .i64 0, .int .i64 0, .int .i64 0, .int .i64 0, .int .i64 0, .int .i64 0] _ rfl VF.out Tryd.underlying36 rfl (by kernel_rfl)) rfl ⟨by rw [e3.out], BR.out⟩

theorem af_ways2 (xs : List R11) (f t r l u v : Int) (m : Nat) :
    (∃ c : Int, asC xs f t r l u v m = c ∧ afV xs f t r l u v m = 0 ∧ (c == 0) = false ∧ (c == 4) = false ∧ frV xs f t r l u v m = .agg #[.int .i64 c, .int .i64 0, .int .i64 0, .int .i64 0, .int .i64 0, .int .i64 0, .int .i64 0, .int .i64 0, .int .i64 0, .int .i64 0, .int .i64 0, .int .i64 0, .int .i64 0]) ∨
    (asC xs f t r l u v m = 0 ∧ afV xs f t r l u v m = 1 ∧ frV xs f t r l u v m = .agg #[.int .i64 4, .int .i64 0, .int .i64 0, .int .i64 0, .int .i64 0, .int .i64 0, .int .i64 0, .int .i64 0, .int .i64 0, .int .i64 0, .int .i64 0, .int .i64 0, .int .i64 0]) ∨
    (∃ (k : Nat) (x : R11), asC xs f t r l u v m = 0 ∧ afV xs f t r l u v m = x.p ∧ frV xs f t r l u v m = .agg #[.int .i64 0, .int .i64 k, .int .i64 x.s.a, .int .i64 x.s.b, .int .i64 x.s.c, .int .i64 x.s.d, .int .i64 x.s.e, .int .i64 x.s.f, .int .i64 x.s.g, .int .i64 x.s.h, .int .i64 x.s.r, .int .i64 x.p, .int .i64 x.q]) := by
  rw [frV_is]
  have hc := as_codes xs f t r l u v m
  rcases fr_ways xs f t r l u v m with ⟨_, h1, e1, e2, e3, e4⟩ | ⟨h1, _, e1, e2, e3, e4⟩ | ⟨h1, _, e1, e2, e3, e4⟩
  · refine .inl ⟨_, rfl, e4, by simpa using h1, by simp; omega, ?_⟩
    rw [e1, e2, e3]; rfl
  · refine .inr (.inl ⟨h1, e4, ?_⟩)
    rw [e1, e2, e3]; rfl
  · refine .inr (.inr ⟨fstK xs f t r u v, xs.getD (fstK xs f t r u v) zRule, h1, e4, ?_⟩)
    rw [e1, e2, e3]

set_option maxRecDepth 20000 in
set_option maxHeartbeats 4000000 in
theorem implActionFor_ok (a : Option Addr) (n ca : Nat) (xs : List R11) (f t r l u v : Int) (s : Option Addr) (m cs : Nat) (w : World) (ha : RdRule w a xs) (hn : xs.length = n) (hx : n ≤ maxLen) :
    Calls Tryd.prog 16 #[.slice a n ca, .agg #[.int .i64 f, .int .i64 t, .int .i64 r, .int .i64 l, .int .i64 u, .int .i64 v, .slice s m cs]] w fun e w' => e = .returned (.agg #[.int .i64 (asC xs f t r l u v m), .int .i64 (afV xs f t r l u v m)]) ∧ Below w.heap.size w w' := by
  have CF := Hid.mk (fun w h => implFirstRule_ok a n ca xs f t r l u v s m cs w h hn hx)
  have q2 := build_ir0
  have q3 := build_ir1
  rcases af_ways2 xs f t r l u v m with ⟨c, h1, h2, h3, h4, e1⟩ | ⟨h1, h2, e1⟩ | ⟨k, x, h1, h2, e1⟩
  · rw [h1, h2]
    rw [e1] at CF
    clear h1 h2 e1
    go_enter Tryd.func16, Tryd.ntmps16
    have B := Below.refl w.heap.size w
    replace ha := ha.kept (belowA w (.cells #[.int .i64 f, .int .i64 t, .int .i64 r, .int .i64 l, .int .i64 u, .int .i64 v, .slice s m cs] 26))
    replace B := thenB B (belowA w (.cells #[.int .i64 f, .int .i64 t, .int .i64 r, .int .i64 l, .int .i64 u, .int .i64 v, .slice s m cs] 26))
    have VP := V.new w [.int .i64 f, .int .i64 t, .int .i64 r, .int .i64 l, .int .i64 u, .int .i64 v, .slice s m cs] 26
    replace VP := VP.kept (belowA (w.alloc (.cells #[.int .i64 f, .int .i64 t, .int .i64 r, .int .i64 l, .int .i64 u, .int .i64 v, .slice s m cs] 26)) (.cells #[.int .i64 0, .int .i64 0] 39))
    replace ha := ha.kept (belowA (w.alloc (.cells #[.int .i64 f, .int .i64 t, .int .i64 r, .int .i64 l, .int .i64 u, .int .i64 v, .slice s m cs] 26)) (.cells #[.int .i64 0, .int .i64 0] 39))
    replace B := thenB B (belowA (w.alloc (.cells #[.int .i64 f, .int .i64 t, .int .i64 r, .int .i64 l, .int .i64 u, .int .i64 v, .slice s m cs] 26)) (.cells #[.int .i64 0, .int .i64 0] 39))
    have VR : V ((w.alloc (.cells #[.int .i64 f, .int .i64 t, .int .i64 r, .int .i64 l, .int .i64 u, .int .i64 v, .slice s m cs] 26)).alloc (.cells #[.int .i64 0, .int .i64 0] 39)) (w.heap.size + 1) [.int .i64 0, .int .i64 0] := V.newAt _ _ _ _ (by simp)
    obtain ⟨s_VP, f_VP, z_VP⟩ := VP.open
    obtain ⟨s_VR, f_VR, z_VR⟩ := VR.open
    have Bo := B
    go_wp2_with fail
    refine (CF.out _ ha).mono ?_
    rintro e w1 ⟨rfl, b1⟩
    clear s_VP f_VP z_VP s_VR f_VR z_VR
    have S1 := b1.size
    simp only [World.size_alloc] at S1
    replace VP := VP.kept b1
    replace VR := VR.kept b1
    replace ha := ha.kept b1
    replace B := thenB B b1
    clear b1
    obtain ⟨s_VP, f_VP, z_VP⟩ := VP.open
    obtain ⟨s_VR, f_VR, z_VR⟩ := VR.open
    have Bo := B
    replace VP := VP.kept (belowA w1 (.cells #[.int .i64 c, .int .i64 0, .int .i64 0, .int .i64 0, .int .i64 0, .int .i64 0, .int .i64 0, .int .i64 0, .int .i64 0, .int .i64 0, .int .i64 0, .int .i64 0, .int .i64 0] 36))
    replace VR := VR.kept (belowA w1 (.cells #[.int .i64 c, .int .i64 0, .int .i64 0, .int .i64 0, .int .i64 0, .int .i64 0, .int .i64 0, .int .i64 0, .int .i64 0, .int .i64 0, .int .i64 0, .int .i64 0, .int .i64 0] 36))
    replace ha := ha.kept (belowA w1 (.cells #[.int .i64 c, .int .i64 0, .int .i64 0, .int .i64 0, .int .i64 0, .int .i64 0, .int .i64 0, .int .i64 0, .int .i64 0, .int .i64 0, .int .i64 0, .int .i64 0, .int .i64 0] 36))
    replace B := thenB B (belowA w1 (.cells #[.int .i64 c, .int .i64 0, .int .i64 0, .int .i64 0, .int .i64 0, .int .i64 0, .int .i64 0, .int .i64 0, .int .i64 0, .int .i64 0, .int .i64 0, .int .i64 0, .int .i64 0] 36))
    have VF1 := V.new w1 [.int .i64 c, .int .i64 0, .int .i64 0, .int .i64 0, .int .i64 0, .int .i64 0, .int .i64 0, .int .i64 0, .int .i64 0, .int .i64 0, .int .i64 0, .int .i64 0, .int .i64 0] 36
    clear s_VP f_VP z_VP s_VR f_VR z_VR
    obtain ⟨s_VP, f_VP, z_VP⟩ := VP.open
    obtain ⟨s_VR, f_VR, z_VR⟩ := VR.open
    obtain ⟨s_VF1, f_VF1, z_VF1⟩ := VF1.open
    replace Bo := B
    clear s_VP f_VP z_VP s_VR f_VR z_VR s_VF1 f_VF1 z_VF1
    have VF := Hid.mk (VR.filled [.int .i64 c, .int .i64 0] rfl)
    have BR := belowCells B (show w.heap.size ≤ w.heap.size + 1 by (first | omega | (simp; done) | (simp; omega))) 0 [.int .i64 c, .int .i64 0]
    have HT := Hid.mk VR.there
    replace BR := Hid.mk BR
    obtain ⟨s_VP, f_VP, z_VP⟩ := VP.open
    obtain ⟨s_VR, f_VR, z_VR⟩ := VR.open
    obtain ⟨s_VF1, f_VF1, z_VF1⟩ := VF1.open
    go_wp2_with (refine wpList_store_mid rfl 39 _ _ rfl (w.heap.size + 1) 0 #[.int .i64 c, .int .i64 0] rfl rfl HT.out (by kernel_rfl) (by kernel_rfl) ?_)
    refine bodyPost_ret (v := .agg #[.int .i64 c, .int .i64 0]) (results_row Tryd.results16 _ _ (w.heap.size + 1) [.int .i64 c, .int .i64 0] _ rfl VF.out Tryd.underlying39 rfl (by kernel_rfl)) rfl ⟨rfl, BR.out⟩
  · rw [h1, h2]
    rw [e1] at CF
    clear h1 h2 e1
    go_enter Tryd.func16, Tryd.ntmps16
    have B := Below.refl w.heap.size w
    replace ha := ha.kept (belowA w (.cells #[.int .i64 f, .int .i64 t, .int .i64 r, .int .i64 l, .int .i64 u, .int .i64 v, .slice s m cs] 26))
    replace B := thenB B (belowA w (.cells #[.int .i64 f, .int .i64 t, .int .i64 r, .int .i64 l, .int .i64 u, .int .i64 v, .slice s m cs] 26))
    have VP := V.new w [.int .i64 f, .int .i64 t, .int .i64 r, .int .i64 l, .int .i64 u, .int .i64 v, .slice s m cs] 26
    replace VP := VP.kept (belowA (w.alloc (.cells #[.int .i64 f, .int .i64 t, .int .i64 r, .int .i64 l, .int .i64 u, .int .i64 v, .slice s m cs] 26)) (.cells #[.int .i64 0, .int .i64 0] 39))
    replace ha := ha.kept (belowA (w.alloc (.cells #[.int .i64 f, .int .i64 t, .int .i64 r, .int .i64 l, .int .i64 u, .int .i64 v, .slice s m cs] 26)) (.cells #[.int .i64 0, .int .i64 0] 39))
    replace B := thenB B (belowA (w.alloc (.cells #[.int .i64 f, .int .i64 t, .int .i64 r, .int .i64 l, .int .i64 u, .int .i64 v, .slice s m cs] 26)) (.cells #[.int .i64 0, .int .i64 0] 39))
    have VR : V ((w.alloc (.cells #[.int .i64 f, .int .i64 t, .int .i64 r, .int .i64 l, .int .i64 u, .int .i64 v, .slice s m cs] 26)).alloc (.cells #[.int .i64 0, .int .i64 0] 39)) (w.heap.size + 1) [.int .i64 0, .int .i64 0] := V.newAt _ _ _ _ (by simp)
    obtain ⟨s_VP, f_VP, z_VP⟩ := VP.open
    obtain ⟨s_VR, f_VR, z_VR⟩ := VR.open
    have Bo := B
    go_wp2_with fail
    refine (CF.out _ ha).mono ?_
    rintro e w11 ⟨rfl, b11⟩
    clear s_VP f_VP z_VP s_VR f_VR z_VR
    have S11 := b11.size
    simp only [World.size_alloc] at S11
    replace VP := VP.kept b11
    replace VR := VR.kept b11
    replace ha := ha.kept b11
    replace B := thenB B b11
    clear b11
    obtain ⟨s_VP, f_VP, z_VP⟩ := VP.open
    obtain ⟨s_VR, f_VR, z_VR⟩ := VR.open
    have Bo := B
    replace VP := VP.kept (belowA w11 (.cells #[.int .i64 4, .int .i64 0, .int .i64 0, .int .i64 0, .int .i64 0, .int .i64 0, .int .i64 0, .int .i64 0, .int .i64 0, .int .i64 0, .int .i64 0, .int .i64 0, .int .i64 0] 36))
    replace VR := VR.kept (belowA w11 (.cells #[.int .i64 4, .int .i64 0, .int .i64 0, .int .i64 0, .int .i64 0, .int .i64 0, .int .i64 0, .int .i64 0, .int .i64 0, .int .i64 0, .int .i64 0, .int .i64 0, .int .i64 0] 36))
    replace ha := ha.kept (belowA w11 (.cells #[.int .i64 4, .int .i64 0, .int .i64 0, .int .i64 0, .int .i64 0, .int .i64 0, .int .i64 0, .int .i64 0, .int .i64 0, .int .i64 0, .int .i64 0, .int .i64 0, .int .i64 0] 36))
    replace B := thenB B (belowA w11 (.cells #[.int .i64 4, .int .i64 0, .int .i64 0, .int .i64 0, .int .i64 0, .int .i64 0, .int .i64 0, .int .i64 0, .int .i64 0, .int .i64 0, .int .i64 0, .int .i64 0, .int .i64 0] 36))
    have VF1 := V.new w11 [.int .i64 4, .int .i64 0, .int .i64 0, .int .i64 0, .int .i64 0, .int .i64 0, .int .i64 0, .int .i64 0, .int .i64 0, .int .i64 0, .int .i64 0, .int .i64 0, .int .i64 0] 36
    clear s_VP f_VP z_VP s_VR f_VR z_VR
    obtain ⟨s_VP, f_VP, z_VP⟩ := VP.open
    obtain ⟨s_VR, f_VR, z_VR⟩ := VR.open
    obtain ⟨s_VF1, f_VF1, z_VF1⟩ := VF1.open
    replace Bo := B
    clear s_VP f_VP z_VP s_VR f_VR z_VR s_VF1 f_VF1 z_VF1
    have VF := Hid.mk (VR.filled [.int .i64 0, .int .i64 1] rfl)
    have BR := belowCells B (show w.heap.size ≤ w.heap.size + 1 by (first | omega | (simp; done) | (simp; omega))) 0 [.int .i64 0, .int .i64 1]
    have HT := Hid.mk VR.there
    replace BR := Hid.mk BR
    obtain ⟨s_VP, f_VP, z_VP⟩ := VP.open
    obtain ⟨s_VR, f_VR, z_VR⟩ := VR.open
    obtain ⟨s_VF1, f_VF1, z_VF1⟩ := VF1.open
    go_wp2_with (refine wpList_store_mid rfl 39 _ _ rfl (w.heap.size + 1) 0 #[.int .i64 0, .int .i64 1] rfl rfl HT.out (by kernel_rfl) (by kernel_rfl) ?_)
    refine bodyPost_ret (v := .agg #[.int .i64 0, .int .i64 1]) (results_row Tryd.results16 _ _ (w.heap.size + 1) [.int .i64 0, .int .i64 1] _ rfl VF.out Tryd.underlying39 rfl (by kernel_rfl)) rfl ⟨rfl, BR.out⟩
  · rw [h1, h2]
    rw [e1] at CF
    clear h1 h2 e1
    go_enter Tryd.func16, Tryd.ntmps16
    have B := Below.refl w.heap.size w
    replace ha := ha.kept (belowA w (.cells #[.int .i64 f, .int .i64 t, .int .i64 r, .int .i64 l, .int .i64 u, .int .i64 v, .slice s m cs] 26))
    replace B := thenB B (belowA w (.cells #[.int .i64 f, .int .i64 t, .int .i64 r, .int .i64 l, .int .i64 u, .int .i64 v, .slice s m cs] 26))
    have VP := V.new w [.int .i64 f, .int .i64 t, .int .i64 r, .int .i64 l, .int .i64 u, .int .i64 v, .slice s m cs] 26
    replace VP := VP.kept (belowA (w.alloc (.cells #[.int .i64 f, .int .i64 t, .int .i64 r, .int .i64 l, .int .i64 u, .int .i64 v, .slice s m cs] 26)) (.cells #[.int .i64 0, .int .i64 0] 39))
    replace ha := ha.kept (belowA (w.alloc (.cells #[.int .i64 f, .int .i64 t, .int .i64 r, .int .i64 l, .int .i64 u, .int .i64 v, .slice s m cs] 26)) (.cells #[.int .i64 0, .int .i64 0] 39))
    replace B := thenB B (belowA (w.alloc (.cells #[.int .i64 f, .int .i64 t, .int .i64 r, .int .i64 l, .int .i64 u, .int .i64 v, .slice s m cs] 26)) (.cells #[.int .i64 0, .int .i64 0] 39))
    have VR : V ((w.alloc (.cells #[.int .i64 f, .int .i64 t, .int .i64 r, .int .i64 l, .int .i64 u, .int .i64 v, .slice s m cs] 26)).alloc (.cells #[.int .i64 0, .int .i64 0] 39)) (w.heap.size + 1) [.int .i64 0, .int .i64 0] := V.newAt _ _ _ _ (by simp)
    obtain ⟨s_VP, f_VP, z_VP⟩ := VP.open
    obtain ⟨s_VR, f_VR, z_VR⟩ := VR.open
    have Bo := B
    go_wp2_with fail
    refine (CF.out _ ha).mono ?_
    rintro e w21 ⟨rfl, b21⟩
    clear s_VP f_VP z_VP s_VR f_VR z_VR
    have S21 := b21.size
    simp only [World.size_alloc] at S21
    replace VP := VP.kept b21
    replace VR := VR.kept b21
    replace ha := ha.kept b21
    replace B := thenB B b21
    clear b21
    obtain ⟨s_VP, f_VP, z_VP⟩ := VP.open
    obtain ⟨s_VR, f_VR, z_VR⟩ := VR.open
    have Bo := B
    replace VP := VP.kept (belowA w21 (.cells #[.int .i64 0, .int .i64 k, .int .i64 x.s.a, .int .i64 x.s.b, .int .i64 x.s.c, .int .i64 x.s.d, .int .i64 x.s.e, .int .i64 x.s.f, .int .i64 x.s.g, .int .i64 x.s.h, .int .i64 x.s.r, .int .i64 x.p, .int .i64 x.q] 36))
    replace VR := VR.kept (belowA w21 (.cells #[.int .i64 0, .int .i64 k, .int .i64 x.s.a, .int .i64 x.s.b, .int .i64 x.s.c, .int .i64 x.s.d, .int .i64 x.s.e, .int .i64 x.s.f, .int .i64 x.s.g, .int .i64 x.s.h, .int .i64 x.s.r, .int .i64 x.p, .int .i64 x.q] 36))
    replace ha := ha.kept (belowA w21 (.cells #[.int .i64 0, .int .i64 k, .int .i64 x.s.a, .int .i64 x.s.b, .int .i64 x.s.c, .int .i64 x.s.d, .int .i64 x.s.e, .int .i64 x.s.f, .int .i64 x.s.g, .int .i64 x.s.h, .int .i64 x.s.r, .int .i64 x.p, .int .i64 x.q] 36))
    replace B := thenB B (belowA w21 (.cells #[.int .i64 0, .int .i64 k, .int .i64 x.s.a, .int .i64 x.s.b, .int .i64 x.s.c, .int .i64 x.s.d, .int .i64 x.s.e, .int .i64 x.s.f, .int .i64 x.s.g, .int .i64 x.s.h, .int .i64 x.s.r, .int .i64 x.p, .int .i64 x.q] 36))
    have VF1 := V.new w21 [.int .i64 0, .int .i64 k, .int .i64 x.s.a, .int .i64 x.s.b, .int .i64 x.s.c, .int .i64 x.s.d, .int .i64 x.s.e, .int .i64 x.s.f, .int .i64 x.s.g, .int .i64 x.s.h, .int .i64 x.s.r, .int .i64 x.p, .int .i64 x.q] 36
    clear s_VP f_VP z_VP s_VR f_VR z_VR
    obtain ⟨s_VP, f_VP, z_VP⟩ := VP.open
    obtain ⟨s_VR, f_VR, z_VR⟩ := VR.open
    obtain ⟨s_VF1, f_VF1, z_VF1⟩ := VF1.open
    replace Bo := B
    clear s_VP f_VP z_VP s_VR f_VR z_VR s_VF1 f_VF1 z_VF1
    have VF := Hid.mk (VR.filled [.int .i64 0, .int .i64 x.p] rfl)
    have BR := belowCells B (show w.heap.size ≤ w.heap.size + 1 by (first | omega | (simp; done) | (simp; omega))) 0 [.int .i64 0, .int .i64 x.p]
    have HT := Hid.mk VR.there
    replace BR := Hid.mk BR
    obtain ⟨s_VP, f_VP, z_VP⟩ := VP.open
    obtain ⟨s_VR, f_VR, z_VR⟩ := VR.open
    obtain ⟨s_VF1, f_VF1, z_VF1⟩ := VF1.open
    go_wp2_with (refine wpList_store_mid rfl 39 _ _ rfl (w.heap.size + 1) 0 #[.int .i64 0, .int .i64 x.p] rfl rfl HT.out (by kernel_rfl) (by kernel_rfl) ?_)
    refine bodyPost_ret (v := .agg #[.int .i64 0, .int .i64 x.p]) (results_row Tryd.results16 _ _ (w.heap.size + 1) [.int .i64 0, .int .i64 x.p] _ rfl VF.out Tryd.underlying39 rfl (by kernel_rfl)) rfl ⟨rfl, BR.out⟩

end Go.Proofs.YtngkahchhioncaaDoor
