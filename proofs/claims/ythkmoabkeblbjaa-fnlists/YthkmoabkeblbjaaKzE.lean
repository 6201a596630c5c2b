/- NameAt and OpenSeal of the program. -/
import Derived.Test.YthkmoabkeblbjaaMh
import Derived.Test.YthkmoabkeblbjaaKyI
import Derived.Test.YthkmoabkeblbjaaKyH
namespace Go.Proofs.Ythkmoabkeblbjaa
open Go.RowKit

theorem mkC_nil (xs : List T4) (zs : List Int) : mkC xs zs [] = aqC xs zs := by
  unfold mkC
  by_cases h : aqC xs zs = 0
  · rw [if_pos h, if_pos (by rfl), h]
  · rw [if_neg h]

set_option maxRecDepth 20000 in
set_option maxHeartbeats 4000000 in
theorem implNameAt_ok (a : Option Addr) (n ca : Nat) (xs : List T4) (at_ : Int) (w : World) (ha : RdTerm w a xs) (hn : xs.length = n) (hx : n ≤ 1048576) (hok : ∀ t ∈ xs, okT t) :
    Calls Try.prog 30 #[.slice a n ca, .int .i64 at_] w fun e w' => e = .returned (.agg #[.int .i64 (naR xs at_).1, .int .i64 (naR xs at_).2]) ∧ Below w.heap.size w w' := by
  have q1 := build_irc
  have q2 := build_irv
  have eC := mkC_nil xs [at_]
  by_cases hc : aqC xs [at_] = 0
  rotate_left
  · have CB := Hid.mk (fun b w h hz => makerOf_no a n ca xs b 1 1 [at_] none 0 0 [] w h hn hx hok hz rfl (by omega) (.inl rfl) rfl (by omega) (by rw [eC]; exact hc))
    rw [eC] at CB
    have e : naR xs at_ = (aqC xs [at_], 0) := by
      rcases naR_ways xs at_ with ⟨_, e⟩ | ⟨h1, _⟩ | ⟨h1, _⟩ <;> first | exact e | exact absurd h1 hc
    rw [e]
    have h0 : (aqC xs [at_] != 0) = true := by simp [hc]
    clear e eC hc hok
    generalize aqC xs [at_] = kk at *
    go_enter Try.func30, Try.ntmps30
    have B := Below.refl w.heap.size w
    replace ha := ha.kept (belowA w (.cells #[.int .i64 0, .int .i64 0] 51))
    replace B := thenB B (belowA w (.cells #[.int .i64 0, .int .i64 0] 51))
    have VR := V.new w [.int .i64 0, .int .i64 0] 51
    obtain ⟨s_VR, f_VR, z_VR⟩ := VR.open
    have Bo := B
    clear s_VR f_VR z_VR
    have RP0 := Rd.litI (w.alloc (.cells #[.int .i64 0, .int .i64 0] 51)) [at_]
    simp only [World.size_alloc] at RP0
    replace VR := VR.kept (belowA (w.alloc (.cells #[.int .i64 0, .int .i64 0] 51)) (.cells #[.int .i64 at_] 2))
    replace ha := ha.kept (belowA (w.alloc (.cells #[.int .i64 0, .int .i64 0] 51)) (.cells #[.int .i64 at_] 2))
    replace B := thenB B (belowA (w.alloc (.cells #[.int .i64 0, .int .i64 0] 51)) (.cells #[.int .i64 at_] 2))
    obtain ⟨s_VR, f_VR, z_VR⟩ := VR.open
    go_wp2_with fail
    refine (CB.out _ _ ha RP0).mono ?_
    rintro e w1 ⟨rfl, b1⟩
    clear s_VR f_VR z_VR
    have S1 := b1.size
    simp only [World.size_alloc] at S1
    replace VR := VR.kept b1
    replace ha := ha.kept b1
    replace B := thenB B b1
    clear b1 RP0
    obtain ⟨s_VR, f_VR, z_VR⟩ := VR.open
    have Bo := B
    clear s_VR f_VR z_VR
    have VF := Hid.mk (VR.filled [.int .i64 kk, .int .i64 0] rfl)
    have HT := Hid.mk VR.there
    have BR := belowCells B (show w.heap.size ≤ w.heap.size by (first | omega | (simp; done) | (simp; omega))) 0 [.int .i64 kk, .int .i64 0]
    replace BR := Hid.mk BR
    obtain ⟨s_VR, f_VR, z_VR⟩ := VR.open
    go_wp2_with (refine wpList_store_mid rfl 51 _ _ rfl (w.heap.size) 0 #[.int .i64 kk, .int .i64 0] rfl rfl HT.out (by kernel_rfl) (by kernel_rfl) ?_)
    refine bodyPost_ret (v := .agg #[.int .i64 kk, .int .i64 0]) (results_row Try.results30 _ _ (w.heap.size) [.int .i64 kk, .int .i64 0] _ rfl VF.out Try.underlying51 rfl (by kernel_rfl)) rfl ⟨rfl, BR.out⟩
  · have CB := Hid.mk (fun b w h hz => makerOf_yes a n ca xs b 1 1 [at_] none 0 0 [] w h hn hx hok hz rfl (by omega) (.inl rfl) rfl (by omega) (by rw [eC]; exact hc))
    obtain ⟨hp0, hp1⟩ := aq_places hc at_ (by simp)
    obtain ⟨u, rfl⟩ : ∃ u : Nat, at_ = (u : Int) := ⟨at_.toNat, by omega⟩
    obtain ⟨x, hxu⟩ : ∃ x, xs.getD u zTerm = x := ⟨_, rfl⟩
    have hu : u < n := by omega
    have hu1 : (u : Int) < (n : Int) := by omega
    have HX := Hid.mk hxu
    have ex : tmAt xs (u : Int) = x := by unfold tmAt; rw [Int.toNat_natCast]; exact hxu
    have HN := Hid.mk hn
    rcases naR_ways xs u with ⟨h1, _⟩ | ⟨h1, h2, e⟩ | ⟨h1, h2, e⟩
    · exact absurd hc h1
    · rw [e]
      have hne : (x.o != 1) = true := by rw [ex] at h2; simpa using h2
      clear h2
      obtain ⟨xo, xa, xb, xn⟩ := x
      simp only at *
      clear e ex eC hc hok hxu hp0 hp1 h1
      go_enter Try.func30, Try.ntmps30
      have B := Below.refl w.heap.size w
      replace ha := ha.kept (belowA w (.cells #[.int .i64 0, .int .i64 0] 51))
      replace B := thenB B (belowA w (.cells #[.int .i64 0, .int .i64 0] 51))
      have VR := V.new w [.int .i64 0, .int .i64 0] 51
      obtain ⟨s_VR, f_VR, z_VR⟩ := VR.open
      have Bo := B
      clear s_VR f_VR z_VR
      have RP0 := Rd.litI (w.alloc (.cells #[.int .i64 0, .int .i64 0] 51)) [(u : Int)]
      simp only [World.size_alloc] at RP0
      replace VR := VR.kept (belowA (w.alloc (.cells #[.int .i64 0, .int .i64 0] 51)) (.cells #[.int .i64 (u : Int)] 2))
      replace ha := ha.kept (belowA (w.alloc (.cells #[.int .i64 0, .int .i64 0] 51)) (.cells #[.int .i64 (u : Int)] 2))
      replace B := thenB B (belowA (w.alloc (.cells #[.int .i64 0, .int .i64 0] 51)) (.cells #[.int .i64 (u : Int)] 2))
      obtain ⟨s_VR, f_VR, z_VR⟩ := VR.open
      go_wp2_with fail
      refine (CB.out _ _ ha RP0).mono ?_
      rintro e w21 ⟨Q, p, g, c, d, rfl, VQ, H, hQ, hnQ, b21⟩
      clear s_VR f_VR z_VR
      have S21 := b21.size
      simp only [World.size_alloc] at S21
      replace VR := VR.kept b21
      replace ha := ha.kept b21
      replace B := thenB B b21
      clear b21 RP0
      have VP := H.v
      rw [HN.out] at VP
      rcases H.o.rd with h9 | ⟨b1, o1, rfl, hca⟩
      · have := HN.out; rw [h9] at this; simp at this; omega
      obtain ⟨p0, p1, p2, p3⟩ := RdTerm.cells hca u (by rw [HN.out]; exact hu) _ HX.out
      simp only at p0 p1 p2 p3
      clear hca H hQ hnQ ha
      obtain ⟨s_VR, f_VR, z_VR⟩ := VR.open
      obtain ⟨s_VQ, f_VQ, z_VQ⟩ := VQ.open
      obtain ⟨s_VP, f_VP, z_VP⟩ := VP.open
      have bA := belowA w21 (.cells #[.int .i64 0, .int .i64 0, .int .i64 0, .int .i64 0] 36)
      have VT := V.new w21 [.int .i64 0, .int .i64 0, .int .i64 0, .int .i64 0] 36
      have hT9 := Hid.mk VT.there
      have F_VT := VT.filled [.int .i64 xo, .int .i64 xa, .int .i64 xb, .int .i64 xn] rfl
      have F_VR := (VR.kept bA).apart (B := w21.heap.size) (by have := VR.1; omega) 0 [.int .i64 xo, .int .i64 xa, .int .i64 xb, .int .i64 xn]
      have F_VQ := (VQ.kept bA).apart (B := w21.heap.size) (by have := VQ.1; omega) 0 [.int .i64 xo, .int .i64 xa, .int .i64 xb, .int .i64 xn]
      have F_VP := (VP.kept bA).apart (B := w21.heap.size) (by have := VP.1; omega) 0 [.int .i64 xo, .int .i64 xa, .int .i64 xb, .int .i64 xn]
      have F_B := belowCells (thenB B bA) (show w.heap.size ≤ w21.heap.size by (first | omega | (simp; done) | (simp; omega))) 0 [.int .i64 xo, .int .i64 xa, .int .i64 xb, .int .i64 xn]
      obtain ⟨w9, hw9⟩ : ∃ q, (w21.alloc (.cells #[.int .i64 0, .int .i64 0, .int .i64 0, .int .i64 0] 36)).setCells w21.heap.size 0 [.int .i64 xo, .int .i64 xa, .int .i64 xb, .int .i64 xn] = q := ⟨_, rfl⟩
      rw [hw9] at F_VT F_VR F_VQ F_VP F_B
      replace hw9 := Hid.mk hw9
      replace F_VT := Hid.mk F_VT
      replace F_VR := Hid.mk F_VR
      replace F_VQ := Hid.mk F_VQ
      replace F_VP := Hid.mk F_VP
      replace F_B := Hid.mk F_B
      clear bA VT
      obtain ⟨s9_VT, f9_VT, z9_VT⟩ := F_VT.out.open
      obtain ⟨s9_VR, f9_VR, z9_VR⟩ := F_VR.out.open
      obtain ⟨s9_VQ, f9_VQ, z9_VQ⟩ := F_VQ.out.open
      obtain ⟨s9_VP, f9_VP, z9_VP⟩ := F_VP.out.open
      go_wp2_with (refine wpList_stroke w9 rfl 36 _ _ rfl (w21.heap.size) 0 #[.int .i64 xo, .int .i64 xa, .int .i64 xb, .int .i64 xn] rfl rfl hT9.out (by kernel_rfl) (by kernel_rfl) hw9.out ?_)
      clear s_VR f_VR z_VR s_VQ f_VQ z_VQ s_VP f_VP z_VP
      clear s9_VT f9_VT z9_VT s9_VR f9_VR z9_VR s9_VQ f9_VQ z9_VQ s9_VP f9_VP z9_VP
      replace VR := F_VR.out
      replace VQ := F_VQ.out
      replace VP := F_VP.out
      have VT := F_VT.out
      replace B := F_B.out
      clear hT9 hw9 F_VT F_VR F_VQ F_VP F_B
      obtain ⟨s_VR, f_VR, z_VR⟩ := VR.open
      obtain ⟨s_VQ, f_VQ, z_VQ⟩ := VQ.open
      obtain ⟨s_VP, f_VP, z_VP⟩ := VP.open
      obtain ⟨s_VT, f_VT, z_VT⟩ := VT.open
      have Bo := B
      clear s_VR f_VR z_VR s_VQ f_VQ z_VQ s_VP f_VP z_VP s_VT f_VT z_VT
      have VF := Hid.mk (VR.filled [.int .i64 1, .int .i64 0] rfl)
      have HT := Hid.mk VR.there
      have BR := belowCells B (show w.heap.size ≤ w.heap.size by (first | omega | (simp; done) | (simp; omega))) 0 [.int .i64 1, .int .i64 0]
      replace BR := Hid.mk BR
      obtain ⟨s_VR, f_VR, z_VR⟩ := VR.open
      obtain ⟨s_VQ, f_VQ, z_VQ⟩ := VQ.open
      obtain ⟨s_VP, f_VP, z_VP⟩ := VP.open
      obtain ⟨s_VT, f_VT, z_VT⟩ := VT.open
      go_wp2_with (refine wpList_store_mid rfl 51 _ _ rfl (w.heap.size) 0 #[.int .i64 1, .int .i64 0] rfl rfl HT.out (by kernel_rfl) (by kernel_rfl) ?_)
      refine bodyPost_ret (v := .agg #[.int .i64 1, .int .i64 0]) (results_row Try.results30 _ _ (w.heap.size) [.int .i64 1, .int .i64 0] _ rfl VF.out Try.underlying51 rfl (by kernel_rfl)) rfl ⟨rfl, BR.out⟩
    · rw [e]
      rw [ex] at h2 ⊢
      have hne : (x.o != 1) = false := by simpa using h2
      clear h2
      obtain ⟨xo, xa, xb, xn⟩ := x
      simp only at *
      clear e ex eC hc hok hxu hp0 hp1 h1
      go_enter Try.func30, Try.ntmps30
      have B := Below.refl w.heap.size w
      replace ha := ha.kept (belowA w (.cells #[.int .i64 0, .int .i64 0] 51))
      replace B := thenB B (belowA w (.cells #[.int .i64 0, .int .i64 0] 51))
      have VR := V.new w [.int .i64 0, .int .i64 0] 51
      obtain ⟨s_VR, f_VR, z_VR⟩ := VR.open
      have Bo := B
      clear s_VR f_VR z_VR
      have RP0 := Rd.litI (w.alloc (.cells #[.int .i64 0, .int .i64 0] 51)) [(u : Int)]
      simp only [World.size_alloc] at RP0
      replace VR := VR.kept (belowA (w.alloc (.cells #[.int .i64 0, .int .i64 0] 51)) (.cells #[.int .i64 (u : Int)] 2))
      replace ha := ha.kept (belowA (w.alloc (.cells #[.int .i64 0, .int .i64 0] 51)) (.cells #[.int .i64 (u : Int)] 2))
      replace B := thenB B (belowA (w.alloc (.cells #[.int .i64 0, .int .i64 0] 51)) (.cells #[.int .i64 (u : Int)] 2))
      obtain ⟨s_VR, f_VR, z_VR⟩ := VR.open
      go_wp2_with fail
      refine (CB.out _ _ ha RP0).mono ?_
      rintro e w41 ⟨Q, p, g, c, d, rfl, VQ, H, hQ, hnQ, b41⟩
      clear s_VR f_VR z_VR
      have S41 := b41.size
      simp only [World.size_alloc] at S41
      replace VR := VR.kept b41
      replace ha := ha.kept b41
      replace B := thenB B b41
      clear b41 RP0
      have VP := H.v
      rw [HN.out] at VP
      rcases H.o.rd with h9 | ⟨b1, o1, rfl, hca⟩
      · have := HN.out; rw [h9] at this; simp at this; omega
      obtain ⟨p0, p1, p2, p3⟩ := RdTerm.cells hca u (by rw [HN.out]; exact hu) _ HX.out
      simp only at p0 p1 p2 p3
      clear hca H hQ hnQ ha
      obtain ⟨s_VR, f_VR, z_VR⟩ := VR.open
      obtain ⟨s_VQ, f_VQ, z_VQ⟩ := VQ.open
      obtain ⟨s_VP, f_VP, z_VP⟩ := VP.open
      have bA := belowA w41 (.cells #[.int .i64 0, .int .i64 0, .int .i64 0, .int .i64 0] 36)
      have VT := V.new w41 [.int .i64 0, .int .i64 0, .int .i64 0, .int .i64 0] 36
      have hT9 := Hid.mk VT.there
      have F_VT := VT.filled [.int .i64 xo, .int .i64 xa, .int .i64 xb, .int .i64 xn] rfl
      have F_VR := (VR.kept bA).apart (B := w41.heap.size) (by have := VR.1; omega) 0 [.int .i64 xo, .int .i64 xa, .int .i64 xb, .int .i64 xn]
      have F_VQ := (VQ.kept bA).apart (B := w41.heap.size) (by have := VQ.1; omega) 0 [.int .i64 xo, .int .i64 xa, .int .i64 xb, .int .i64 xn]
      have F_VP := (VP.kept bA).apart (B := w41.heap.size) (by have := VP.1; omega) 0 [.int .i64 xo, .int .i64 xa, .int .i64 xb, .int .i64 xn]
      have F_B := belowCells (thenB B bA) (show w.heap.size ≤ w41.heap.size by (first | omega | (simp; done) | (simp; omega))) 0 [.int .i64 xo, .int .i64 xa, .int .i64 xb, .int .i64 xn]
      obtain ⟨w9, hw9⟩ : ∃ q, (w41.alloc (.cells #[.int .i64 0, .int .i64 0, .int .i64 0, .int .i64 0] 36)).setCells w41.heap.size 0 [.int .i64 xo, .int .i64 xa, .int .i64 xb, .int .i64 xn] = q := ⟨_, rfl⟩
      rw [hw9] at F_VT F_VR F_VQ F_VP F_B
      replace hw9 := Hid.mk hw9
      replace F_VT := Hid.mk F_VT
      replace F_VR := Hid.mk F_VR
      replace F_VQ := Hid.mk F_VQ
      replace F_VP := Hid.mk F_VP
      replace F_B := Hid.mk F_B
      clear bA VT
      obtain ⟨s9_VT, f9_VT, z9_VT⟩ := F_VT.out.open
      obtain ⟨s9_VR, f9_VR, z9_VR⟩ := F_VR.out.open
      obtain ⟨s9_VQ, f9_VQ, z9_VQ⟩ := F_VQ.out.open
      obtain ⟨s9_VP, f9_VP, z9_VP⟩ := F_VP.out.open
      go_wp2_with (refine wpList_stroke w9 rfl 36 _ _ rfl (w41.heap.size) 0 #[.int .i64 xo, .int .i64 xa, .int .i64 xb, .int .i64 xn] rfl rfl hT9.out (by kernel_rfl) (by kernel_rfl) hw9.out ?_)
      clear s_VR f_VR z_VR s_VQ f_VQ z_VQ s_VP f_VP z_VP
      clear s9_VT f9_VT z9_VT s9_VR f9_VR z9_VR s9_VQ f9_VQ z9_VQ s9_VP f9_VP z9_VP
      replace VR := F_VR.out
      replace VQ := F_VQ.out
      replace VP := F_VP.out
      have VT := F_VT.out
      replace B := F_B.out
      clear hT9 hw9 F_VT F_VR F_VQ F_VP F_B
      obtain ⟨s_VR, f_VR, z_VR⟩ := VR.open
      obtain ⟨s_VQ, f_VQ, z_VQ⟩ := VQ.open
      obtain ⟨s_VP, f_VP, z_VP⟩ := VP.open
      obtain ⟨s_VT, f_VT, z_VT⟩ := VT.open
      have Bo := B
      clear s_VR f_VR z_VR s_VQ f_VQ z_VQ s_VP f_VP z_VP s_VT f_VT z_VT
      have VF := Hid.mk (VR.filled [.int .i64 0, .int .i64 xn] rfl)
      have HT := Hid.mk VR.there
      have BR := belowCells B (show w.heap.size ≤ w.heap.size by (first | omega | (simp; done) | (simp; omega))) 0 [.int .i64 0, .int .i64 xn]
      replace BR := Hid.mk BR
      obtain ⟨s_VR, f_VR, z_VR⟩ := VR.open
      obtain ⟨s_VQ, f_VQ, z_VQ⟩ := VQ.open
      obtain ⟨s_VP, f_VP, z_VP⟩ := VP.open
      obtain ⟨s_VT, f_VT, z_VT⟩ := VT.open
      go_wp2_with (refine wpList_store_mid rfl 51 _ _ rfl (w.heap.size) 0 #[.int .i64 0, .int .i64 xn] rfl rfl HT.out (by kernel_rfl) (by kernel_rfl) ?_)
      refine bodyPost_ret (v := .agg #[.int .i64 0, .int .i64 xn]) (results_row Try.results30 _ _ (w.heap.size) [.int .i64 0, .int .i64 xn] _ rfl VF.out Try.underlying51 rfl (by kernel_rfl)) rfl ⟨rfl, BR.out⟩

set_option maxRecDepth 20000 in
set_option maxHeartbeats 4000000 in
theorem implOpenSeal_ok (a : Option Addr) (n ca : Nat) (xs : List T4) (at_ key : Int) (w : World) (ha : RdTerm w a xs) (hn : xs.length = n) (hx : n ≤ 1048576) (hok : ∀ t ∈ xs, okT t) :
    Calls Try.prog 49 #[.slice a n ca, .int .i64 at_, .int .i64 key] w fun e w' => e = .returned (.agg #[.int .i64 (osR xs at_ key).1, .int .i64 (osR xs at_ key).2]) ∧ Below w.heap.size w w' := by
  have q1 := build_irc
  have q2 := build_irv
  have eC := mkC_nil xs [at_, key]
  by_cases hc : aqC xs [at_, key] = 0
  rotate_left
  · have CB := Hid.mk (fun b w h hz => makerOf_no a n ca xs b 2 2 [at_, key] none 0 0 [] w h hn hx hok hz rfl (by omega) (.inl rfl) rfl (by omega) (by rw [eC]; exact hc))
    rw [eC] at CB
    have e : osR xs at_ key = (aqC xs [at_, key], 0) := by
      rcases osR_ways xs at_ key with ⟨_, e⟩ | ⟨h1, _⟩ | ⟨h1, _⟩ | ⟨h1, _⟩ <;> first | exact e | exact absurd h1 hc
    rw [e]
    have h0 : (aqC xs [at_, key] != 0) = true := by simp [hc]
    clear e eC hc hok
    generalize aqC xs [at_, key] = kk at *
    go_enter Try.func49, Try.ntmps49
    have B := Below.refl w.heap.size w
    replace ha := ha.kept (belowA w (.cells #[.int .i64 0, .int .i64 0] 51))
    replace B := thenB B (belowA w (.cells #[.int .i64 0, .int .i64 0] 51))
    have VR := V.new w [.int .i64 0, .int .i64 0] 51
    obtain ⟨s_VR, f_VR, z_VR⟩ := VR.open
    have Bo := B
    clear s_VR f_VR z_VR
    have RP0 := Rd.litI (w.alloc (.cells #[.int .i64 0, .int .i64 0] 51)) [at_, key]
    simp only [World.size_alloc] at RP0
    replace VR := VR.kept (belowA (w.alloc (.cells #[.int .i64 0, .int .i64 0] 51)) (.cells #[.int .i64 at_, .int .i64 key] 2))
    replace ha := ha.kept (belowA (w.alloc (.cells #[.int .i64 0, .int .i64 0] 51)) (.cells #[.int .i64 at_, .int .i64 key] 2))
    replace B := thenB B (belowA (w.alloc (.cells #[.int .i64 0, .int .i64 0] 51)) (.cells #[.int .i64 at_, .int .i64 key] 2))
    obtain ⟨s_VR, f_VR, z_VR⟩ := VR.open
    go_wp2_with fail
    refine (CB.out _ _ ha RP0).mono ?_
    rintro e w1 ⟨rfl, b1⟩
    clear s_VR f_VR z_VR
    have S1 := b1.size
    simp only [World.size_alloc] at S1
    replace VR := VR.kept b1
    replace ha := ha.kept b1
    replace B := thenB B b1
    clear b1 RP0
    obtain ⟨s_VR, f_VR, z_VR⟩ := VR.open
    have Bo := B
    clear s_VR f_VR z_VR
    have VF := Hid.mk (VR.filled [.int .i64 kk, .int .i64 0] rfl)
    have HT := Hid.mk VR.there
    have BR := belowCells B (show w.heap.size ≤ w.heap.size by (first | omega | (simp; done) | (simp; omega))) 0 [.int .i64 kk, .int .i64 0]
    replace BR := Hid.mk BR
    obtain ⟨s_VR, f_VR, z_VR⟩ := VR.open
    go_wp2_with (refine wpList_store_mid rfl 51 _ _ rfl (w.heap.size) 0 #[.int .i64 kk, .int .i64 0] rfl rfl HT.out (by kernel_rfl) (by kernel_rfl) ?_)
    refine bodyPost_ret (v := .agg #[.int .i64 kk, .int .i64 0]) (results_row Try.results49 _ _ (w.heap.size) [.int .i64 kk, .int .i64 0] _ rfl VF.out Try.underlying51 rfl (by kernel_rfl)) rfl ⟨rfl, BR.out⟩
  · have CB := Hid.mk (fun b w h hz => makerOf_yes a n ca xs b 2 2 [at_, key] none 0 0 [] w h hn hx hok hz rfl (by omega) (.inl rfl) rfl (by omega) (by rw [eC]; exact hc))
    obtain ⟨hp0, hp1⟩ := aq_places hc at_ (by simp)
    obtain ⟨u, rfl⟩ : ∃ u : Nat, at_ = (u : Int) := ⟨at_.toNat, by omega⟩
    obtain ⟨x, hxu⟩ : ∃ x, xs.getD u zTerm = x := ⟨_, rfl⟩
    have hu : u < n := by omega
    have hu1 : (u : Int) < (n : Int) := by omega
    have HX := Hid.mk hxu
    have ex : tmAt xs (u : Int) = x := by unfold tmAt; rw [Int.toNat_natCast]; exact hxu
    have HN := Hid.mk hn
    rcases osR_ways xs u key with ⟨h1, _⟩ | ⟨h1, h2, e⟩ | ⟨h1, h2, h3, e⟩ | ⟨h1, h2, h3, e⟩
    · exact absurd hc h1
    · rw [e]
      have hne : (x.o != 5) = true := by rw [ex] at h2; simpa using h2
      clear h2
      obtain ⟨xo, xa, xb, xn⟩ := x
      simp only at *
      clear e ex eC hc hok hxu hp0 hp1 h1
      go_enter Try.func49, Try.ntmps49
      have B := Below.refl w.heap.size w
      replace ha := ha.kept (belowA w (.cells #[.int .i64 0, .int .i64 0] 51))
      replace B := thenB B (belowA w (.cells #[.int .i64 0, .int .i64 0] 51))
      have VR := V.new w [.int .i64 0, .int .i64 0] 51
      obtain ⟨s_VR, f_VR, z_VR⟩ := VR.open
      have Bo := B
      clear s_VR f_VR z_VR
      have RP0 := Rd.litI (w.alloc (.cells #[.int .i64 0, .int .i64 0] 51)) [(u : Int), key]
      simp only [World.size_alloc] at RP0
      replace VR := VR.kept (belowA (w.alloc (.cells #[.int .i64 0, .int .i64 0] 51)) (.cells #[.int .i64 (u : Int), .int .i64 key] 2))
      replace ha := ha.kept (belowA (w.alloc (.cells #[.int .i64 0, .int .i64 0] 51)) (.cells #[.int .i64 (u : Int), .int .i64 key] 2))
      replace B := thenB B (belowA (w.alloc (.cells #[.int .i64 0, .int .i64 0] 51)) (.cells #[.int .i64 (u : Int), .int .i64 key] 2))
      obtain ⟨s_VR, f_VR, z_VR⟩ := VR.open
      go_wp2_with fail
      refine (CB.out _ _ ha RP0).mono ?_
      rintro e w21 ⟨Q, p, g, c, d, rfl, VQ, H, hQ, hnQ, b21⟩
      clear s_VR f_VR z_VR
      have S21 := b21.size
      simp only [World.size_alloc] at S21
      replace VR := VR.kept b21
      replace ha := ha.kept b21
      replace B := thenB B b21
      clear b21 RP0
      have VP := H.v
      rw [HN.out] at VP
      rcases H.o.rd with h9 | ⟨b1, o1, rfl, hca⟩
      · have := HN.out; rw [h9] at this; simp at this; omega
      obtain ⟨p0, p1, p2, p3⟩ := RdTerm.cells hca u (by rw [HN.out]; exact hu) _ HX.out
      simp only at p0 p1 p2 p3
      clear hca H hQ hnQ ha
      obtain ⟨s_VR, f_VR, z_VR⟩ := VR.open
      obtain ⟨s_VQ, f_VQ, z_VQ⟩ := VQ.open
      obtain ⟨s_VP, f_VP, z_VP⟩ := VP.open
      have bA := belowA w21 (.cells #[.int .i64 0, .int .i64 0, .int .i64 0, .int .i64 0] 36)
      have VT := V.new w21 [.int .i64 0, .int .i64 0, .int .i64 0, .int .i64 0] 36
      have hT9 := Hid.mk VT.there
      have F_VT := VT.filled [.int .i64 xo, .int .i64 xa, .int .i64 xb, .int .i64 xn] rfl
      have F_VR := (VR.kept bA).apart (B := w21.heap.size) (by have := VR.1; omega) 0 [.int .i64 xo, .int .i64 xa, .int .i64 xb, .int .i64 xn]
      have F_VQ := (VQ.kept bA).apart (B := w21.heap.size) (by have := VQ.1; omega) 0 [.int .i64 xo, .int .i64 xa, .int .i64 xb, .int .i64 xn]
      have F_VP := (VP.kept bA).apart (B := w21.heap.size) (by have := VP.1; omega) 0 [.int .i64 xo, .int .i64 xa, .int .i64 xb, .int .i64 xn]
      have F_B := belowCells (thenB B bA) (show w.heap.size ≤ w21.heap.size by (first | omega | (simp; done) | (simp; omega))) 0 [.int .i64 xo, .int .i64 xa, .int .i64 xb, .int .i64 xn]
      obtain ⟨w9, hw9⟩ : ∃ q, (w21.alloc (.cells #[.int .i64 0, .int .i64 0, .int .i64 0, .int .i64 0] 36)).setCells w21.heap.size 0 [.int .i64 xo, .int .i64 xa, .int .i64 xb, .int .i64 xn] = q := ⟨_, rfl⟩
      rw [hw9] at F_VT F_VR F_VQ F_VP F_B
      replace hw9 := Hid.mk hw9
      replace F_VT := Hid.mk F_VT
      replace F_VR := Hid.mk F_VR
      replace F_VQ := Hid.mk F_VQ
      replace F_VP := Hid.mk F_VP
      replace F_B := Hid.mk F_B
      clear bA VT
      obtain ⟨s9_VT, f9_VT, z9_VT⟩ := F_VT.out.open
      obtain ⟨s9_VR, f9_VR, z9_VR⟩ := F_VR.out.open
      obtain ⟨s9_VQ, f9_VQ, z9_VQ⟩ := F_VQ.out.open
      obtain ⟨s9_VP, f9_VP, z9_VP⟩ := F_VP.out.open
      go_wp2_with (refine wpList_stroke w9 rfl 36 _ _ rfl (w21.heap.size) 0 #[.int .i64 xo, .int .i64 xa, .int .i64 xb, .int .i64 xn] rfl rfl hT9.out (by kernel_rfl) (by kernel_rfl) hw9.out ?_)
      clear s_VR f_VR z_VR s_VQ f_VQ z_VQ s_VP f_VP z_VP
      clear s9_VT f9_VT z9_VT s9_VR f9_VR z9_VR s9_VQ f9_VQ z9_VQ s9_VP f9_VP z9_VP
      replace VR := F_VR.out
      replace VQ := F_VQ.out
      replace VP := F_VP.out
      have VT := F_VT.out
      replace B := F_B.out
      clear hT9 hw9 F_VT F_VR F_VQ F_VP F_B
      obtain ⟨s_VR, f_VR, z_VR⟩ := VR.open
      obtain ⟨s_VQ, f_VQ, z_VQ⟩ := VQ.open
      obtain ⟨s_VP, f_VP, z_VP⟩ := VP.open
      obtain ⟨s_VT, f_VT, z_VT⟩ := VT.open
      have Bo := B
      clear s_VR f_VR z_VR s_VQ f_VQ z_VQ s_VP f_VP z_VP s_VT f_VT z_VT
      have VF := Hid.mk (VR.filled [.int .i64 1, .int .i64 0] rfl)
      have HT := Hid.mk VR.there
      have BR := belowCells B (show w.heap.size ≤ w.heap.size by (first | omega | (simp; done) | (simp; omega))) 0 [.int .i64 1, .int .i64 0]
      replace BR := Hid.mk BR
      obtain ⟨s_VR, f_VR, z_VR⟩ := VR.open
      obtain ⟨s_VQ, f_VQ, z_VQ⟩ := VQ.open
      obtain ⟨s_VP, f_VP, z_VP⟩ := VP.open
      obtain ⟨s_VT, f_VT, z_VT⟩ := VT.open
      go_wp2_with (refine wpList_store_mid rfl 51 _ _ rfl (w.heap.size) 0 #[.int .i64 1, .int .i64 0] rfl rfl HT.out (by kernel_rfl) (by kernel_rfl) ?_)
      refine bodyPost_ret (v := .agg #[.int .i64 1, .int .i64 0]) (results_row Try.results49 _ _ (w.heap.size) [.int .i64 1, .int .i64 0] _ rfl VF.out Try.underlying51 rfl (by kernel_rfl)) rfl ⟨rfl, BR.out⟩
    · rw [e]
      rw [ex] at h2 h3
      have hne : (x.o != 5) = false := by simpa using h2
      have hne2 : (x.a != key) = true := by simpa using h3
      clear h2 h3
      obtain ⟨xo, xa, xb, xn⟩ := x
      simp only at *
      clear e ex eC hc hok hxu hp0 hp1 h1
      go_enter Try.func49, Try.ntmps49
      have B := Below.refl w.heap.size w
      replace ha := ha.kept (belowA w (.cells #[.int .i64 0, .int .i64 0] 51))
      replace B := thenB B (belowA w (.cells #[.int .i64 0, .int .i64 0] 51))
      have VR := V.new w [.int .i64 0, .int .i64 0] 51
      obtain ⟨s_VR, f_VR, z_VR⟩ := VR.open
      have Bo := B
      clear s_VR f_VR z_VR
      have RP0 := Rd.litI (w.alloc (.cells #[.int .i64 0, .int .i64 0] 51)) [(u : Int), key]
      simp only [World.size_alloc] at RP0
      replace VR := VR.kept (belowA (w.alloc (.cells #[.int .i64 0, .int .i64 0] 51)) (.cells #[.int .i64 (u : Int), .int .i64 key] 2))
      replace ha := ha.kept (belowA (w.alloc (.cells #[.int .i64 0, .int .i64 0] 51)) (.cells #[.int .i64 (u : Int), .int .i64 key] 2))
      replace B := thenB B (belowA (w.alloc (.cells #[.int .i64 0, .int .i64 0] 51)) (.cells #[.int .i64 (u : Int), .int .i64 key] 2))
      obtain ⟨s_VR, f_VR, z_VR⟩ := VR.open
      go_wp2_with fail
      refine (CB.out _ _ ha RP0).mono ?_
      rintro e w41 ⟨Q, p, g, c, d, rfl, VQ, H, hQ, hnQ, b41⟩
      clear s_VR f_VR z_VR
      have S41 := b41.size
      simp only [World.size_alloc] at S41
      replace VR := VR.kept b41
      replace ha := ha.kept b41
      replace B := thenB B b41
      clear b41 RP0
      have VP := H.v
      rw [HN.out] at VP
      rcases H.o.rd with h9 | ⟨b1, o1, rfl, hca⟩
      · have := HN.out; rw [h9] at this; simp at this; omega
      obtain ⟨p0, p1, p2, p3⟩ := RdTerm.cells hca u (by rw [HN.out]; exact hu) _ HX.out
      simp only at p0 p1 p2 p3
      clear hca H hQ hnQ ha
      obtain ⟨s_VR, f_VR, z_VR⟩ := VR.open
      obtain ⟨s_VQ, f_VQ, z_VQ⟩ := VQ.open
      obtain ⟨s_VP, f_VP, z_VP⟩ := VP.open
      have bA := belowA w41 (.cells #[.int .i64 0, .int .i64 0, .int .i64 0, .int .i64 0] 36)
      have VT := V.new w41 [.int .i64 0, .int .i64 0, .int .i64 0, .int .i64 0] 36
      have hT9 := Hid.mk VT.there
      have F_VT := VT.filled [.int .i64 xo, .int .i64 xa, .int .i64 xb, .int .i64 xn] rfl
      have F_VR := (VR.kept bA).apart (B := w41.heap.size) (by have := VR.1; omega) 0 [.int .i64 xo, .int .i64 xa, .int .i64 xb, .int .i64 xn]
      have F_VQ := (VQ.kept bA).apart (B := w41.heap.size) (by have := VQ.1; omega) 0 [.int .i64 xo, .int .i64 xa, .int .i64 xb, .int .i64 xn]
      have F_VP := (VP.kept bA).apart (B := w41.heap.size) (by have := VP.1; omega) 0 [.int .i64 xo, .int .i64 xa, .int .i64 xb, .int .i64 xn]
      have F_B := belowCells (thenB B bA) (show w.heap.size ≤ w41.heap.size by (first | omega | (simp; done) | (simp; omega))) 0 [.int .i64 xo, .int .i64 xa, .int .i64 xb, .int .i64 xn]
      obtain ⟨w9, hw9⟩ : ∃ q, (w41.alloc (.cells #[.int .i64 0, .int .i64 0, .int .i64 0, .int .i64 0] 36)).setCells w41.heap.size 0 [.int .i64 xo, .int .i64 xa, .int .i64 xb, .int .i64 xn] = q := ⟨_, rfl⟩
      rw [hw9] at F_VT F_VR F_VQ F_VP F_B
      replace hw9 := Hid.mk hw9
      replace F_VT := Hid.mk F_VT
      replace F_VR := Hid.mk F_VR
      replace F_VQ := Hid.mk F_VQ
      replace F_VP := Hid.mk F_VP
      replace F_B := Hid.mk F_B
      clear bA VT
      obtain ⟨s9_VT, f9_VT, z9_VT⟩ := F_VT.out.open
      obtain ⟨s9_VR, f9_VR, z9_VR⟩ := F_VR.out.open
      obtain ⟨s9_VQ, f9_VQ, z9_VQ⟩ := F_VQ.out.open
      obtain ⟨s9_VP, f9_VP, z9_VP⟩ := F_VP.out.open
      go_wp2_with (refine wpList_stroke w9 rfl 36 _ _ rfl (w41.heap.size) 0 #[.int .i64 xo, .int .i64 xa, .int .i64 xb, .int .i64 xn] rfl rfl hT9.out (by kernel_rfl) (by kernel_rfl) hw9.out ?_)
      clear s_VR f_VR z_VR s_VQ f_VQ z_VQ s_VP f_VP z_VP
      clear s9_VT f9_VT z9_VT s9_VR f9_VR z9_VR s9_VQ f9_VQ z9_VQ s9_VP f9_VP z9_VP
      replace VR := F_VR.out
      replace VQ := F_VQ.out
      replace VP := F_VP.out
      have VT := F_VT.out
      replace B := F_B.out
      clear hT9 hw9 F_VT F_VR F_VQ F_VP F_B
      obtain ⟨s_VR, f_VR, z_VR⟩ := VR.open
      obtain ⟨s_VQ, f_VQ, z_VQ⟩ := VQ.open
      obtain ⟨s_VP, f_VP, z_VP⟩ := VP.open
      obtain ⟨s_VT, f_VT, z_VT⟩ := VT.open
      have Bo := B
      clear s_VR f_VR z_VR s_VQ f_VQ z_VQ s_VP f_VP z_VP s_VT f_VT z_VT
      have VF := Hid.mk (VR.filled [.int .i64 9, .int .i64 0] rfl)
      have HT := Hid.mk VR.there
      have BR := belowCells B (show w.heap.size ≤ w.heap.size by (first | omega | (simp; done) | (simp; omega))) 0 [.int .i64 9, .int .i64 0]
      replace BR := Hid.mk BR
      obtain ⟨s_VR, f_VR, z_VR⟩ := VR.open
      obtain ⟨s_VQ, f_VQ, z_VQ⟩ := VQ.open
      obtain ⟨s_VP, f_VP, z_VP⟩ := VP.open
      obtain ⟨s_VT, f_VT, z_VT⟩ := VT.open
      go_wp2_with (refine wpList_store_mid rfl 51 _ _ rfl (w.heap.size) 0 #[.int .i64 9, .int .i64 0] rfl rfl HT.out (by kernel_rfl) (by kernel_rfl) ?_)
      refine bodyPost_ret (v := .agg #[.int .i64 9, .int .i64 0]) (results_row Try.results49 _ _ (w.heap.size) [.int .i64 9, .int .i64 0] _ rfl VF.out Try.underlying51 rfl (by kernel_rfl)) rfl ⟨rfl, BR.out⟩
    · rw [e]
      rw [ex] at h2 h3 ⊢
      have hne : (x.o != 5) = false := by simpa using h2
      have hne2 : (x.a != key) = false := by simpa using h3
      clear h2 h3
      obtain ⟨xo, xa, xb, xn⟩ := x
      simp only at *
      clear e ex eC hc hok hxu hp0 hp1 h1
      go_enter Try.func49, Try.ntmps49
      have B := Below.refl w.heap.size w
      replace ha := ha.kept (belowA w (.cells #[.int .i64 0, .int .i64 0] 51))
      replace B := thenB B (belowA w (.cells #[.int .i64 0, .int .i64 0] 51))
      have VR := V.new w [.int .i64 0, .int .i64 0] 51
      obtain ⟨s_VR, f_VR, z_VR⟩ := VR.open
      have Bo := B
      clear s_VR f_VR z_VR
      have RP0 := Rd.litI (w.alloc (.cells #[.int .i64 0, .int .i64 0] 51)) [(u : Int), key]
      simp only [World.size_alloc] at RP0
      replace VR := VR.kept (belowA (w.alloc (.cells #[.int .i64 0, .int .i64 0] 51)) (.cells #[.int .i64 (u : Int), .int .i64 key] 2))
      replace ha := ha.kept (belowA (w.alloc (.cells #[.int .i64 0, .int .i64 0] 51)) (.cells #[.int .i64 (u : Int), .int .i64 key] 2))
      replace B := thenB B (belowA (w.alloc (.cells #[.int .i64 0, .int .i64 0] 51)) (.cells #[.int .i64 (u : Int), .int .i64 key] 2))
      obtain ⟨s_VR, f_VR, z_VR⟩ := VR.open
      go_wp2_with fail
      refine (CB.out _ _ ha RP0).mono ?_
      rintro e w61 ⟨Q, p, g, c, d, rfl, VQ, H, hQ, hnQ, b61⟩
      clear s_VR f_VR z_VR
      have S61 := b61.size
      simp only [World.size_alloc] at S61
      replace VR := VR.kept b61
      replace ha := ha.kept b61
      replace B := thenB B b61
      clear b61 RP0
      have VP := H.v
      rw [HN.out] at VP
      rcases H.o.rd with h9 | ⟨b1, o1, rfl, hca⟩
      · have := HN.out; rw [h9] at this; simp at this; omega
      obtain ⟨p0, p1, p2, p3⟩ := RdTerm.cells hca u (by rw [HN.out]; exact hu) _ HX.out
      simp only at p0 p1 p2 p3
      clear hca H hQ hnQ ha
      obtain ⟨s_VR, f_VR, z_VR⟩ := VR.open
      obtain ⟨s_VQ, f_VQ, z_VQ⟩ := VQ.open
      obtain ⟨s_VP, f_VP, z_VP⟩ := VP.open
      have bA := belowA w61 (.cells #[.int .i64 0, .int .i64 0, .int .i64 0, .int .i64 0] 36)
      have VT := V.new w61 [.int .i64 0, .int .i64 0, .int .i64 0, .int .i64 0] 36
      have hT9 := Hid.mk VT.there
      have F_VT := VT.filled [.int .i64 xo, .int .i64 xa, .int .i64 xb, .int .i64 xn] rfl
      have F_VR := (VR.kept bA).apart (B := w61.heap.size) (by have := VR.1; omega) 0 [.int .i64 xo, .int .i64 xa, .int .i64 xb, .int .i64 xn]
      have F_VQ := (VQ.kept bA).apart (B := w61.heap.size) (by have := VQ.1; omega) 0 [.int .i64 xo, .int .i64 xa, .int .i64 xb, .int .i64 xn]
      have F_VP := (VP.kept bA).apart (B := w61.heap.size) (by have := VP.1; omega) 0 [.int .i64 xo, .int .i64 xa, .int .i64 xb, .int .i64 xn]
      have F_B := belowCells (thenB B bA) (show w.heap.size ≤ w61.heap.size by (first | omega | (simp; done) | (simp; omega))) 0 [.int .i64 xo, .int .i64 xa, .int .i64 xb, .int .i64 xn]
      obtain ⟨w9, hw9⟩ : ∃ q, (w61.alloc (.cells #[.int .i64 0, .int .i64 0, .int .i64 0, .int .i64 0] 36)).setCells w61.heap.size 0 [.int .i64 xo, .int .i64 xa, .int .i64 xb, .int .i64 xn] = q := ⟨_, rfl⟩
      rw [hw9] at F_VT F_VR F_VQ F_VP F_B
      replace hw9 := Hid.mk hw9
      replace F_VT := Hid.mk F_VT
      replace F_VR := Hid.mk F_VR
      replace F_VQ := Hid.mk F_VQ
      replace F_VP := Hid.mk F_VP
      replace F_B := Hid.mk F_B
      clear bA VT
      obtain ⟨s9_VT, f9_VT, z9_VT⟩ := F_VT.out.open
      obtain ⟨s9_VR, f9_VR, z9_VR⟩ := F_VR.out.open
      obtain ⟨s9_VQ, f9_VQ, z9_VQ⟩ := F_VQ.out.open
      obtain ⟨s9_VP, f9_VP, z9_VP⟩ := F_VP.out.open
      go_wp2_with (refine wpList_stroke w9 rfl 36 _ _ rfl (w61.heap.size) 0 #[.int .i64 xo, .int .i64 xa, .int .i64 xb, .int .i64 xn] rfl rfl hT9.out (by kernel_rfl) (by kernel_rfl) hw9.out ?_)
      clear s_VR f_VR z_VR s_VQ f_VQ z_VQ s_VP f_VP z_VP
      clear s9_VT f9_VT z9_VT s9_VR f9_VR z9_VR s9_VQ f9_VQ z9_VQ s9_VP f9_VP z9_VP
      replace VR := F_VR.out
      replace VQ := F_VQ.out
      replace VP := F_VP.out
      have VT := F_VT.out
      replace B := F_B.out
      clear hT9 hw9 F_VT F_VR F_VQ F_VP F_B
      obtain ⟨s_VR, f_VR, z_VR⟩ := VR.open
      obtain ⟨s_VQ, f_VQ, z_VQ⟩ := VQ.open
      obtain ⟨s_VP, f_VP, z_VP⟩ := VP.open
      obtain ⟨s_VT, f_VT, z_VT⟩ := VT.open
      have Bo := B
      clear s_VR f_VR z_VR s_VQ f_VQ z_VQ s_VP f_VP z_VP s_VT f_VT z_VT
      have VF := Hid.mk (VR.filled [.int .i64 0, .int .i64 xb] rfl)
      have HT := Hid.mk VR.there
      have BR := belowCells B (show w.heap.size ≤ w.heap.size by (first | omega | (simp; done) | (simp; omega))) 0 [.int .i64 0, .int .i64 xb]
      replace BR := Hid.mk BR
      obtain ⟨s_VR, f_VR, z_VR⟩ := VR.open
      obtain ⟨s_VQ, f_VQ, z_VQ⟩ := VQ.open
      obtain ⟨s_VP, f_VP, z_VP⟩ := VP.open
      obtain ⟨s_VT, f_VT, z_VT⟩ := VT.open
      go_wp2_with (refine wpList_store_mid rfl 51 _ _ rfl (w.heap.size) 0 #[.int .i64 0, .int .i64 xb] rfl rfl HT.out (by kernel_rfl) (by kernel_rfl) ?_)
      refine bodyPost_ret (v := .agg #[.int .i64 0, .int .i64 xb]) (results_row Try.results49 _ _ (w.heap.size) [.int .i64 0, .int .i64 xb] _ rfl VF.out Try.underlying51 rfl (by kernel_rfl)) rfl ⟨rfl, BR.out⟩

end Go.Proofs.Ythkmoabkeblbjaa
