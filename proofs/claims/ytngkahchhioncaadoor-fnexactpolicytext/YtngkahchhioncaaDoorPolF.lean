/- The fault of a policy: the model. -/
import Derived.Test.YtngkahchhioncaaDoorPolA
import Derived.Test.YtngkahchhioncaaDoorSelG
namespace Go.Proofs.YtngkahchhioncaaDoor
open Go.RowKit

set_option maxRecDepth 20000 in
set_option maxHeartbeats 4000000 in
theorem specPolicyFault_ok (a : Option Addr) (n ca : Nat) (xs : List R11) (w : World) (ha : RdRule w a xs) (hn : xs.length = n) (hx : n ≤ maxLen) :
    Calls Tryd.prog 28 #[.slice a n ca] w fun e w' => e = .returned (.int .i64 (pyC xs)) ∧ Below w.heap.size w w' := by
  unfold maxLen at hx
  by_cases h2 : 20 < n
  · have hr : pyC xs = 2 := by unfold pyC; rw [if_neg (by omega)]
    have d2 : decide ((20 : Int) < n) = true := by simp; omega
    rw [hr]
    clear hr h2
    go_enter Tryd.func28, Tryd.ntmps28
    go_wp2
    go_ret
    exact ⟨rfl, Below.refl _ _⟩
  have hr : pyC xs = pyF xs := by unfold pyC; rw [if_pos (by omega)]
  have d2 : decide ((20 : Int) < n) = false := by simp; omega
  rw [hr]
  clear hr h2
  go_enter Tryd.func28, Tryd.ntmps28
  go_wp2
  clear d2
  go_loopw [3] (fun i wr => ∃ k : Nat, k ≤ n ∧ i = .int .i64 k ∧ pyF (xs.drop k) = pyF xs ∧ Below w.heap.size w wr) (fun i _ => n - (intOf i).toNat)
  case atStart => exact ⟨0, Nat.zero_le _, rfl, rfl, Below.refl _ _⟩
  case round =>
    obtain ⟨k, hk, rfl, hdr, hbel⟩ := hrel
    by_cases hlt : k < n
    · obtain ⟨x, hx1⟩ : ∃ x, xs.getD k zRule = x := ⟨_, rfl⟩
      have hk1 : (k : Int) < (n : Int) := by omega
      have hs := pyF_drop xs k (by omega)
      rw [hx1, hdr] at hs
      have CX := Hid.mk (fun w => specSelFault_ok x.s w)
      replace ha := ha.kept hbel
      rcases ha with ha | ⟨b1, o1, rfl, hca⟩
      · simp [ha] at hn; omega
      have HQ := RdRule.cells hca k (by omega) x hx1
      clear hca hx1 hdr
      obtain ⟨p0, p1, p2, p3, p4, p5, p6, p7, p8, p9, p10⟩ := HQ
      have B := hbel
      rcases ru_ways x with ⟨h1, hr, h2⟩ | ⟨h1, h2, hr⟩ | ⟨h1, h2, h3, h4, hr⟩ | ⟨h1, h2, h3, h4, hr⟩ | ⟨h1, h2, h3, h4, hr⟩ | ⟨h1, h2, h3, h4, hr⟩
      · skip
        rw [if_neg (by rw [hr]; omega)] at hs
        rw [hr] at hs
        have HS := Hid.mk hs
        clear hs hr hbel
        replace B := thenB B (belowA wr (.cells #[.int .i64 x.s.a, .int .i64 x.s.b, .int .i64 x.s.c, .int .i64 x.s.d, .int .i64 x.s.e, .int .i64 x.s.f, .int .i64 x.s.g, .int .i64 x.s.h, .int .i64 x.s.r, .int .i64 x.p, .int .i64 x.q] 34))
        have VR := V.new wr [.int .i64 x.s.a, .int .i64 x.s.b, .int .i64 x.s.c, .int .i64 x.s.d, .int .i64 x.s.e, .int .i64 x.s.f, .int .i64 x.s.g, .int .i64 x.s.h, .int .i64 x.s.r, .int .i64 x.p, .int .i64 x.q] 34
        obtain ⟨s_VR, f_VR, z_VR⟩ := VR.open
        have Bo := B
        go_wp2_with fail
        refine (CX.out _).mono ?_
        rintro e w1 ⟨rfl, b1⟩
        clear s_VR f_VR z_VR
        have S1 := b1.size
        simp only [World.size_alloc] at S1
        replace VR := VR.kept b1
        replace B := thenB B b1
        clear b1
        obtain ⟨s_VR, f_VR, z_VR⟩ := VR.open
        have Bo := B
        have BX := Hid.mk Bo
        clear p0 p1 p2 p3 p4 p5 p6 p7 p8 p9 p10 Bo
        go_wp2
        go_ret
        exact ⟨ret_int HS.out.symm, BX.out⟩
      · skip
        rw [if_neg (by rw [hr]; omega)] at hs
        rw [hr] at hs
        have HS := Hid.mk hs
        clear hs hr hbel
        rw [h1] at CX
        replace B := thenB B (belowA wr (.cells #[.int .i64 x.s.a, .int .i64 x.s.b, .int .i64 x.s.c, .int .i64 x.s.d, .int .i64 x.s.e, .int .i64 x.s.f, .int .i64 x.s.g, .int .i64 x.s.h, .int .i64 x.s.r, .int .i64 x.p, .int .i64 x.q] 34))
        have VR := V.new wr [.int .i64 x.s.a, .int .i64 x.s.b, .int .i64 x.s.c, .int .i64 x.s.d, .int .i64 x.s.e, .int .i64 x.s.f, .int .i64 x.s.g, .int .i64 x.s.h, .int .i64 x.s.r, .int .i64 x.p, .int .i64 x.q] 34
        obtain ⟨s_VR, f_VR, z_VR⟩ := VR.open
        have Bo := B
        go_wp2_with fail
        refine (CX.out _).mono ?_
        rintro e w11 ⟨rfl, b11⟩
        clear s_VR f_VR z_VR
        have S11 := b11.size
        simp only [World.size_alloc] at S11
        replace VR := VR.kept b11
        replace B := thenB B b11
        clear b11
        obtain ⟨s_VR, f_VR, z_VR⟩ := VR.open
        have Bo := B
        have BX := Hid.mk Bo
        clear p0 p1 p2 p3 p4 p5 p6 p7 p8 p9 p10 Bo
        go_wp2_with (first | (go_at_call 73; refine (l1In_ok _ _ _ _).mono ?_; rintro e wq ⟨rfl, rfl⟩) | fail)
        go_ret
        exact ⟨ret_int HS.out.symm, BX.out⟩
      · skip
        rw [if_neg (by rw [hr]; omega)] at hs
        rw [hr] at hs
        have HS := Hid.mk hs
        clear hs hr hbel
        have h5 : (x.p != 3) = false := by simp at h3 ⊢; exact h3
        rw [h1] at CX
        replace B := thenB B (belowA wr (.cells #[.int .i64 x.s.a, .int .i64 x.s.b, .int .i64 x.s.c, .int .i64 x.s.d, .int .i64 x.s.e, .int .i64 x.s.f, .int .i64 x.s.g, .int .i64 x.s.h, .int .i64 x.s.r, .int .i64 x.p, .int .i64 x.q] 34))
        have VR := V.new wr [.int .i64 x.s.a, .int .i64 x.s.b, .int .i64 x.s.c, .int .i64 x.s.d, .int .i64 x.s.e, .int .i64 x.s.f, .int .i64 x.s.g, .int .i64 x.s.h, .int .i64 x.s.r, .int .i64 x.p, .int .i64 x.q] 34
        obtain ⟨s_VR, f_VR, z_VR⟩ := VR.open
        have Bo := B
        go_wp2_with fail
        refine (CX.out _).mono ?_
        rintro e w21 ⟨rfl, b21⟩
        clear s_VR f_VR z_VR
        have S21 := b21.size
        simp only [World.size_alloc] at S21
        replace VR := VR.kept b21
        replace B := thenB B b21
        clear b21
        obtain ⟨s_VR, f_VR, z_VR⟩ := VR.open
        have Bo := B
        have BX := Hid.mk Bo
        clear p0 p1 p2 p3 p4 p5 p6 p7 p8 p9 p10 Bo
        go_wp2_with (first | (go_at_call 73; refine (l1In_ok _ _ _ _).mono ?_; rintro e wq ⟨rfl, rfl⟩) | fail)
        go_ret
        exact ⟨ret_int HS.out.symm, BX.out⟩
      · skip
        rw [if_pos hr] at hs
        have HS := Hid.mk hs
        clear hs hr hbel
        have h5 : (x.p != 3) = false := by simp at h3 ⊢; exact h3
        rw [h1] at CX
        replace B := thenB B (belowA wr (.cells #[.int .i64 x.s.a, .int .i64 x.s.b, .int .i64 x.s.c, .int .i64 x.s.d, .int .i64 x.s.e, .int .i64 x.s.f, .int .i64 x.s.g, .int .i64 x.s.h, .int .i64 x.s.r, .int .i64 x.p, .int .i64 x.q] 34))
        have VR := V.new wr [.int .i64 x.s.a, .int .i64 x.s.b, .int .i64 x.s.c, .int .i64 x.s.d, .int .i64 x.s.e, .int .i64 x.s.f, .int .i64 x.s.g, .int .i64 x.s.h, .int .i64 x.s.r, .int .i64 x.p, .int .i64 x.q] 34
        obtain ⟨s_VR, f_VR, z_VR⟩ := VR.open
        have Bo := B
        go_wp2_with fail
        refine (CX.out _).mono ?_
        rintro e w31 ⟨rfl, b31⟩
        clear s_VR f_VR z_VR
        have S31 := b31.size
        simp only [World.size_alloc] at S31
        replace VR := VR.kept b31
        replace B := thenB B b31
        clear b31
        obtain ⟨s_VR, f_VR, z_VR⟩ := VR.open
        have Bo := B
        have BX := Hid.mk Bo
        clear p0 p1 p2 p3 p4 p5 p6 p7 p8 p9 p10 Bo
        go_wp2_with (first | (go_at_call 73; refine (l1In_ok _ _ _ _).mono ?_; rintro e wq ⟨rfl, rfl⟩) | fail)
        go_roundw
        case rel => exact ⟨k + 1, by omega, by go_num, HS.out.symm, BX.out⟩
        case measure => simp [intOf]; omega
      · skip
        rw [if_neg (by rw [hr]; omega)] at hs
        rw [hr] at hs
        have HS := Hid.mk hs
        clear hs hr hbel
        have h5 : (x.p != 3) = true := by simp at h3 ⊢; exact h3
        rw [h1] at CX
        replace B := thenB B (belowA wr (.cells #[.int .i64 x.s.a, .int .i64 x.s.b, .int .i64 x.s.c, .int .i64 x.s.d, .int .i64 x.s.e, .int .i64 x.s.f, .int .i64 x.s.g, .int .i64 x.s.h, .int .i64 x.s.r, .int .i64 x.p, .int .i64 x.q] 34))
        have VR := V.new wr [.int .i64 x.s.a, .int .i64 x.s.b, .int .i64 x.s.c, .int .i64 x.s.d, .int .i64 x.s.e, .int .i64 x.s.f, .int .i64 x.s.g, .int .i64 x.s.h, .int .i64 x.s.r, .int .i64 x.p, .int .i64 x.q] 34
        obtain ⟨s_VR, f_VR, z_VR⟩ := VR.open
        have Bo := B
        go_wp2_with fail
        refine (CX.out _).mono ?_
        rintro e w41 ⟨rfl, b41⟩
        clear s_VR f_VR z_VR
        have S41 := b41.size
        simp only [World.size_alloc] at S41
        replace VR := VR.kept b41
        replace B := thenB B b41
        clear b41
        obtain ⟨s_VR, f_VR, z_VR⟩ := VR.open
        have Bo := B
        have BX := Hid.mk Bo
        clear p0 p1 p2 p3 p4 p5 p6 p7 p8 p9 p10 Bo
        go_wp2_with (first | (go_at_call 73; refine (l1In_ok _ _ _ _).mono ?_; rintro e wq ⟨rfl, rfl⟩) | fail)
        go_ret
        exact ⟨ret_int HS.out.symm, BX.out⟩
      · skip
        rw [if_pos hr] at hs
        have HS := Hid.mk hs
        clear hs hr hbel
        have h5 : (x.p != 3) = true := by simp at h3 ⊢; exact h3
        rw [h1] at CX
        replace B := thenB B (belowA wr (.cells #[.int .i64 x.s.a, .int .i64 x.s.b, .int .i64 x.s.c, .int .i64 x.s.d, .int .i64 x.s.e, .int .i64 x.s.f, .int .i64 x.s.g, .int .i64 x.s.h, .int .i64 x.s.r, .int .i64 x.p, .int .i64 x.q] 34))
        have VR := V.new wr [.int .i64 x.s.a, .int .i64 x.s.b, .int .i64 x.s.c, .int .i64 x.s.d, .int .i64 x.s.e, .int .i64 x.s.f, .int .i64 x.s.g, .int .i64 x.s.h, .int .i64 x.s.r, .int .i64 x.p, .int .i64 x.q] 34
        obtain ⟨s_VR, f_VR, z_VR⟩ := VR.open
        have Bo := B
        go_wp2_with fail
        refine (CX.out _).mono ?_
        rintro e w51 ⟨rfl, b51⟩
        clear s_VR f_VR z_VR
        have S51 := b51.size
        simp only [World.size_alloc] at S51
        replace VR := VR.kept b51
        replace B := thenB B b51
        clear b51
        obtain ⟨s_VR, f_VR, z_VR⟩ := VR.open
        have Bo := B
        have BX := Hid.mk Bo
        clear p0 p1 p2 p3 p4 p5 p6 p7 p8 p9 p10 Bo
        go_wp2_with (first | (go_at_call 73; refine (l1In_ok _ _ _ _).mono ?_; rintro e wq ⟨rfl, rfl⟩) | fail)
        go_roundw
        case rel => exact ⟨k + 1, by omega, by go_num, HS.out.symm, BX.out⟩
        case measure => simp [intOf]; omega
    · have hkn : k = n := by omega
      subst hkn
      rw [List.drop_of_length_le (by omega)] at hdr
      have HS := Hid.mk hdr
      clear hdr
      go_wp2
      go_ret
      exact ⟨ret_int HS.out, hbel⟩

end Go.Proofs.YtngkahchhioncaaDoor
