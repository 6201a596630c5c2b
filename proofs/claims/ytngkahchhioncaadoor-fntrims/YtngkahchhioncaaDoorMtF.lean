/- What two selectors have in common: the model; the law's walk. -/
import Derived.Test.YtngkahchhioncaaDoorMtE
import Derived.Test.YtngkahchhioncaaDoorMtD
namespace Go.Proofs.YtngkahchhioncaaDoor
open Go.RowKit

theorem build_res3 (k : Int) (x : S9) (w : World) : (Instr.build 108 #[(0, .int .i64 k), (1, .agg #[.int .i64 x.a, .int .i64 x.b, .int .i64 x.c, .int .i64 x.d, .int .i64 x.e, .int .i64 x.f, .int .i64 x.g, .int .i64 x.h, .int .i64 x.r])]).run Tryd.prog w = .ok (.agg #[.int .i64 k, .int .i64 x.a, .int .i64 x.b, .int .i64 x.c, .int .i64 x.d, .int .i64 x.e, .int .i64 x.f, .int .i64 x.g, .int .i64 x.h, .int .i64 x.r]) w := run_build w 108 _ _ (by kernel_rfl)

theorem extract0 (u v : Value) (w : World) : (Instr.extract (.tuple #[u, v]) 0).run Tryd.prog w = .ok u w := by kernel_rfl

/-- What the model asks is what the program asks, where neither has a fault. -/
theorem meet_hV (x y : S9) (hx : sfC x = 0) (hy : sfC y = 0) (r : Int) (k : Int) (Z : S9) (m0 m1 m2 m3 m4 m5 m6 m7 : Int) (e0 : max x.a y.a = m0) (e1 : min x.b y.b = m1) (e2 : max x.c y.c = m2) (e3 : min x.d y.d = m3) (e4 : max x.e y.e = m4) (e5 : min x.f y.f = m5) (e6 : max x.g y.g = m6) (e7 : min x.h y.h = m7) (e8 : max x.r y.r = r)
    (hk : k = cmC (tkP x.r y.r || tkP y.r x.r) (cmS x y)) (hZ : Z = if cmC (tkP x.r y.r || tkP y.r x.r) (cmS x y) = 0 then wcS (cmS x y) else zeroS) :
    (upS m0 m1 m2 m3 m4 m5 m6 m7 = false → k = 4 ∧ Z = zeroS) ∧ (upS m0 m1 m2 m3 m4 m5 m6 m7 = true → (((x.r != y.r) = true ∧ (min x.r y.r != 0) = true ∧ k = 4 ∧ Z = zeroS) ∨ (((x.r != y.r) = false ∨ ((x.r != y.r) = true ∧ (min x.r y.r != 0) = false)) ∧ bareP r = false ∧ k = 0 ∧ Z = ⟨m0, m1, m2, m3, m4, m5, m6, m7, r⟩) ∨ (((x.r != y.r) = false ∨ ((x.r != y.r) = true ∧ (min x.r y.r != 0) = false)) ∧ bareP r = true ∧ (decide (0 < m4) = true ∨ (decide (0 < m4) = false ∧ decide (0 < m6) = true)) ∧ k = 4 ∧ Z = zeroS) ∨ (((x.r != y.r) = false ∨ ((x.r != y.r) = true ∧ (min x.r y.r != 0) = false)) ∧ bareP r = true ∧ decide (0 < m4) = false ∧ decide (0 < m6) = false ∧ k = 0 ∧ Z = ⟨m0, m1, m2, m3, 0, 65535, 0, 65535, r⟩))) := by
  have fx := fitS_iff.1 (sfC_zero hx).1
  have fy := fitS_iff.1 (sfC_zero hy).1
  have hc := cmS_is x y
  rw [e0, e1, e2, e3, e4, e5, e6, e7] at hc
  rw [hc] at hk hZ
  clear hc
  have hw := cmC_ways (tkP x.r y.r || tkP y.r x.r) ⟨m0, m1, m2, m3, m4, m5, m6, m7, nwP x.r y.r⟩
  have ht : (tkP x.r y.r || tkP y.r x.r) = true ↔ (x.r = 0 ∨ y.r = 0 ∨ x.r = y.r) := by
    rw [Bool.or_eq_true, tkP_iff, tkP_iff]; omega
  dsimp only at hw
  have hok : (x.r = 0 ∨ y.r = 0 ∨ x.r = y.r) → ((x.r != y.r) = false ∨ ((x.r != y.r) = true ∧ (min x.r y.r != 0) = false)) ∧ nwP x.r y.r = r := by
    intro h
    refine ⟨?_, ?_⟩
    · by_cases h1 : x.r = y.r
      · exact .inl (by simp [h1])
      · refine .inr ⟨by simp [h1], ?_⟩
        have : min x.r y.r = 0 := by omega
        simp [this]
    · unfold nwP; split <;> omega
  have hno : ¬ (x.r = 0 ∨ y.r = 0 ∨ x.r = y.r) → (x.r != y.r) = true ∧ (min x.r y.r != 0) = true := by
    intro h
    refine ⟨by simp; omega, ?_⟩
    have : min x.r y.r ≠ 0 := by omega
    simp [this]
  have hm4 : 0 ≤ m4 := by omega
  have hm6 : 0 ≤ m6 := by omega
  rcases hw with ⟨g1, g2⟩ | ⟨g1, g2, g3⟩ | ⟨g1, g2, g3, g4⟩ | ⟨g1, g2, g3, g4, g5⟩ | ⟨g1, g2, g3, g4, g5⟩
  · rw [g2] at hk hZ
    refine ⟨fun _ => ⟨hk, by rw [hZ, if_neg (by decide)]⟩, fun h => ?_⟩
    rw [g1] at h; cases h
  · rw [g3] at hk hZ
    refine ⟨fun _ => ⟨hk, by rw [hZ, if_neg (by decide)]⟩, fun _ => ?_⟩
    have h := hno (fun h => by rw [ht.2 h] at g2; cases g2)
    exact .inl ⟨h.1, h.2, hk, by rw [hZ, if_neg (by decide)]⟩
  · rw [g4] at hk hZ
    refine ⟨fun h => by rw [g1] at h; (try cases h), fun _ => ?_⟩
    obtain ⟨h1, h2⟩ := hok (ht.1 g2)
    rw [h2] at g3 hZ
    exact .inr (.inl ⟨h1, g3, hk, by rw [hZ, if_pos rfl, wcS_else g3]⟩)
  · rw [g5] at hk hZ
    refine ⟨fun h => by rw [g1] at h; (try cases h), fun _ => ?_⟩
    obtain ⟨h1, h2⟩ := hok (ht.1 g2)
    rw [h2] at g3 hZ
    refine .inr (.inr (.inl ⟨h1, g3, ?_, hk, by rw [hZ, if_neg (by decide)]⟩))
    simp only [Bool.and_eq_false_iff, beq_eq_false_iff_ne] at g4
    by_cases h4 : 0 < m4
    · exact .inl (by simp [h4])
    · exact .inr ⟨by simp; omega, by simp; omega⟩
  · rw [g5] at hk hZ
    refine ⟨fun h => by rw [g1] at h; (try cases h), fun _ => ?_⟩
    obtain ⟨h1, h2⟩ := hok (ht.1 g2)
    rw [h2] at g3 hZ
    simp only [Bool.and_eq_true, beq_iff_eq] at g4
    exact .inr (.inr (.inr ⟨h1, g3, by simp; omega, by simp; omega, hk, by rw [hZ, if_pos rfl, wcS_bare g3]⟩))

set_option maxHeartbeats 4000000 in
theorem sMeet3 (x y : S9) (w : World) (hx : sfC x = 0) (hy : sfC y = 0) (k : Int) (Z : S9) (hk : k = cmC (tkP x.r y.r || tkP y.r x.r) (cmS x y)) (hZ : Z = if cmC (tkP x.r y.r || tkP y.r x.r) (cmS x y) = 0 then wcS (cmS x y) else zeroS) :
    Calls Tryd.prog 74 #[.agg #[.int .i64 x.a, .int .i64 x.b, .int .i64 x.c, .int .i64 x.d, .int .i64 x.e, .int .i64 x.f, .int .i64 x.g, .int .i64 x.h, .int .i64 x.r], .agg #[.int .i64 y.a, .int .i64 y.b, .int .i64 y.c, .int .i64 y.d, .int .i64 y.e, .int .i64 y.f, .int .i64 y.g, .int .i64 y.h, .int .i64 y.r]] w fun e w' => e = .returned (.agg #[.int .i64 k, .int .i64 Z.a, .int .i64 Z.b, .int .i64 Z.c, .int .i64 Z.d, .int .i64 Z.e, .int .i64 Z.f, .int .i64 Z.g, .int .i64 Z.h, .int .i64 Z.r]) ∧ Below w.heap.size w w' := by
  have hV := meet_hV x y hx hy _ k Z _ _ _ _ _ _ _ _ rfl rfl rfl rfl rfl rfl rfl rfl rfl hk hZ
  have CC := Hid.mk (fun w => l3Common_ok x y _ _ _ _ _ _ _ _ _ rfl rfl rfl rfl rfl rfl rfl rfl rfl k Z hV.1 hV.2 w)
  clear hV hk hZ
  have q3 := build_res3 k Z
  have CX := Hid.mk (fun w => specSelFault_ok x w)
  have CY := Hid.mk (fun w => specSelFault_ok y w)
  rw [hx] at CX
  rw [hy] at CY
  clear hx hy
  go_enter Tryd.func74, Tryd.ntmps74
  have B := Below.refl w.heap.size w
  replace B := thenB B (belowA w (.cells #[.int .i64 x.a, .int .i64 x.b, .int .i64 x.c, .int .i64 x.d, .int .i64 x.e, .int .i64 x.f, .int .i64 x.g, .int .i64 x.h, .int .i64 x.r] 32))
  have VX := V.new w [.int .i64 x.a, .int .i64 x.b, .int .i64 x.c, .int .i64 x.d, .int .i64 x.e, .int .i64 x.f, .int .i64 x.g, .int .i64 x.h, .int .i64 x.r] 32
  replace VX := VX.kept (belowA (w.alloc (.cells #[.int .i64 x.a, .int .i64 x.b, .int .i64 x.c, .int .i64 x.d, .int .i64 x.e, .int .i64 x.f, .int .i64 x.g, .int .i64 x.h, .int .i64 x.r] 32)) (.cells #[.int .i64 y.a, .int .i64 y.b, .int .i64 y.c, .int .i64 y.d, .int .i64 y.e, .int .i64 y.f, .int .i64 y.g, .int .i64 y.h, .int .i64 y.r] 32))
  replace B := thenB B (belowA (w.alloc (.cells #[.int .i64 x.a, .int .i64 x.b, .int .i64 x.c, .int .i64 x.d, .int .i64 x.e, .int .i64 x.f, .int .i64 x.g, .int .i64 x.h, .int .i64 x.r] 32)) (.cells #[.int .i64 y.a, .int .i64 y.b, .int .i64 y.c, .int .i64 y.d, .int .i64 y.e, .int .i64 y.f, .int .i64 y.g, .int .i64 y.h, .int .i64 y.r] 32))
  have VY : V ((w.alloc (.cells #[.int .i64 x.a, .int .i64 x.b, .int .i64 x.c, .int .i64 x.d, .int .i64 x.e, .int .i64 x.f, .int .i64 x.g, .int .i64 x.h, .int .i64 x.r] 32)).alloc (.cells #[.int .i64 y.a, .int .i64 y.b, .int .i64 y.c, .int .i64 y.d, .int .i64 y.e, .int .i64 y.f, .int .i64 y.g, .int .i64 y.h, .int .i64 y.r] 32)) (w.heap.size + 1) [.int .i64 y.a, .int .i64 y.b, .int .i64 y.c, .int .i64 y.d, .int .i64 y.e, .int .i64 y.f, .int .i64 y.g, .int .i64 y.h, .int .i64 y.r] := V.newAt _ _ _ _ (by simp)
  replace VX := VX.kept (belowA ((w.alloc (.cells #[.int .i64 x.a, .int .i64 x.b, .int .i64 x.c, .int .i64 x.d, .int .i64 x.e, .int .i64 x.f, .int .i64 x.g, .int .i64 x.h, .int .i64 x.r] 32)).alloc (.cells #[.int .i64 y.a, .int .i64 y.b, .int .i64 y.c, .int .i64 y.d, .int .i64 y.e, .int .i64 y.f, .int .i64 y.g, .int .i64 y.h, .int .i64 y.r] 32)) (.cells #[.int .i64 0, .int .i64 0, .int .i64 0, .int .i64 0, .int .i64 0, .int .i64 0, .int .i64 0, .int .i64 0, .int .i64 0, .int .i64 0] 108))
  replace VY := VY.kept (belowA ((w.alloc (.cells #[.int .i64 x.a, .int .i64 x.b, .int .i64 x.c, .int .i64 x.d, .int .i64 x.e, .int .i64 x.f, .int .i64 x.g, .int .i64 x.h, .int .i64 x.r] 32)).alloc (.cells #[.int .i64 y.a, .int .i64 y.b, .int .i64 y.c, .int .i64 y.d, .int .i64 y.e, .int .i64 y.f, .int .i64 y.g, .int .i64 y.h, .int .i64 y.r] 32)) (.cells #[.int .i64 0, .int .i64 0, .int .i64 0, .int .i64 0, .int .i64 0, .int .i64 0, .int .i64 0, .int .i64 0, .int .i64 0, .int .i64 0] 108))
  replace B := thenB B (belowA ((w.alloc (.cells #[.int .i64 x.a, .int .i64 x.b, .int .i64 x.c, .int .i64 x.d, .int .i64 x.e, .int .i64 x.f, .int .i64 x.g, .int .i64 x.h, .int .i64 x.r] 32)).alloc (.cells #[.int .i64 y.a, .int .i64 y.b, .int .i64 y.c, .int .i64 y.d, .int .i64 y.e, .int .i64 y.f, .int .i64 y.g, .int .i64 y.h, .int .i64 y.r] 32)) (.cells #[.int .i64 0, .int .i64 0, .int .i64 0, .int .i64 0, .int .i64 0, .int .i64 0, .int .i64 0, .int .i64 0, .int .i64 0, .int .i64 0] 108))
  have VR : V (((w.alloc (.cells #[.int .i64 x.a, .int .i64 x.b, .int .i64 x.c, .int .i64 x.d, .int .i64 x.e, .int .i64 x.f, .int .i64 x.g, .int .i64 x.h, .int .i64 x.r] 32)).alloc (.cells #[.int .i64 y.a, .int .i64 y.b, .int .i64 y.c, .int .i64 y.d, .int .i64 y.e, .int .i64 y.f, .int .i64 y.g, .int .i64 y.h, .int .i64 y.r] 32)).alloc (.cells #[.int .i64 0, .int .i64 0, .int .i64 0, .int .i64 0, .int .i64 0, .int .i64 0, .int .i64 0, .int .i64 0, .int .i64 0, .int .i64 0] 108)) (w.heap.size + 1 + 1) [.int .i64 0, .int .i64 0, .int .i64 0, .int .i64 0, .int .i64 0, .int .i64 0, .int .i64 0, .int .i64 0, .int .i64 0, .int .i64 0] := V.newAt _ _ _ _ (by simp)
  obtain ⟨s_VX, f_VX, z_VX⟩ := VX.open
  obtain ⟨s_VY, f_VY, z_VY⟩ := VY.open
  obtain ⟨s_VR, f_VR, z_VR⟩ := VR.open
  go_wp2_with fail
  refine (CX.out _).mono ?_
  rintro e w1 ⟨rfl, b1⟩
  clear s_VX f_VX z_VX s_VY f_VY z_VY s_VR f_VR z_VR
  have S1 := b1.size
  simp only [World.size_alloc] at S1
  replace VX := VX.kept b1
  replace VY := VY.kept b1
  replace VR := VR.kept b1
  replace B := thenB B b1
  clear b1
  obtain ⟨s_VX, f_VX, z_VX⟩ := VX.open
  obtain ⟨s_VY, f_VY, z_VY⟩ := VY.open
  obtain ⟨s_VR, f_VR, z_VR⟩ := VR.open
  have Bo := B
  go_wp2_with fail
  refine (CY.out _).mono ?_
  rintro e w2 ⟨rfl, b2⟩
  clear s_VX f_VX z_VX s_VY f_VY z_VY s_VR f_VR z_VR
  have S2 := b2.size
  replace VX := VX.kept b2
  replace VY := VY.kept b2
  replace VR := VR.kept b2
  replace B := thenB B b2
  clear b2
  obtain ⟨s_VX, f_VX, z_VX⟩ := VX.open
  obtain ⟨s_VY, f_VY, z_VY⟩ := VY.open
  obtain ⟨s_VR, f_VR, z_VR⟩ := VR.open
  have Bo := B
  go_wp2_with fail
  refine (CC.out _).mono ?_
  rintro e w3 ⟨rfl, b3⟩
  clear s_VX f_VX z_VX s_VY f_VY z_VY s_VR f_VR z_VR
  have S3 := b3.size
  replace VX := VX.kept b3
  replace VY := VY.kept b3
  replace VR := VR.kept b3
  replace B := thenB B b3
  clear b3
  obtain ⟨s_VX, f_VX, z_VX⟩ := VX.open
  obtain ⟨s_VY, f_VY, z_VY⟩ := VY.open
  obtain ⟨s_VR, f_VR, z_VR⟩ := VR.open
  have Bo := B
  go_wp2
  refine bodyPost_ret (v := .agg #[.int .i64 k, .int .i64 Z.a, .int .i64 Z.b, .int .i64 Z.c, .int .i64 Z.d, .int .i64 Z.e, .int .i64 Z.f, .int .i64 Z.g, .int .i64 Z.h, .int .i64 Z.r]) (by first | (simp [results, Tryd.results74, go_sem]; done) | simp [results, Tryd.results74, go_sem, f_VR, s_VR]) rfl ⟨by first | rfl | rw [zeroS_is], ?_⟩
  repeat' first | with_reducible exact Bo | with_reducible exact Below.refl _ _ | with_reducible refine Below.setCell ?_ ?_ _ | with_reducible refine Below.alloc ?_ ?_ _ | with_reducible refine Below.drew ?_ | (simp; done) | (simp; omega)

theorem specMeetSels_ok (x y : S9) (w : World) :
    Calls Tryd.prog 74 #[.agg #[.int .i64 x.a, .int .i64 x.b, .int .i64 x.c, .int .i64 x.d, .int .i64 x.e, .int .i64 x.f, .int .i64 x.g, .int .i64 x.h, .int .i64 x.r], .agg #[.int .i64 y.a, .int .i64 y.b, .int .i64 y.c, .int .i64 y.d, .int .i64 y.e, .int .i64 y.f, .int .i64 y.g, .int .i64 y.h, .int .i64 y.r]] w fun e w' => e = .returned (.agg #[.int .i64 (mtC x y), .int .i64 (mtS x y).a, .int .i64 (mtS x y).b, .int .i64 (mtS x y).c, .int .i64 (mtS x y).d, .int .i64 (mtS x y).e, .int .i64 (mtS x y).f, .int .i64 (mtS x y).g, .int .i64 (mtS x y).h, .int .i64 (mtS x y).r]) ∧ Below w.heap.size w w' := by
  by_cases hx : sfC x = 0
  · by_cases hy : sfC y = 0
    · rcases mt_ways x y with ⟨h1, hr⟩ | ⟨h1, h2, hr⟩ | ⟨h1, h2, hr⟩
      · simp [hx] at h1
      · simp [hy] at h2
      · exact sMeet3 x y w hx hy (mtC x y) (mtS x y) hr.out.1 hr.out.2
    · exact specMeetBad_ok x y w (.inr hy)
  · exact specMeetBad_ok x y w (.inl hx)

end Go.Proofs.YtngkahchhioncaaDoor
