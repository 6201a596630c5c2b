/- What two selectors have in common: the model; the law's walk. -/
import Derived.Test.YtmbkbbephmblmabMtE
import Derived.Test.YtmbkbbephmblmabMtD
namespace Go.Proofs.Ytmbkbbephmblmab
open Go.RowKit

theorem build_res3 (k : Int) (x : S9) (w : World) : (Instr.build 56 #[(0, .int .i64 k), (1, .agg #[.int .i64 x.a, .int .i64 x.b, .int .i64 x.c, .int .i64 x.d, .int .i64 x.e, .int .i64 x.f, .int .i64 x.g, .int .i64 x.h, .int .i64 x.r])]).run Try.prog w = .ok (.agg #[.int .i64 k, .int .i64 x.a, .int .i64 x.b, .int .i64 x.c, .int .i64 x.d, .int .i64 x.e, .int .i64 x.f, .int .i64 x.g, .int .i64 x.h, .int .i64 x.r]) w := run_build w 56 _ _ (by kernel_rfl)

theorem extract0 (u v : Value) (w : World) : (Instr.extract (.tuple #[u, v]) 0).run Try.prog w = .ok u w := by kernel_rfl

/-- What the model asks is what the program asks, where neither has a fault. -/
theorem meet_hV (x y : S9) (hx : sfC x = 0) (hy : sfC y = 0) (r : Int) (k : Int) (Z : S9) (m0 m1 m2 m3 m4 m5 m6 m7 : Int) (e0 : max x.a y.a = m0) (e1 : min x.b y.b = m1) (e2 : max x.c y.c = m2) (e3 : min x.d y.d = m3) (e4 : max x.e y.e = m4) (e5 : min x.f y.f = m5) (e6 : max x.g y.g = m6) (e7 : min x.h y.h = m7) (e8 : max x.r y.r = r)
    (hk : k = cmC (tkP x.r y.r || tkP y.r x.r) (cmS x y)) (hZ : Z = if cmC (tkP x.r y.r || tkP y.r x.r) (cmS x y) = 0 then wcS (cmS x y) else zeroS) :
    (upS m0 m1 m2 m3 m4 m5 m6 m7 = false → k = 4 ∧ Z = zeroS) ∧ (upS m0 m1 m2 m3 m4 m5 m6 m7 = true → (((x.r != y.r) = true ∧ (min x.r y.r != 0) = true ∧ k = 4 ∧ Z = zeroS) ∨ (((x.r != y.r) = false ∨ ((x.r != y.r) = true ∧ (min x.r y.r != 0) = false)) ∧ bareP r = false ∧ k = 0 ∧ Z = ⟨m0, m1, m2, m3, m4, m5, m6, m7, r⟩) ∨ (((x.r != y.r) = false ∨ ((x.r != y.r) = true ∧ (min x.r y.r != 0) = false)) ∧ bareP r = true ∧ (decide (0 < m4) = true ∨ (decide (0 < m4) = false ∧ decide (0 < m6) = true)) ∧ k = 4 ∧ Z = zeroS) ∨ (((x.r != y.r) = false ∨ ((x.r != y.r) = true ∧ (min x.r y.r != 0) = false)) ∧ bareP r = true ∧ decide (0 < m4) = false ∧ decide (0 < m6) = false ∧ k = 0 ∧ Z = ⟨m0, m1, m2, m3, 0, 65535, 0, 65535, r⟩))) := by
  have fx := fitS_iff.1 (sfC_zero hx).1
  have fy := fitS_iff.1 (sfC_zero hy).1
  have hc := cmS_is x y
  rw [e0, e1, e2, e3, e4, e5, e6, e7] at hc
  rw [hc] at hk hZ
  clear hc
  have hw := cmC_ways (tkP x.r y.r || tkP y.r x.r) ⟨m0, m1, m2, m3, m4, m5, m6, m7, nwP x.r y.r⟩
  have ht : (tkP x.r y.r || tkP y.r x.r) = true ↔ (x.r = 0 ∨ y.r = 0 ∨ x.r = y.r) := by
    rw [Bool.or_eq_true, tkP_iff, tkP_iff]; omega
  dsimp only at hw
  have hok : (x.r = 0 ∨ y.r = 0 ∨ x.r = y.r) → ((x.r != y.r) = false ∨ ((x.r != y.r) = true ∧ (min x.r y.r != 0) = false)) ∧ nwP x.r y.r = r := by
    intro h
    refine ⟨?_, ?_⟩
    · by_cases h1 : x.r = y.r
      · exact .inl (by simp [h1])
      · refine .inr ⟨by simp [h1], ?_⟩
        have : min x.r y.r = 0 := by omega
        simp [this]
    · unfold nwP; split <;> omega
  have hno : ¬ (x.r = 0 ∨ y.r = 0 ∨ x.r = y.r) → (x.r != y.r) = true ∧ (min x.r y.r != 0) = true := by
    intro h
    refine ⟨by simp; omega, ?_⟩
    have : min x.r y.r ≠ 0 := by omega
    simp [this]
  have hm4 : 0 ≤ m4 := by omega
  have hm6 : 0 ≤ m6 := by omega
  rcases hw with ⟨g1, g2⟩ | ⟨g1, g2, g3⟩ | ⟨g1, g2, g3, g4⟩ | ⟨g1, g2, g3, g4, g5⟩ | ⟨g1, g2, g3, g4, g5⟩
  · rw [g2] at hk hZ
    refine ⟨fun _ => ⟨hk, by rw [hZ, if_neg (by decide)]⟩, fun h => ?_⟩
    rw [g1] at h; cases h
  · rw [g3] at hk hZ
    refine ⟨fun _ => ⟨hk, by rw [hZ, if_neg (by decide)]⟩, fun _ => ?_⟩
    have h := hno (fun h => by rw [ht.2 h] at g2; cases g2)
    exact .inl ⟨h.1, h.2, hk, by rw [hZ, if_neg (by decide)]⟩
  · rw [g4] at hk hZ
    refine ⟨fun h => by rw [g1] at h; (try cases h), fun _ => ?_⟩
    obtain ⟨h1, h2⟩ := hok (ht.1 g2)
    rw [h2] at g3 hZ
    exact .inr (.inl ⟨h1, g3, hk, by rw [hZ, if_pos rfl, wcS_else g3]⟩)
  · rw [g5] at hk hZ
    refine ⟨fun h => by rw [g1] at h; (try cases h), fun _ => ?_⟩
    obtain ⟨h1, h2⟩ := hok (ht.1 g2)
    rw [h2] at g3 hZ
    refine .inr (.inr (.inl ⟨h1, g3, ?_, hk, by rw [hZ, if_neg (by decide)]⟩))
    simp only [Bool.and_eq_false_iff, beq_eq_false_iff_ne] at g4
    by_cases h4 : 0 < m4
    · exact .inl (by simp [h4])
    · exact .inr ⟨by simp; omega, by simp; omega⟩
  · rw [g5] at hk hZ
    refine ⟨fun h => by rw [g1] at h; (try cases h), fun _ => ?_⟩
    obtain ⟨h1, h2⟩ := hok (ht.1 g2)
    rw [h2] at g3 hZ
    simp only [Bool.and_eq_true, beq_iff_eq] at g4
    exact .inr (.inr (.inr ⟨h1, g3, by simp; omega, by simp; omega, hk, by rw [hZ, if_pos rfl, wcS_bare g3]⟩))

end Go.Proofs.Ytmbkbbephmblmab
