/- Selectors and packets: what follows from what. -/
import Derived.Test.YtngkahchhioncaaDoorMtA
import Derived.Test.YtngkahchhioncaaDoorSelW
import Derived.Test.YtngkahchhioncaaDoorSelY
namespace Go.Proofs.YtngkahchhioncaaDoor
open Go.RowKit

/-- A selector the other way round. -/
def rvS (x : S9) : S9 := ⟨x.c, x.d, x.a, x.b, x.g, x.h, x.e, x.f, x.r⟩

theorem fitS_rev (x : S9) : fitS (rvS x) = fitS x := by
  rw [Bool.eq_iff_iff, fitS_iff, fitS_iff]
  unfold rvS
  dsimp only
  omega

theorem wholeP_rev (e f g h : Int) : wholeP g h e f = wholeP e f g h := by
  rw [Bool.eq_iff_iff, wholeP_iff, wholeP_iff]
  omega

theorem sfC_rev (x : S9) : sfC (rvS x) = sfC x := by
  unfold sfC
  rw [fitS_rev]
  have e : wholeP (rvS x).e (rvS x).f (rvS x).g (rvS x).h = wholeP x.e x.f x.g x.h := wholeP_rev _ _ _ _
  rw [e]
  rfl

theorem fitP_rev (f t r l u v : Int) : fitP t f r l v u = fitP f t r l u v := by
  rw [Bool.eq_iff_iff, fitP_iff, fitP_iff]
  omega

theorem pfC_rev (f t r l u v : Int) (n : Nat) : pfC t f r l v u n = pfC f t r l u v n := by
  unfold pfC
  rw [fitP_rev]
  have e : (portsP r = false ∧ (v ≠ 0 ∨ u ≠ 0)) ↔ (portsP r = false ∧ (u ≠ 0 ∨ v ≠ 0)) := by
    constructor <;> (rintro ⟨h1, h2⟩; exact ⟨h1, h2.symm⟩)
  simp only [e]

theorem inP_rev (x : S9) (f t r u v : Int) : inP (rvS x) t f r v u = inP x f t r u v := by
  rw [Bool.eq_iff_iff, inP_iff, inP_iff]
  unfold rvS
  dsimp only
  omega

theorem hoP_rev (x : S9) (f t r l u v : Int) (n : Nat) : hoP (rvS x) t f r l v u n = hoP x f t r l u v n := by
  unfold hoP
  rw [sfC_rev, pfC_rev, inP_rev]

theorem inW_iff {x y : S9} : inW x y = true ↔ ((y.a ≤ x.a ∧ x.b ≤ y.b) ∧ (y.c ≤ x.c ∧ x.d ≤ y.d) ∧ (y.e ≤ x.e ∧ x.f ≤ y.f) ∧ (y.g ≤ x.g ∧ x.h ≤ y.h)) ∧ (y.r = 0 ∨ y.r = x.r) := by
  unfold inW; simp only [Bool.and_eq_true, inS_iff, tkP_iff]

theorem wiP_iff {x y : S9} : wiP x y = true ↔ sfC x = 0 ∧ sfC y = 0 ∧ inW x y = true := by
  unfold wiP; simp only [Bool.and_eq_true, beq_iff_eq]

theorem hoP_iff {x : S9} {f t r l u v : Int} {n : Nat} : hoP x f t r l u v n = true ↔ sfC x = 0 ∧ pfC f t r l u v n = 0 ∧ inP x f t r u v = true := by
  unfold hoP; simp only [Bool.and_eq_true, beq_iff_eq]

theorem wiP_self {x : S9} (h : sfC x = 0) : wiP x x = true := by
  rw [wiP_iff, inW_iff]
  exact ⟨h, h, by omega⟩

theorem wiP_holds {x y : S9} {f t r l u v : Int} {n : Nat} (h : wiP x y = true) (h2 : hoP x f t r l u v n = true) : hoP y f t r l u v n = true := by
  rw [wiP_iff, inW_iff] at h
  rw [hoP_iff, inP_iff] at h2 ⊢
  exact ⟨h.2.1, h2.2.1, by omega⟩

/-- What two right selectors have in common, as numbers. -/
theorem mtC_right {x y : S9} (hx : sfC x = 0) (hy : sfC y = 0) : mtC x y = cmC (tkP x.r y.r || tkP y.r x.r) (cmS x y) ∧ mtS x y = if mtC x y = 0 then wcS (cmS x y) else zeroS := by
  refine ⟨?_, ?_⟩
  · unfold mtC; rw [if_pos hx, if_pos hy]
  · unfold mtS; rfl

theorem wiP_meet {x y : S9} (h : wiP x y = true) : mtC x y = 0 ∧ mtS x y = x := by
  rw [wiP_iff, inW_iff] at h
  obtain ⟨hx, hy, h1, h2⟩ := h
  obtain ⟨e1, e2⟩ := mtC_right hx hy
  obtain ⟨f1, b1⟩ := sfC_zero hx
  have f2 := fitS_iff.1 f1
  have hc : cmS x y = x := by
    rw [cmS_is]
    have hr : nwP x.r y.r = x.r := by unfold nwP; split <;> omega
    rw [hr]
    obtain ⟨a, b, c, d, e, f, g, h, r⟩ := x
    dsimp only at *
    congr 1 <;> omega
  have hu : upS x.a x.b x.c x.d x.e x.f x.g x.h = true := upS_iff.2 (by omega)
  have ht : (tkP x.r y.r || tkP y.r x.r) = true := by rw [Bool.or_eq_true, tkP_iff, tkP_iff]; omega
  have h0 : mtC x y = 0 := by
    rw [e1, hc]
    unfold cmC
    rw [hu, ht]
    cases hb : bareP x.r
    · simp
    · have hw := wholeP_iff.1 (b1 hb)
      simp [hw.1, hw.2.2.1]
  refine ⟨h0, ?_⟩
  rw [e2, if_pos h0, hc]
  cases hb : bareP x.r
  · exact wcS_else hb
  · have hw := wholeP_iff.1 (b1 hb)
    rw [wcS_bare hb]
    obtain ⟨a, b, c, d, e, f, g, h, r⟩ := x
    dsimp only at *
    obtain ⟨rfl, rfl, rfl, rfl⟩ := hw
    rfl

end Go.Proofs.YtngkahchhioncaaDoor
