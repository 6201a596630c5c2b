/- Selectors as nine numbers; what fits; ranges. -/
import Derived.Test.YtfldgeokigcokaaPkt
namespace Go.Proofs.Ytfldgeokigcokaa
open Go.RowKit

/-- The nine numbers of a selector. -/
structure S9 where
  (a b c d e f g h r : Int)

/-- A range that rises, from 0 on to the top. -/
@[irreducible] def rngB (l h t : Int) : Bool := decide (0 ≤ l) && (decide (l ≤ h) && decide (h ≤ t))

theorem rngB_iff {l h t : Int} : rngB l h t = true ↔ 0 ≤ l ∧ l ≤ h ∧ h ≤ t := by unfold rngB; simp

/-- The numbers of a selector are in their bounds. -/
@[irreducible] def fitS (x : S9) : Bool := rngB x.a x.b 4294967295 && (rngB x.c x.d 4294967295 && (rngB x.e x.f 65535 && (rngB x.g x.h 65535 && btw x.r 0 255)))

/-- The ranges of ports are the whole ones. -/
@[irreducible] def wholeP (e f g h : Int) : Bool := ((e == 0) && (f == 65535)) && ((g == 0) && (h == 65535))

/-- A protocol that is not any, and has no ports. -/
@[irreducible] def bareP (r : Int) : Bool := (r != 0) && !portsP r

/-- The fault of a selector. -/
@[irreducible] def sfC (x : S9) : Int := if fitS x = true then (if bareP x.r = true ∧ wholeP x.e x.f x.g x.h = false then 1 else 0) else 3

theorem fitS_iff {x : S9} : fitS x = true ↔ (0 ≤ x.a ∧ x.a ≤ x.b ∧ x.b ≤ 4294967295) ∧ (0 ≤ x.c ∧ x.c ≤ x.d ∧ x.d ≤ 4294967295) ∧ (0 ≤ x.e ∧ x.e ≤ x.f ∧ x.f ≤ 65535) ∧ (0 ≤ x.g ∧ x.g ≤ x.h ∧ x.h ≤ 65535) ∧ 0 ≤ x.r ∧ x.r ≤ 255 := by
  unfold fitS; simp only [Bool.and_eq_true, rngB_iff, btw_iff]

theorem wholeP_iff {e f g h : Int} : wholeP e f g h = true ↔ e = 0 ∧ f = 65535 ∧ g = 0 ∧ h = 65535 := by
  unfold wholeP; simp only [Bool.and_eq_true, beq_iff_eq]; omega

theorem bareP_iff {r : Int} : bareP r = true ↔ r ≠ 0 ∧ r ≠ 6 ∧ r ≠ 17 := by
  unfold bareP portsP; simp

theorem sfC_zero {x : S9} (h : sfC x = 0) : fitS x = true ∧ (bareP x.r = true → wholeP x.e x.f x.g x.h = true) := by
  unfold sfC at h
  split at h
  · rename_i h1
    split at h
    · omega
    · rename_i h2
      refine ⟨h1, fun hb => ?_⟩
      cases hw : wholeP x.e x.f x.g x.h
      · exact absurd ⟨hb, hw⟩ h2
      · rfl
  · omega

theorem sfC_yes {x : S9} (h : fitS x = true) (h2 : bareP x.r = true → wholeP x.e x.f x.g x.h = true) : sfC x = 0 := by
  unfold sfC
  rw [if_pos h, if_neg]
  rintro ⟨h3, h4⟩
  rw [h2 h3] at h4
  cases h4

theorem sfC_form {x : S9} (h : fitS x = true) (h2 : bareP x.r = true) (h3 : wholeP x.e x.f x.g x.h = false) : sfC x = 1 := by
  unfold sfC
  rw [if_pos h, if_pos ⟨h2, h3⟩]

theorem sfC_no {x : S9} (h : fitS x = false) : sfC x = 3 := by
  unfold sfC
  rw [if_neg (by rw [h]; simp)]

theorem sfC_cases (x : S9) : sfC x = 0 ∨ sfC x = 1 ∨ sfC x = 3 := by
  unfold sfC; split
  · split
    · exact .inr (.inl rfl)
    · exact .inl rfl
  · exact .inr (.inr rfl)

theorem rng_cases (l h t : Int) : (decide (0 ≤ l) = false) ∨ (decide (0 ≤ l) = true ∧ decide (l ≤ h) = false) ∨ (decide (0 ≤ l) = true ∧ decide (l ≤ h) = true ∧ decide (h ≤ t) = false) ∨ (decide (0 ≤ l) = true ∧ decide (l ≤ h) = true ∧ decide (h ≤ t) = true) := by
  cases decide (0 ≤ l) <;> cases decide (l ≤ h) <;> cases decide (h ≤ t) <;> simp

end Go.Proofs.Ytfldgeokigcokaa
