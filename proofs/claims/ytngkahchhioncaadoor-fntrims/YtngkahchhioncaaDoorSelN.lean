/- The faults of lists of selectors: both sides. -/
import Derived.Test.YtngkahchhioncaaDoorSelM
import Derived.Test.YtngkahchhioncaaDoorSelF
import Derived.Test.YtngkahchhioncaaDoorSelG
namespace Go.Proofs.YtngkahchhioncaaDoor
open Go.RowKit

/-- The first fault of a list. -/
def ssF : List S9 → Int
  | [] => 0
  | x :: xs => if sfC x = 0 then ssF xs else sfC x

/-- The fault of a list of selectors. -/
@[irreducible] def ssC (xs : List S9) : Int := if 1 ≤ xs.length ∧ xs.length ≤ 12 then ssF xs else 2

theorem ssF_drop (xs : List S9) (k : Nat) (h : k < xs.length) : ssF (xs.drop k) = if sfC (xs.getD k z9) = 0 then ssF (xs.drop (k + 1)) else sfC (xs.getD k z9) := by
  rw [List.drop_eq_getElem_cons h, show xs.getD k z9 = xs[k] by simp [List.getD, h]]
  rfl

theorem ssF_zero {xs : List S9} (h : ssF xs = 0) : ∀ x ∈ xs, sfC x = 0 := by
  induction xs with
  | nil => intro x hx; cases hx
  | cons y xs ih =>
    simp only [ssF] at h
    by_cases hy : sfC y = 0
    · rw [if_pos hy] at h
      intro x hx
      rcases List.mem_cons.1 hx with rfl | hx
      · exact hy
      · exact ih h x hx
    · rw [if_neg hy] at h; exact absurd h hy

theorem ssF_all {xs : List S9} (h : ∀ x ∈ xs, sfC x = 0) : ssF xs = 0 := by
  induction xs with
  | nil => rfl
  | cons y xs ih => rw [ssF, if_pos (h y (by simp))]; exact ih fun x hx => h x (by simp [hx])

theorem ssC_zero {xs : List S9} (h : ssC xs = 0) : (1 ≤ xs.length ∧ xs.length ≤ 12) ∧ ∀ x ∈ xs, sfC x = 0 := by
  unfold ssC at h
  split at h
  · exact ⟨by assumption, ssF_zero h⟩
  · omega

theorem ssC_all {xs : List S9} (h1 : 1 ≤ xs.length) (h2 : xs.length ≤ 12) (h : ∀ x ∈ xs, sfC x = 0) : ssC xs = 0 := by
  unfold ssC
  rw [if_pos ⟨h1, h2⟩, ssF_all h]

end Go.Proofs.YtngkahchhioncaaDoor
