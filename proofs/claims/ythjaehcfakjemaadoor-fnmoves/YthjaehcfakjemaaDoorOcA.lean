/- Whether a number is in a list. -/
import Derived.Test.YthjaehcfakjemaaDoorIntA
import Derived.Test.YthjaehcfakjemaaDoorVar
namespace Go.Proofs.YthjaehcfakjemaaDoor
open Go.RowKit

/-- A number is in a list. -/
def inL (zs : List Int) (v : Int) : Bool := zs.any fun z => z == v

theorem inL_drop (zs : List Int) (v : Int) (k : Nat) (h : k < zs.length) {z : Int} (hz : zs.getD k 0 = z) : inL (zs.drop k) v = ((z == v) || inL (zs.drop (k + 1)) v) := by
  unfold inL
  rw [List.drop_eq_getElem_cons h, List.any_cons]
  have e : zs[k] = z := by rw [← hz]; simp [List.getD, h]
  rw [e]

/-- The place of a number in a list, or -1. -/
def atL : List Int → Int → Int → Int
  | [], _, _ => -1
  | z :: zs, v, k => if z == v then k else atL zs v (k + 1)

theorem atL_in (zs : List Int) (v k : Int) (h : 0 ≤ k) : decide (0 ≤ atL zs v k) = inL zs v := by
  induction zs generalizing k with
  | nil => rfl
  | cons z zs ih =>
    unfold atL inL
    rw [List.any_cons]
    cases hz : (z == v)
    · simp only [Bool.false_eq_true, if_false, Bool.false_or]; exact ih (k + 1) (by omega)
    · simp [h]

theorem atL_drop (zs : List Int) (v : Int) (k : Nat) (h : k < zs.length) {z : Int} (hz : zs.getD k 0 = z) : atL (zs.drop k) v k = if (z == v) = true then (k : Int) else atL (zs.drop (k + 1)) v ((k + 1 : Nat) : Int) := by
  rw [List.drop_eq_getElem_cons h, atL]
  have e : zs[k] = z := by rw [← hz]; simp [List.getD, h]
  rw [e]; rfl

end Go.Proofs.YthjaehcfakjemaaDoor
