/- The laws' own helpers over whole numbers, by contract. -/
import Derived.Test.YthjaehcfakjemaaDoorIntA
import Derived.Test.YthjaehcfakjemaaDoorFill
namespace Go.Proofs.YthjaehcfakjemaaDoor
open Go.RowKit

/-- What 'mark' lays: the numbers from q on, each brought to a byte. -/
def imarks (q : Int) (n : Nat) : List Int := (List.range n).map fun (i : Nat) => q + (i : Int)

theorem length_imarks (q : Int) (n : Nat) : (imarks q n).length = n := by simp [imarks]

theorem imarks_at (q : Int) (n k : Nat) (h : k < n) : (imarks q n).getD k 0 = q + (k : Int) := by simp [imarks, List.getD, h]

/-- A row of which the first 'k' bear their imarks. -/
def imarkFill (q : Int) (xs : List Int) (k : Nat) : List Int := imarks q k ++ xs.drop k

theorem imarkFill_zero (q : Int) (xs : List Int) : imarkFill q xs 0 = xs := by simp [imarkFill, imarks]

theorem imarkFill_all (q : Int) (xs : List Int) (n : Nat) (h : xs.length = n) : imarkFill q xs n = imarks q n := by simp [imarkFill, ← h]

theorem length_imarkFill (q : Int) (xs : List Int) (k n : Nat) (h : xs.length = n) (hk : k ≤ n) : (imarkFill q xs k).length = n := by simp [imarkFill, length_imarks]; omega

theorem imarkFill_set (q : Int) (xs : List Int) (k n : Nat) (h : xs.length = n) (hk : k < n) : (imarkFill q xs k).set k (q + (k : Int)) = imarkFill q xs (k + 1) := by
  unfold imarkFill
  rw [List.set_append_right _ _ (by rw [length_imarks]; exact Nat.le_refl _), length_imarks, Nat.sub_self, List.drop_eq_getElem_cons (by omega : k < xs.length), List.set_cons_zero]
  simp [imarks, List.range_succ]

end Go.Proofs.YthjaehcfakjemaaDoor
