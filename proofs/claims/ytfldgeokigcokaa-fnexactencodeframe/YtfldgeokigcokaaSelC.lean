/- Arrays of ranges: built, compared. -/
import Derived.Test.YtfldgeokigcokaaSelB
import Derived.Laws.StructEq
import Derived.KernelRfl
namespace Go.Proofs.Ytfldgeokigcokaa
open Go.RowKit

theorem pair_no (a b c d : Int) : (a = b → ¬ c = d) ↔ (((a == b) && (c == d)) = false) := by
  by_cases h1 : a = b <;> by_cases h2 : c = d <;> simp [h1, h2]

end Go.Proofs.Ytfldgeokigcokaa
