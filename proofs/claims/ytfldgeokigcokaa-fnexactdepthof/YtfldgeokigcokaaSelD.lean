/- What two arrays of ranges have in common: the walk of a loop of four rounds. -/
import Derived.Test.YtfldgeokigcokaaSelC
import Derived.Test.YtfldgeokigcokaaVar
import Derived.BigRegion
namespace Go.Proofs.Ytfldgeokigcokaa
open Go.RowKit

theorem if_max (a b : Int) : (if a < b then b else a) = max a b := by split <;> omega
theorem if_min (a b : Int) : (if b < a then b else a) = min a b := by split <;> omega

end Go.Proofs.Ytfldgeokigcokaa
