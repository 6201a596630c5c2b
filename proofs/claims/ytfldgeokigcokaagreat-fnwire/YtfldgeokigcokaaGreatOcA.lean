/- Whether a number is in a list. -/
import Derived.Test.YtfldgeokigcokaaGreatIntA
import Derived.Test.YtfldgeokigcokaaGreatVar
namespace Go.Proofs.YtfldgeokigcokaaGreat
open Go.RowKit

/-- A number is in a list. -/
def inL (zs : List Int) (v : Int) : Bool := zs.any fun z => z == v

/-- The place of a number in a list, or -1. -/
def atL : List Int → Int → Int → Int
  | [], _, _ => -1
  | z :: zs, v, k => if z == v then k else atL zs v (k + 1)

end Go.Proofs.YtfldgeokigcokaaGreat
