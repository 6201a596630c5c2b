/- Put together: IntH, TermH. -/
import Derived.Test.YtfldgeokigcokaaGreatIntA
import Derived.Test.YtfldgeokigcokaaGreatFill
import Derived.Test.YtfldgeokigcokaaGreatTermA
import Derived.Deep.RegionHeld3

/- The laws' own helpers over whole numbers, by contract. -/
namespace Go.Proofs.YtfldgeokigcokaaGreat
open Go.RowKit

/-- What 'mark' lays: the numbers from q on, each brought to a byte. -/
def imarks (q : Int) (n : Nat) : List Int := (List.range n).map fun (i : Nat) => q + (i : Int)

/-- A row of which the first 'k' bear their imarks. -/
def imarkFill (q : Int) (xs : List Int) (k : Nat) : List Int := imarks q k ++ xs.drop k

end Go.Proofs.YtfldgeokigcokaaGreat

/- The laws' own helpers over 'Term', by contract (written by gentype.py). -/
namespace Go.Proofs.YtfldgeokigcokaaGreat
open Go.RowKit

end Go.Proofs.YtfldgeokigcokaaGreat
