/- Sums over words, the model's and the program's, by contracts. -/
import Derived.Test.YtfldgeokigcokaaGreatProg
import Derived.Test.YtfldgeokigcokaaGreatBase
namespace Go.Proofs.YtfldgeokigcokaaGreat
open Go.RowKit

/-- What folding comes to. -/
def fold (n : Int) : Int := if n = 0 then 0 else (n - 1) % 65535 + 1

/-- The word at a place, a byte 0 behind an odd last one. -/
def wordN (zs : List Int) (k : Nat) : Int := 256 * zs.getD (2 * k) 0 + zs.getD (2 * k + 1) 0

/-- The words' sum, folded at each. -/
def sumN (zs : List Int) : Nat → Int
  | 0 => 0
  | k + 1 => fold (sumN zs k + wordN zs k)

/-- What 'SumWords' answers. -/
def sumWords (zs : List Int) : Int := 65535 - sumN zs ((zs.length + 1) / 2)

end Go.Proofs.YtfldgeokigcokaaGreat
