/- Small parts of chapter 3. -/
import Derived.Test.YtfldgeokigcokaaSelE
namespace Go.Proofs.Ytfldgeokigcokaa
open Go.RowKit

/-- A protocol takes another one. -/
@[irreducible] def tkP (t p : Int) : Bool := (t == 0) || (t == p)

theorem tkP_iff {t p : Int} : tkP t p = true ↔ t = 0 ∨ t = p := by unfold tkP; simp

/-- The narrower one of two protocols. -/
@[irreducible] def nwP (a b : Int) : Int := if a = 0 then b else a

end Go.Proofs.Ytfldgeokigcokaa
