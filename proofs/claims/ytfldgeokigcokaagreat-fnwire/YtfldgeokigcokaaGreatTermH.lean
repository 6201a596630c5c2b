/- The laws' own helpers over 'Term', by contract (written by gentype.py). -/
import Derived.Test.YtfldgeokigcokaaGreatTermA
import Derived.Test.YtfldgeokigcokaaGreatIntH
import Derived.Deep.RegionHeld3
namespace Go.Proofs.YtfldgeokigcokaaGreat
open Go.RowKit

theorem grownThenTerm {w w1 : World} {row : Option Nat} (h : w.grownBy w1 row) {p : Addr} (hp : row = some p.block) (v : Value) : w.grownBy (w1.setCell p v) row :=
  grownBy_trans h ⟨rfl, rfl, rfl, by simp [World.setCell], fun k _ hk => Below.heap_setCell _ _ _ _ (fun e => hk (by rw [hp, e]))⟩

end Go.Proofs.YtfldgeokigcokaaGreat
