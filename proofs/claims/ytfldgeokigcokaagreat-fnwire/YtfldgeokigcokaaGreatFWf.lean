/- Put together: XTmQ, OcB. -/
import Derived.Test.YtfldgeokigcokaaGreatFWh
import Derived.Test.YtfldgeokigcokaaGreatFWg
import Derived.Test.YtfldgeokigcokaaGreatOcA

/- The law on 'PartsOf': its walk. -/
namespace Go.Proofs.YtfldgeokigcokaaGreat
open Go.RowKit

end Go.Proofs.YtfldgeokigcokaaGreat

/- OccursIn: both sides. -/
namespace Go.Proofs.YtfldgeokigcokaaGreat
open Go.RowKit

/-- Whether a term is a part of another. -/
@[irreducible] def occ (xs : List T4) (s b : Int) : Bool := if akC xs s = 0 then (if akC xs b = 0 then inL (prL xs b.toNat) s else false) else false

theorem prL_range {xs : List T4} {r : Nat} {z : Int} (h : z ∈ prL xs r) : 0 ≤ z ∧ z ≤ r := by
  unfold prL at h
  simp only [List.mem_map, List.mem_filter, List.mem_range] at h
  obtain ⟨i, ⟨h1, _⟩, rfl⟩ := h
  omega

end Go.Proofs.YtfldgeokigcokaaGreat
