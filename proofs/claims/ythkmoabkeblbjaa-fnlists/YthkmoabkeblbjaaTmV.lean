/- Sizes: the model. -/
import Derived.Test.YthkmoabkeblbjaaTmE
import Derived.Test.YthkmoabkeblbjaaTmQ
import Derived.Test.YthkmoabkeblbjaaMinM
namespace Go.Proofs.Ythkmoabkeblbjaa
open Go.RowKit

theorem own_some {k : IntKind} {e : TypeId} {w : World} {base : Nat} {a : Option Addr} {cap : Nat} {zs : List Int} (h : Own k e w base a cap zs) (h0 : 0 < zs.length) : ∃ g, a = some ⟨g, 0, none⟩ := by
  rcases h.2 with ⟨_, h1⟩ | ⟨g, cap', cur, hv, _⟩
  · omega
  · simp only [Value.slice.injEq, true_and] at hv; exact ⟨g, hv.1⟩

end Go.Proofs.Ythkmoabkeblbjaa
