/- The law on 'PartsOf': its walk. -/
import Derived.Test.YtfldgeokigcokaaGreatTpC
import Derived.Test.YtfldgeokigcokaaGreatTermH
import Derived.Test.YtfldgeokigcokaaGreatIntH
namespace Go.Proofs.YtfldgeokigcokaaGreat
open Go.RowKit

theorem pa_len (xs : List T4) (q : Int) : (paL xs q).length ≤ 400 := by
  rcases pa_ways xs q with ⟨_, h⟩ | ⟨h1, h⟩
  · rw [h]; exact Nat.zero_le _
  · obtain ⟨hv, h2, h3⟩ := ak_zero h1
    have h4 := prL_len xs q.toNat
    have h5 := (tfC_zero hv).1
    rw [h]; omega

end Go.Proofs.YtfldgeokigcokaaGreat
