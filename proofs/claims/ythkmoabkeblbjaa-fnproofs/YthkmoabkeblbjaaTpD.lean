/- A term put twice. -/
import Derived.Test.YthkmoabkeblbjaaTmZ
import Derived.Test.YthkmoabkeblbjaaTmD
namespace Go.Proofs.Ythkmoabkeblbjaa
open Go.RowKit

theorem tmC_more {xs : List T4} {t : T4} {k : Nat} (hk : k ≤ xs.length) (h : tmC (xs.take k) t = 0) : tmC xs t = 0 := by
  have F := zero_fits h
  obtain ⟨ho, hn, h1, h2, h3, h4, h5⟩ := tm_zero h
  have hl : (xs.take k).length = k := by rw [List.length_take]; omega
  have ha : 0 < kids t.o → 0 ≤ t.a ∧ t.a < k := fun e => by have := F.a e; rw [hl] at this; exact this
  have hb : 1 < kids t.o → 0 ≤ t.b ∧ t.b < k := fun e => by have := F.b e; rw [hl] at this; exact this
  refine fits_zero ⟨F.bare, fun e => ?_, fun e => ?_, fun e => ?_⟩ ho hn (fun e => ?_)
  · have := ha e; omega
  · have := hb e; omega
  · have := F.rise e
    have k7 := kids7
    have h6 := ha (by rw [e, k7]; decide)
    have h7 := hb (by rw [e, k7]; decide)
    rw [tmAt_take _ _ _ h6.1 h6.2, tmAt_take _ _ _ h7.1 h7.2] at this
    exact this
  · have k6 := kids6
    have h6 := ha (by rw [e, k6]; decide)
    have h7 := (tmSec_false (h5 (ofSec_iff.2 (.inl e)))).1
    rw [tmAt_take _ _ _ h6.1 h6.2] at h7
    exact h7

/-- What is put twice is found where it was put. -/
theorem put_again {xs : List T4} {t : T4} (h : tfC xs = 0) (hc : (put xs t).c = 0) : put (put xs t).l t = ⟨0, (put xs t).k, (put xs t).l⟩ := by
  obtain ⟨h1, _, h3, h4, h5⟩ := put_right h hc
  generalize put xs t = P at *
  have hk : P.k.toNat < P.l.length := by omega
  have hz := (tfC_zero h1).2 P.k.toNat hk
  rw [h5] at hz
  have hm : t ∈ P.l := by rw [← h5]; exact getDTerm_mem hk
  have hi := idx_once (fun k hk => ((tfC_zero h1).2 k hk).2) hk
  rw [h5] at hi
  rcases put_ways P.l t with ⟨e, _⟩ | ⟨_, _, e⟩ | ⟨_, e, _⟩ | ⟨_, e, _⟩
  · exact absurd (tmC_more (Nat.le_of_lt hk) hz.1) e
  · rw [e, hi]
    have : ((P.k.toNat : Nat) : Int) = P.k := by omega
    rw [this]
  · exact absurd hm e
  · exact absurd hm e

end Go.Proofs.Ythkmoabkeblbjaa
