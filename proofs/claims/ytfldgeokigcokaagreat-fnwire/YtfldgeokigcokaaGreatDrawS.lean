/- The draws of bytes: some of them, and very many now and then. -/
import Derived.Test.YtfldgeokigcokaaGreatDrawP
import Derived.Test.YtfldgeokigcokaaGreatHeld
import Derived.Deep.AppendLies
namespace Go.Proofs.YtfldgeokigcokaaGreat
open Go.RowKit

theorem Own.past {k : IntKind} {e : TypeId} {w w' : World} {base B : Nat} {a : Option Addr} {cap : Nat} {zs : List Int} (h : Own k e w base a cap zs) (hg : w.grownBy w' (some B)) (hB : B < base) : Own k e w' base a cap zs :=
  h.grown hg fun b hb e => by
    have := (h.lt b hb).1
    simp at e
    omega

theorem grown_alloc {w w' : World} {row : Option Nat} (h : w.grownBy w' row) (o : Obj) : w.grownBy (w'.alloc o) row :=
  grownBy_trans h (Below.grownBy (belowA _ _) _)

theorem Src.grownAway {w w' : World} {B : Nat} {a : Option Addr} {n ca : Nat} {zs : List Int} {t : Nat} {row : Option Nat} (h : Src w B a n ca zs t) (hg : w.grownBy w' row) (hr : ∀ k, row = some k → B < k) : Src w' B a n ca zs t := by
  have hne : row ≠ some B := fun e => by have := hr B e; omega
  refine ⟨h.1.grown hg hne, ?_, h.2.2.1.grown hg (h.2.2.2.imp id fun hh b hb e => by have := hr _ e; have := hh b hb; omega), h.2.2.2⟩
  rw [World.frozen?_of_block (w := w) (hg.block B h.1.1 fun e => hne e.symm)]
  exact h.2.1

end Go.Proofs.YtfldgeokigcokaaGreat
