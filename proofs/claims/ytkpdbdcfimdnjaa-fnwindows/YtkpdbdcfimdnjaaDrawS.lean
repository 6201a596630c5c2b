/- The draws of bytes: some of them, and very many now and then. -/
import Derived.Test.YtkpdbdcfimdnjaaDrawP
import Derived.Test.YtkpdbdcfimdnjaaHeld
import Derived.Deep.AppendLies
namespace Go.Proofs.Ytkpdbdcfimdnjaa
open Go.RowKit

theorem Own.past {k : IntKind} {e : TypeId} {w w' : World} {base B : Nat} {a : Option Addr} {cap : Nat} {zs : List Int} (h : Own k e w base a cap zs) (hg : w.grownBy w' (some B)) (hB : B < base) : Own k e w' base a cap zs :=
  h.grown hg fun b hb e => by
    have := (h.lt b hb).1
    simp at e
    omega

theorem grown_alloc {w w' : World} {row : Option Nat} (h : w.grownBy w' row) (o : Obj) : w.grownBy (w'.alloc o) row :=
  grownBy_trans h (Below.grownBy (belowA _ _) _)

/-- Behind an append to a row of the call's own, of one number, within what may turn at block B. -/
theorem appendedB {w wr w1 : World} {base B : Nat} {e : TypeId} {v v' : Value} {j : Nat} {l : List Int} {z : Int} {o : Obj} (hown : wr.ownsRow base e 1 v j (l.map (Value.int .u8))) (hb : w.grownBy wr (some B)) (hbase : base = w.heap.size)
    (hown' : w1.ownsRow base e 1 v' (j + 1) (l.map (Value.int .u8) ++ [.int .u8 z])) (hg : (wr.alloc o).grownBy w1 v.ownBlock) :
    w1.ownsRow base e 1 v' (j + 1) ((l ++ [z]).map (Value.int .u8)) ∧ w.grownBy w1 (some B) := by
  refine ⟨by simpa using hown', hg.os.trans hb.os, hg.tape.trans hb.tape, hg.output.trans hb.output, ?_, fun i hi hr => ?_⟩
  · have h1 := hg.size; have h2 := hb.size; simp at h1; omega
  · have h2 := hb.size
    have h3 := hown.lt
    rw [hg.block i (by simp; omega) (fun e => by have := (h3 i e.symm).1; omega), Below.heap_alloc _ _ _ (by omega)]
    exact hb.block i hi hr

theorem Src.grownAway {w w' : World} {B : Nat} {a : Option Addr} {n ca : Nat} {zs : List Int} {t : Nat} {row : Option Nat} (h : Src w B a n ca zs t) (hg : w.grownBy w' row) (hr : ∀ k, row = some k → B < k) : Src w' B a n ca zs t := by
  have hne : row ≠ some B := fun e => by have := hr B e; omega
  refine ⟨h.1.grown hg hne, ?_, h.2.2.1.grown hg (h.2.2.2.imp id fun hh b hb e => by have := hr _ e; have := hh b hb; omega), h.2.2.2⟩
  rw [World.frozen?_of_block (w := w) (hg.block B h.1.1 fun e => hne e.symm)]
  exact h.2.1

end Go.Proofs.Ytkpdbdcfimdnjaa
