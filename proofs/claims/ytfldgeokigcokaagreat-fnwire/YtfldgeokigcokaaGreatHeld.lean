/- The law's own helpers over slices of bytes, by contracts: compare, copy, mark, held. -/
import Derived.Test.YtfldgeokigcokaaGreatProg
import Derived.Test.YtfldgeokigcokaaGreatBase
namespace Go.Proofs.YtfldgeokigcokaaGreat
open Go.RowKit

theorem Tryz.info_u8 : (Tryz.prog.info? 5).map (fun i => (i.zero, i.size, i.bytes)) = some (some (.int .u8 0), 1, 1) := by kernel_rfl

/-- What 'mark' lays: the numbers from q on, each brought to a byte. -/
def marks (q : Int) (n : Nat) : List Int := (List.range n).map fun (i : Nat) => (q + (i : Int)) % 256

/-- A row of which the first 'k' bear their marks. -/
def markFill (q : Int) (xs : List Int) (k : Nat) : List Int := marks q k ++ xs.drop k

theorem Own.some_of {k : IntKind} {e : TypeId} {w : World} {base : Nat} {a : Option Addr} {cap : Nat} {zs : List Int} (h : Own k e w base a cap zs) (hp : 0 < zs.length) : ∃ g, a = some ⟨g, 0, none⟩ ∧ base ≤ g := by
  rcases h.2 with ⟨_, h0⟩ | ⟨g, cap', cur, hv, hb, _⟩
  · omega
  · simp only [Value.slice.injEq, true_and] at hv
    exact ⟨g, hv.1, hb⟩

theorem grownBy_trans {w w1 w2 : World} {row : Option Nat} (h : w.grownBy w1 row) (k : w1.grownBy w2 row) : w.grownBy w2 row :=
  ⟨k.os.trans h.os, k.tape.trans h.tape, k.output.trans h.output, Nat.le_trans h.size k.size, fun i hi hr => (k.block i (Nat.lt_of_lt_of_le hi h.size) hr).trans (h.block i hi hr)⟩

theorem Own.row {k : IntKind} {e : TypeId} {w : World} {base : Nat} {a : Option Addr} {cap n : Nat} {zs : List Int} (h : Own k e w base a cap zs) (hn : zs.length = n) : w.ownsRow base e 1 (.slice a n cap) n (zs.map (Value.int k)) := by
  unfold Own at h; rw [hn] at h; exact h

theorem Own.mk {k : IntKind} {e : TypeId} {w : World} {base : Nat} {a : Option Addr} {cap n : Nat} {zs : List Int} (h : w.ownsRow base e 1 (.slice a n cap) n (zs.map (Value.int k))) (hn : zs.length = n) : Own k e w base a cap zs := by
  unfold Own; rw [hn]; exact h

end Go.Proofs.YtfldgeokigcokaaGreat
