/- The law's own helpers over slices of bytes, by contracts: compare, copy, mark, held. -/
import Derived.Test.YthjaehcfakjemaaDoorProg
import Derived.Test.YthjaehcfakjemaaDoorBase
namespace Go.Proofs.YthjaehcfakjemaaDoor
open Go.RowKit

theorem Tryd.info_u8 : (Tryd.prog.info? 5).map (fun i => (i.zero, i.size, i.bytes)) = some (some (.int .u8 0), 1, 1) := by kernel_rfl

/-- What 'mark' lays: the numbers from q on, each brought to a byte. -/
def marks (q : Int) (n : Nat) : List Int := (List.range n).map fun (i : Nat) => (q + (i : Int)) % 256

theorem length_marks (q : Int) (n : Nat) : (marks q n).length = n := by simp [marks]

theorem marks_at (q : Int) (n k : Nat) (h : k < n) : (marks q n).getD k 0 = (q + (k : Int)) % 256 := by simp [marks, List.getD, h]

/-- A row of which the first 'k' bear their marks. -/
def markFill (q : Int) (xs : List Int) (k : Nat) : List Int := marks q k ++ xs.drop k

theorem markFill_zero (q : Int) (xs : List Int) : markFill q xs 0 = xs := by simp [markFill, marks]

theorem markFill_all (q : Int) (xs : List Int) (n : Nat) (h : xs.length = n) : markFill q xs n = marks q n := by simp [markFill, ← h]

theorem length_markFill (q : Int) (xs : List Int) (k n : Nat) (h : xs.length = n) (hk : k ≤ n) : (markFill q xs k).length = n := by simp [markFill, length_marks]; omega

theorem markFill_set (q : Int) (xs : List Int) (k n : Nat) (h : xs.length = n) (hk : k < n) : (markFill q xs k).set k ((q + (k : Int)) % 256) = markFill q xs (k + 1) := by
  unfold markFill
  rw [List.set_append_right _ _ (by rw [length_marks]; exact Nat.le_refl _), length_marks, Nat.sub_self, List.drop_eq_getElem_cons (by omega : k < xs.length), List.set_cons_zero]
  simp [marks, List.range_succ]

theorem Own.some_of {k : IntKind} {e : TypeId} {w : World} {base : Nat} {a : Option Addr} {cap : Nat} {zs : List Int} (h : Own k e w base a cap zs) (hp : 0 < zs.length) : ∃ g, a = some ⟨g, 0, none⟩ ∧ base ≤ g := by
  rcases h.2 with ⟨_, h0⟩ | ⟨g, cap', cur, hv, hb, _⟩
  · omega
  · simp only [Value.slice.injEq, true_and] at hv
    exact ⟨g, hv.1, hb⟩

theorem grownBy_trans {w w1 w2 : World} {row : Option Nat} (h : w.grownBy w1 row) (k : w1.grownBy w2 row) : w.grownBy w2 row :=
  ⟨k.os.trans h.os, k.tape.trans h.tape, k.output.trans h.output, Nat.le_trans h.size k.size, fun i hi hr => (k.block i (Nat.lt_of_lt_of_le hi h.size) hr).trans (h.block i hi hr)⟩

theorem Own.row {k : IntKind} {e : TypeId} {w : World} {base : Nat} {a : Option Addr} {cap n : Nat} {zs : List Int} (h : Own k e w base a cap zs) (hn : zs.length = n) : w.ownsRow base e 1 (.slice a n cap) n (zs.map (Value.int k)) := by
  unfold Own at h; rw [hn] at h; exact h

theorem Own.mk {k : IntKind} {e : TypeId} {w : World} {base : Nat} {a : Option Addr} {cap n : Nat} {zs : List Int} (h : w.ownsRow base e 1 (.slice a n cap) n (zs.map (Value.int k))) (hn : zs.length = n) : Own k e w base a cap zs := by
  unfold Own; rw [hn]; exact h

end Go.Proofs.YthjaehcfakjemaaDoor
