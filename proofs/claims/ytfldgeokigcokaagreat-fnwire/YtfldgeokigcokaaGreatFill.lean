/- Boxes filled whole. -/
import Derived.Test.YtfldgeokigcokaaGreatProg
import Derived.Test.YtfldgeokigcokaaGreatVar
import Derived.Deep.MidRow
namespace Go.Proofs.YtfldgeokigcokaaGreat
open Go.RowKit

theorem V.there {w : World} {B : Nat} {zs : List Value} (h : V w B zs) : w.there B 0 zs.length := fun j hj => by
  refine ⟨?_, h.2.2 _⟩
  rw [Nat.zero_add, h.2.1 j hj, List.getElem?_eq_getElem hj]; rfl

theorem sizeCells (w : World) (B o : Nat) (vs : List Value) : (w.setCells B o vs).heap.size = w.heap.size := by
  induction vs generalizing w o with
  | nil => rfl
  | cons v vs ih => rw [World.setCells, ih, World.size_setCell]

/-- A box is filled whole, at one stroke. -/
theorem V.filled {w : World} {B : Nat} {zs : List Value} (h : V w B zs) (vs : List Value) (hl : vs.length = zs.length) : V (w.setCells B 0 vs) B vs := by
  have ht : w.there B 0 vs.length := hl ▸ h.there
  refine ⟨by rw [sizeCells]; exact h.1, fun i hi => ?_, fun o => ?_⟩
  · have h1 := World.rangeAt_setCells_same w B 0 vs ht i (vs[i]'hi) (List.getElem?_eq_getElem hi)
    rw [Nat.zero_add] at h1
    rw [h1, List.getElem?_eq_getElem hi]
  · rw [World.frozen?_setCells]; exact h.2.2 o

/-- The fact by which the walk stores at one stroke. -/
theorem V.stroke {w : World} {B : Nat} {zs : List Value} (h : V w B zs) (ty : TypeId) (cells : Array Value) (hl : cells.size = zs.length) (hi : (Tryz.prog.info? ty).map (·.size) = some cells.size) (h1 : cells.all (·.oneCell') = true) :
    (Instr.storeAt ty (.pointer (some ⟨B, 0, none⟩)) (.agg cells)).run Tryz.prog w = .ok () (w.setCells B 0 cells.toList) :=
  run_storeAt_mid w B 0 ty cells (hl ▸ h.there) hi h1

/-- Another box is filled. -/
theorem V.apart {w : World} {B B' : Nat} {zs : List Value} (h : V w B' zs) (hne : B' ≠ B) (o : Nat) (vs : List Value) : V (w.setCells B o vs) B' zs := by
  induction vs generalizing w o with
  | nil => exact h
  | cons v vs ih => exact ih (h.other (p := ⟨B, o, none⟩) hne.symm v) (o + 1)

/-- A result variable that is a box: what is read of it. -/
theorem results_row {fn : Func} {t : Tmp} {ty : TypeId} (h : fn.results = #[.cell t ty]) (tmps : Array Value) (w : World) (B : Nat) (vs : List Value) (d : TypeDesc) (ht : tmps.getD t undef = .pointer (some ⟨B, 0, none⟩)) (hv : V w B vs)
    (hu : Tryz.prog.underlying ty = some d) (hd : d.isRow = true) (hi : (Tryz.prog.info? ty).map (·.size) = some vs.length) : (results fn tmps).run Tryz.prog w = .ok (.agg vs.toArray) w := by
  have hl := run_loadVar_mid (P := Tryz.prog) w B 0 ty vs d (fun j v hj => by rw [Nat.zero_add, hv.2.1 j (List.getElem?_eq_some_iff.1 hj).1]; exact hj) hu hd hi
  have ht2 : tmps[t]?.getD undef = Value.pointer (some ⟨B, 0, none⟩) := by simpa using ht
  simp [results, h, ht2, asAddr, hl]

theorem belowCells {b : Nat} {a w : World} (h : Below b a w) {B : Nat} (hB : b ≤ B) (o : Nat) (vs : List Value) : Below b a (w.setCells B o vs) := by
  induction vs generalizing w o with
  | nil => exact h
  | cons v vs ih => exact ih (h.setCell (p := ⟨B, o, none⟩) hB v) (o + 1)

/-- A store at one stroke, the world behind it by a name. -/
theorem wpList_stroke {ops : Array Oper} {rest : List Oper} {op : Oper} {a : Act} {w : World} {Q : Exit → Act → World → Prop} (w6 : World) (hgd : op.guard = none) (ty : TypeId) (x y : Operand) (ho : op.op = .store ty x y)
    (b o : Nat) (cells : Array Value) (hx : a.eval x = .pointer (some ⟨b, o, none⟩)) (hy : a.eval y = .agg cells)
    (ht : w.there b o cells.size) (hi : (Tryz.prog.info? ty).map (·.size) = some cells.size) (h1 : cells.all (·.oneCell') = true) (hw : w.setCells b o cells.toList = w6)
    (h : wpList Tryz.prog ops Q rest (a.put op.dst undef) w6) : wpList Tryz.prog ops Q (op :: rest) a w :=
  wpList_store_mid hgd ty x y ho b o cells hx hy ht hi h1 (hw ▸ h)

end Go.Proofs.YtfldgeokigcokaaGreat
