/- Boxes filled whole. -/
import Derived.Test.YthjaehcfakjemaaDoorProg
import Derived.Test.YthjaehcfakjemaaDoorVar
import Derived.Deep.MidRow
namespace Go.Proofs.YthjaehcfakjemaaDoor
open Go.RowKit

theorem V.fill1 {w : World} {B : Nat} {z0 : Value} (h : V w B [z0]) (u0 : Value) :
    V (w.setCell ⟨B, 0, none⟩ u0) B [u0] := by
  have h7 := (h.set (i := 0) (by simp) u0)
  simpa only [List.set_cons_zero, List.set_cons_succ] using h7

theorem V.fill2 {w : World} {B : Nat} {z0 z1 : Value} (h : V w B [z0, z1]) (u0 u1 : Value) :
    V ((w.setCell ⟨B, 0, none⟩ u0).setCell ⟨B, 1, none⟩ u1) B [u0, u1] := by
  have h7 := ((h.set (i := 0) (by simp) u0).set (i := 1) (by simp) u1)
  simpa only [List.set_cons_zero, List.set_cons_succ] using h7

theorem V.fill3 {w : World} {B : Nat} {z0 z1 z2 : Value} (h : V w B [z0, z1, z2]) (u0 u1 u2 : Value) :
    V (((w.setCell ⟨B, 0, none⟩ u0).setCell ⟨B, 1, none⟩ u1).setCell ⟨B, 2, none⟩ u2) B [u0, u1, u2] := by
  have h7 := (((h.set (i := 0) (by simp) u0).set (i := 1) (by simp) u1).set (i := 2) (by simp) u2)
  simpa only [List.set_cons_zero, List.set_cons_succ] using h7

theorem V.fill4 {w : World} {B : Nat} {z0 z1 z2 z3 : Value} (h : V w B [z0, z1, z2, z3]) (u0 u1 u2 u3 : Value) :
    V ((((w.setCell ⟨B, 0, none⟩ u0).setCell ⟨B, 1, none⟩ u1).setCell ⟨B, 2, none⟩ u2).setCell ⟨B, 3, none⟩ u3) B [u0, u1, u2, u3] := by
  have h7 := ((((h.set (i := 0) (by simp) u0).set (i := 1) (by simp) u1).set (i := 2) (by simp) u2).set (i := 3) (by simp) u3)
  simpa only [List.set_cons_zero, List.set_cons_succ] using h7

theorem V.fill5 {w : World} {B : Nat} {z0 z1 z2 z3 z4 : Value} (h : V w B [z0, z1, z2, z3, z4]) (u0 u1 u2 u3 u4 : Value) :
    V (((((w.setCell ⟨B, 0, none⟩ u0).setCell ⟨B, 1, none⟩ u1).setCell ⟨B, 2, none⟩ u2).setCell ⟨B, 3, none⟩ u3).setCell ⟨B, 4, none⟩ u4) B [u0, u1, u2, u3, u4] := by
  have h7 := (((((h.set (i := 0) (by simp) u0).set (i := 1) (by simp) u1).set (i := 2) (by simp) u2).set (i := 3) (by simp) u3).set (i := 4) (by simp) u4)
  simpa only [List.set_cons_zero, List.set_cons_succ] using h7

theorem V.fill6 {w : World} {B : Nat} {z0 z1 z2 z3 z4 z5 : Value} (h : V w B [z0, z1, z2, z3, z4, z5]) (u0 u1 u2 u3 u4 u5 : Value) :
    V ((((((w.setCell ⟨B, 0, none⟩ u0).setCell ⟨B, 1, none⟩ u1).setCell ⟨B, 2, none⟩ u2).setCell ⟨B, 3, none⟩ u3).setCell ⟨B, 4, none⟩ u4).setCell ⟨B, 5, none⟩ u5) B [u0, u1, u2, u3, u4, u5] := by
  have h7 := ((((((h.set (i := 0) (by simp) u0).set (i := 1) (by simp) u1).set (i := 2) (by simp) u2).set (i := 3) (by simp) u3).set (i := 4) (by simp) u4).set (i := 5) (by simp) u5)
  simpa only [List.set_cons_zero, List.set_cons_succ] using h7

theorem V.fill11 {w : World} {B : Nat} {z0 z1 z2 z3 z4 z5 z6 z7 z8 z9 z10 : Value} (h : V w B [z0, z1, z2, z3, z4, z5, z6, z7, z8, z9, z10]) (u0 u1 u2 u3 u4 u5 u6 u7 u8 u9 u10 : Value) :
    V (((((((((((w.setCell ⟨B, 0, none⟩ u0).setCell ⟨B, 1, none⟩ u1).setCell ⟨B, 2, none⟩ u2).setCell ⟨B, 3, none⟩ u3).setCell ⟨B, 4, none⟩ u4).setCell ⟨B, 5, none⟩ u5).setCell ⟨B, 6, none⟩ u6).setCell ⟨B, 7, none⟩ u7).setCell ⟨B, 8, none⟩ u8).setCell ⟨B, 9, none⟩ u9).setCell ⟨B, 10, none⟩ u10) B [u0, u1, u2, u3, u4, u5, u6, u7, u8, u9, u10] := by
  have h7 := (((((((((((h.set (i := 0) (by simp) u0).set (i := 1) (by simp) u1).set (i := 2) (by simp) u2).set (i := 3) (by simp) u3).set (i := 4) (by simp) u4).set (i := 5) (by simp) u5).set (i := 6) (by simp) u6).set (i := 7) (by simp) u7).set (i := 8) (by simp) u8).set (i := 9) (by simp) u9).set (i := 10) (by simp) u10)
  simpa only [List.set_cons_zero, List.set_cons_succ] using h7

theorem V.fill12 {w : World} {B : Nat} {z0 z1 z2 z3 z4 z5 z6 z7 z8 z9 z10 z11 : Value} (h : V w B [z0, z1, z2, z3, z4, z5, z6, z7, z8, z9, z10, z11]) (u0 u1 u2 u3 u4 u5 u6 u7 u8 u9 u10 u11 : Value) :
    V ((((((((((((w.setCell ⟨B, 0, none⟩ u0).setCell ⟨B, 1, none⟩ u1).setCell ⟨B, 2, none⟩ u2).setCell ⟨B, 3, none⟩ u3).setCell ⟨B, 4, none⟩ u4).setCell ⟨B, 5, none⟩ u5).setCell ⟨B, 6, none⟩ u6).setCell ⟨B, 7, none⟩ u7).setCell ⟨B, 8, none⟩ u8).setCell ⟨B, 9, none⟩ u9).setCell ⟨B, 10, none⟩ u10).setCell ⟨B, 11, none⟩ u11) B [u0, u1, u2, u3, u4, u5, u6, u7, u8, u9, u10, u11] := by
  have h7 := ((((((((((((h.set (i := 0) (by simp) u0).set (i := 1) (by simp) u1).set (i := 2) (by simp) u2).set (i := 3) (by simp) u3).set (i := 4) (by simp) u4).set (i := 5) (by simp) u5).set (i := 6) (by simp) u6).set (i := 7) (by simp) u7).set (i := 8) (by simp) u8).set (i := 9) (by simp) u9).set (i := 10) (by simp) u10).set (i := 11) (by simp) u11)
  simpa only [List.set_cons_zero, List.set_cons_succ] using h7

theorem V.fill13 {w : World} {B : Nat} {z0 z1 z2 z3 z4 z5 z6 z7 z8 z9 z10 z11 z12 : Value} (h : V w B [z0, z1, z2, z3, z4, z5, z6, z7, z8, z9, z10, z11, z12]) (u0 u1 u2 u3 u4 u5 u6 u7 u8 u9 u10 u11 u12 : Value) :
    V (((((((((((((w.setCell ⟨B, 0, none⟩ u0).setCell ⟨B, 1, none⟩ u1).setCell ⟨B, 2, none⟩ u2).setCell ⟨B, 3, none⟩ u3).setCell ⟨B, 4, none⟩ u4).setCell ⟨B, 5, none⟩ u5).setCell ⟨B, 6, none⟩ u6).setCell ⟨B, 7, none⟩ u7).setCell ⟨B, 8, none⟩ u8).setCell ⟨B, 9, none⟩ u9).setCell ⟨B, 10, none⟩ u10).setCell ⟨B, 11, none⟩ u11).setCell ⟨B, 12, none⟩ u12) B [u0, u1, u2, u3, u4, u5, u6, u7, u8, u9, u10, u11, u12] := by
  have h7 := (((((((((((((h.set (i := 0) (by simp) u0).set (i := 1) (by simp) u1).set (i := 2) (by simp) u2).set (i := 3) (by simp) u3).set (i := 4) (by simp) u4).set (i := 5) (by simp) u5).set (i := 6) (by simp) u6).set (i := 7) (by simp) u7).set (i := 8) (by simp) u8).set (i := 9) (by simp) u9).set (i := 10) (by simp) u10).set (i := 11) (by simp) u11).set (i := 12) (by simp) u12)
  simpa only [List.set_cons_zero, List.set_cons_succ] using h7

theorem V.fill14 {w : World} {B : Nat} {z0 z1 z2 z3 z4 z5 z6 z7 z8 z9 z10 z11 z12 z13 : Value} (h : V w B [z0, z1, z2, z3, z4, z5, z6, z7, z8, z9, z10, z11, z12, z13]) (u0 u1 u2 u3 u4 u5 u6 u7 u8 u9 u10 u11 u12 u13 : Value) :
    V ((((((((((((((w.setCell ⟨B, 0, none⟩ u0).setCell ⟨B, 1, none⟩ u1).setCell ⟨B, 2, none⟩ u2).setCell ⟨B, 3, none⟩ u3).setCell ⟨B, 4, none⟩ u4).setCell ⟨B, 5, none⟩ u5).setCell ⟨B, 6, none⟩ u6).setCell ⟨B, 7, none⟩ u7).setCell ⟨B, 8, none⟩ u8).setCell ⟨B, 9, none⟩ u9).setCell ⟨B, 10, none⟩ u10).setCell ⟨B, 11, none⟩ u11).setCell ⟨B, 12, none⟩ u12).setCell ⟨B, 13, none⟩ u13) B [u0, u1, u2, u3, u4, u5, u6, u7, u8, u9, u10, u11, u12, u13] := by
  have h7 := ((((((((((((((h.set (i := 0) (by simp) u0).set (i := 1) (by simp) u1).set (i := 2) (by simp) u2).set (i := 3) (by simp) u3).set (i := 4) (by simp) u4).set (i := 5) (by simp) u5).set (i := 6) (by simp) u6).set (i := 7) (by simp) u7).set (i := 8) (by simp) u8).set (i := 9) (by simp) u9).set (i := 10) (by simp) u10).set (i := 11) (by simp) u11).set (i := 12) (by simp) u12).set (i := 13) (by simp) u13)
  simpa only [List.set_cons_zero, List.set_cons_succ] using h7

theorem V.fill20 {w : World} {B : Nat} {z0 z1 z2 z3 z4 z5 z6 z7 z8 z9 z10 z11 z12 z13 z14 z15 z16 z17 z18 z19 : Value} (h : V w B [z0, z1, z2, z3, z4, z5, z6, z7, z8, z9, z10, z11, z12, z13, z14, z15, z16, z17, z18, z19]) (u0 u1 u2 u3 u4 u5 u6 u7 u8 u9 u10 u11 u12 u13 u14 u15 u16 u17 u18 u19 : Value) :
    V ((((((((((((((((((((w.setCell ⟨B, 0, none⟩ u0).setCell ⟨B, 1, none⟩ u1).setCell ⟨B, 2, none⟩ u2).setCell ⟨B, 3, none⟩ u3).setCell ⟨B, 4, none⟩ u4).setCell ⟨B, 5, none⟩ u5).setCell ⟨B, 6, none⟩ u6).setCell ⟨B, 7, none⟩ u7).setCell ⟨B, 8, none⟩ u8).setCell ⟨B, 9, none⟩ u9).setCell ⟨B, 10, none⟩ u10).setCell ⟨B, 11, none⟩ u11).setCell ⟨B, 12, none⟩ u12).setCell ⟨B, 13, none⟩ u13).setCell ⟨B, 14, none⟩ u14).setCell ⟨B, 15, none⟩ u15).setCell ⟨B, 16, none⟩ u16).setCell ⟨B, 17, none⟩ u17).setCell ⟨B, 18, none⟩ u18).setCell ⟨B, 19, none⟩ u19) B [u0, u1, u2, u3, u4, u5, u6, u7, u8, u9, u10, u11, u12, u13, u14, u15, u16, u17, u18, u19] := by
  have h7 := ((((((((((((((((((((h.set (i := 0) (by simp) u0).set (i := 1) (by simp) u1).set (i := 2) (by simp) u2).set (i := 3) (by simp) u3).set (i := 4) (by simp) u4).set (i := 5) (by simp) u5).set (i := 6) (by simp) u6).set (i := 7) (by simp) u7).set (i := 8) (by simp) u8).set (i := 9) (by simp) u9).set (i := 10) (by simp) u10).set (i := 11) (by simp) u11).set (i := 12) (by simp) u12).set (i := 13) (by simp) u13).set (i := 14) (by simp) u14).set (i := 15) (by simp) u15).set (i := 16) (by simp) u16).set (i := 17) (by simp) u17).set (i := 18) (by simp) u18).set (i := 19) (by simp) u19)
  simpa only [List.set_cons_zero, List.set_cons_succ] using h7

theorem V.there {w : World} {B : Nat} {zs : List Value} (h : V w B zs) : w.there B 0 zs.length := fun j hj => by
  refine ⟨?_, h.2.2 _⟩
  rw [Nat.zero_add, h.2.1 j hj, List.getElem?_eq_getElem hj]; rfl

theorem sizeCells (w : World) (B o : Nat) (vs : List Value) : (w.setCells B o vs).heap.size = w.heap.size := by
  induction vs generalizing w o with
  | nil => rfl
  | cons v vs ih => rw [World.setCells, ih, World.size_setCell]

/-- A box is filled whole, at one stroke. -/
theorem V.filled {w : World} {B : Nat} {zs : List Value} (h : V w B zs) (vs : List Value) (hl : vs.length = zs.length) : V (w.setCells B 0 vs) B vs := by
  have ht : w.there B 0 vs.length := hl ▸ h.there
  refine ⟨by rw [sizeCells]; exact h.1, fun i hi => ?_, fun o => ?_⟩
  · have h1 := World.rangeAt_setCells_same w B 0 vs ht i (vs[i]'hi) (List.getElem?_eq_getElem hi)
    rw [Nat.zero_add] at h1
    rw [h1, List.getElem?_eq_getElem hi]
  · rw [World.frozen?_setCells]; exact h.2.2 o

/-- The fact by which the walk stores at one stroke. -/
theorem V.stroke {w : World} {B : Nat} {zs : List Value} (h : V w B zs) (ty : TypeId) (cells : Array Value) (hl : cells.size = zs.length) (hi : (Tryd.prog.info? ty).map (·.size) = some cells.size) (h1 : cells.all (·.oneCell') = true) :
    (Instr.storeAt ty (.pointer (some ⟨B, 0, none⟩)) (.agg cells)).run Tryd.prog w = .ok () (w.setCells B 0 cells.toList) :=
  run_storeAt_mid w B 0 ty cells (hl ▸ h.there) hi h1

/-- Another box is filled. -/
theorem V.apart {w : World} {B B' : Nat} {zs : List Value} (h : V w B' zs) (hne : B' ≠ B) (o : Nat) (vs : List Value) : V (w.setCells B o vs) B' zs := by
  induction vs generalizing w o with
  | nil => exact h
  | cons v vs ih => exact ih (h.other (p := ⟨B, o, none⟩) hne.symm v) (o + 1)

/-- A result variable that is a box: what is read of it. -/
theorem results_row {fn : Func} {t : Tmp} {ty : TypeId} (h : fn.results = #[.cell t ty]) (tmps : Array Value) (w : World) (B : Nat) (vs : List Value) (d : TypeDesc) (ht : tmps.getD t undef = .pointer (some ⟨B, 0, none⟩)) (hv : V w B vs)
    (hu : Tryd.prog.underlying ty = some d) (hd : d.isRow = true) (hi : (Tryd.prog.info? ty).map (·.size) = some vs.length) : (results fn tmps).run Tryd.prog w = .ok (.agg vs.toArray) w := by
  have hl := run_loadVar_mid (P := Tryd.prog) w B 0 ty vs d (fun j v hj => by rw [Nat.zero_add, hv.2.1 j (List.getElem?_eq_some_iff.1 hj).1]; exact hj) hu hd hi
  have ht2 : tmps[t]?.getD undef = Value.pointer (some ⟨B, 0, none⟩) := by simpa using ht
  simp [results, h, ht2, asAddr, hl]

theorem belowCells {b : Nat} {a w : World} (h : Below b a w) {B : Nat} (hB : b ≤ B) (o : Nat) (vs : List Value) : Below b a (w.setCells B o vs) := by
  induction vs generalizing w o with
  | nil => exact h
  | cons v vs ih => exact ih (h.setCell (p := ⟨B, o, none⟩) hB v) (o + 1)

/-- A store at one stroke, the world behind it by a name. -/
theorem wpList_stroke {ops : Array Oper} {rest : List Oper} {op : Oper} {a : Act} {w : World} {Q : Exit → Act → World → Prop} (w6 : World) (hgd : op.guard = none) (ty : TypeId) (x y : Operand) (ho : op.op = .store ty x y)
    (b o : Nat) (cells : Array Value) (hx : a.eval x = .pointer (some ⟨b, o, none⟩)) (hy : a.eval y = .agg cells)
    (ht : w.there b o cells.size) (hi : (Tryd.prog.info? ty).map (·.size) = some cells.size) (h1 : cells.all (·.oneCell') = true) (hw : w.setCells b o cells.toList = w6)
    (h : wpList Tryd.prog ops Q rest (a.put op.dst undef) w6) : wpList Tryd.prog ops Q (op :: rest) a w :=
  wpList_store_mid hgd ty x y ho b o cells hx hy ht hi h1 (hw ▸ h)

end Go.Proofs.YthjaehcfakjemaaDoor
