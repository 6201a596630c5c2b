/- The law's own helpers over packets and their results, by contracts. -/
import Derived.Test.YthjaehcfakjemaaPkt
namespace Go.Proofs.Ythjaehcfakjemaa
open Go.RowKit

/-- The cells of two packets that lie in variables of the call's own. -/
def Held2 (B0 B1 : Nat) (f t r l x y s f' t' r' l' x' y' s' : Value) (w : World) : Prop :=
  w.cell? ⟨B0, 0, none⟩ = some f ∧ w.cell? ⟨B0, 1, none⟩ = some t ∧ w.cell? ⟨B0, 2, none⟩ = some r ∧ w.cell? ⟨B0, 3, none⟩ = some l ∧ w.cell? ⟨B0, 4, none⟩ = some x ∧ w.cell? ⟨B0, 5, none⟩ = some y ∧ w.cell? ⟨B0, 6, none⟩ = some s ∧
  w.cell? ⟨B1, 0, none⟩ = some f' ∧ w.cell? ⟨B1, 1, none⟩ = some t' ∧ w.cell? ⟨B1, 2, none⟩ = some r' ∧ w.cell? ⟨B1, 3, none⟩ = some l' ∧ w.cell? ⟨B1, 4, none⟩ = some x' ∧ w.cell? ⟨B1, 5, none⟩ = some y' ∧ w.cell? ⟨B1, 6, none⟩ = some s'

theorem held2 {w w' : World} {B0 B1 : Nat} {f t r l x y s f' t' r' l' x' y' s' : Value} (h0 : At w B0 [f, t, r, l, x, y, s]) (h1 : At w B1 [f', t', r', l', x', y', s']) (b : Below w.heap.size w w') : Held2 B0 B1 f t r l x y s f' t' r' l' x' y' s' w' := by
  obtain ⟨f0, f1, f2, f3, f4, f5, f6, _⟩ := (h0.kept b).seven
  obtain ⟨g0, g1, g2, g3, g4, g5, g6, _⟩ := (h1.kept b).seven
  exact ⟨f0, f1, f2, f3, f4, f5, f6, g0, g1, g2, g3, g4, g5, g6⟩

theorem At.newR (w : World) (k f t r l x y s : Value) (e : TypeId) : At (w.alloc (.cells #[k, f, t, r, l, x, y, s] e)) w.heap.size [k, f, t, r, l, x, y, s] := by
  refine ⟨by simp, fun i v hi => ?_⟩
  rw [World.cell?_alloc_at _ _ _ _ rfl]
  match i, hi with
  | 0, hi => simpa using hi
  | 1, hi => simpa using hi
  | 2, hi => simpa using hi
  | 3, hi => simpa using hi
  | 4, hi => simpa using hi
  | 5, hi => simpa using hi
  | 6, hi => simpa using hi
  | 7, hi => simpa using hi

theorem At.eight {w : World} {B : Nat} {k f t r l x y s : Value} (h : At w B [k, f, t, r, l, x, y, s]) : w.cell? ⟨B, 0, none⟩ = some k ∧ w.cell? ⟨B, 1, none⟩ = some f ∧ w.cell? ⟨B, 2, none⟩ = some t ∧ w.cell? ⟨B, 3, none⟩ = some r ∧ w.cell? ⟨B, 4, none⟩ = some l ∧ w.cell? ⟨B, 5, none⟩ = some x ∧ w.cell? ⟨B, 6, none⟩ = some y ∧ w.cell? ⟨B, 7, none⟩ = some s ∧ B < w.heap.size :=
  ⟨h.2 0 k rfl, h.2 1 f rfl, h.2 2 t rfl, h.2 3 r rfl, h.2 4 l rfl, h.2 5 x rfl, h.2 6 y rfl, h.2 7 s rfl, h.1⟩

theorem At.set {w : World} {B i : Nat} {vs : List Value} (h : At w B vs) (hi : i < vs.length) (v : Value) : At (w.setCell ⟨B, i, none⟩ v) B (vs.set i v) := by
  refine ⟨by simpa [World.setCell] using h.1, fun j u hj => ?_⟩
  by_cases hij : i = j
  · subst hij
    rw [List.getElem?_set_self hi] at hj
    simp only [Option.some.injEq] at hj
    subst hj
    exact World.cell?_setCell_same w _ _ (h.2 i (vs[i]) (List.getElem?_eq_getElem hi))
  · rw [List.getElem?_set_ne hij] at hj
    rw [World.cell?_setCell_other w _ _ _ (by simp)]
    exact h.2 j u hj

theorem At.other {w : World} {B : Nat} {vs : List Value} {p : Addr} (h : At w B vs) (hp : p.block ≠ B) (v : Value) : At (w.setCell p v) B vs := by
  refine ⟨by simpa [World.setCell] using h.1, fun j u hj => ?_⟩
  rw [World.cell?_setCell_other w _ _ _ (by intro e; exact hp (by rw [e]))]
  exact h.2 j u hj

/-- A variable that is not frozen. -/
def Fz (w : World) (B : Nat) : Prop := ∀ o, w.frozen? ⟨B, o, none⟩ = false

theorem Fz.new (w : World) (vs : Array Value) (e : TypeId) : Fz (w.alloc (.cells vs e)) w.heap.size := by
  intro o; simp [go_sem]

theorem Fz.kept {w w' : World} {B : Nat} (h : Fz w B) (hB : B < w.heap.size) (hb : Below w.heap.size w w') : Fz w' B := fun o =>
  (hb.frozen (p := ⟨B, o, none⟩) hB).trans (h o)

theorem Fz.set {w : World} {B : Nat} (h : Fz w B) (p : Addr) (v : Value) : Fz (w.setCell p v) B := by
  intro o; simpa [go_sem] using h o

end Go.Proofs.Ythjaehcfakjemaa
