/- A variable of the call's own: what it holds, and that it is not frozen; for variables of any size. -/
import Derived.Test.YthjaehcfakjemaaDoorHeldR
namespace Go.Proofs.YthjaehcfakjemaaDoor
open Go.RowKit

/-- A variable at block B holds the cells 'vs' and is not frozen. -/
def V (w : World) (B : Nat) (vs : List Value) : Prop := B < w.heap.size ∧ (∀ i, i < vs.length → w.cell? ⟨B, i, none⟩ = vs[i]?) ∧ ∀ o, w.frozen? ⟨B, o, none⟩ = false

theorem V.open {w : World} {B : Nat} {vs : List Value} (h : V w B vs) : B < w.heap.size ∧ (∀ i, i < vs.length → w.cell? ⟨B, i, none⟩ = vs[i]?) ∧ ∀ o, w.frozen? ⟨B, o, none⟩ = false := h

theorem V.new (w : World) (vs : List Value) (e : TypeId) : V (w.alloc (.cells vs.toArray e)) w.heap.size vs := by
  refine ⟨by simp, fun i hi => ?_, fun o => by simp [go_sem]⟩
  rw [World.cell?_alloc_at _ _ _ _ rfl]
  simp

theorem V.newAt (w : World) (vs : List Value) (e : TypeId) (B : Nat) (h : B = w.heap.size) : V (w.alloc (.cells vs.toArray e)) B vs := by
  subst h; exact V.new w vs e

theorem V.kept {w w' : World} {B : Nat} {vs : List Value} (h : V w B vs) (hb : Below w.heap.size w w') : V w' B vs :=
  ⟨Nat.lt_of_lt_of_le h.1 hb.size, fun i hi => (hb.cell (p := ⟨B, i, none⟩) h.1).trans (h.2.1 i hi), fun o => (hb.frozen (p := ⟨B, o, none⟩) h.1).trans (h.2.2 o)⟩

theorem V.set {w : World} {B i : Nat} {vs : List Value} (h : V w B vs) (hi : i < vs.length) (v : Value) : V (w.setCell ⟨B, i, none⟩ v) B (vs.set i v) := by
  refine ⟨by simpa [World.setCell] using h.1, fun j hj => ?_, fun o => by have := h.2.2 o; simpa [go_sem] using this⟩
  rw [List.length_set] at hj
  by_cases hij : i = j
  · subst hij
    have h1 := h.2.1 i hi
    rw [List.getElem?_eq_getElem hi] at h1
    rw [List.getElem?_set_self hi]
    exact World.cell?_setCell_same w _ _ h1
  · rw [List.getElem?_set_ne hij]
    rw [World.cell?_setCell_other w _ _ _ (by simp)]
    · exact h.2.1 j hj
    all_goals simp [hij]

theorem V.other {w : World} {B : Nat} {vs : List Value} {p : Addr} (h : V w B vs) (hp : p.block ≠ B) (v : Value) : V (w.setCell p v) B vs := by
  refine ⟨by simpa [World.setCell] using h.1, fun j hj => ?_, fun o => by have := h.2.2 o; simpa [go_sem] using this⟩
  rw [World.cell?_setCell_other w _ _ _ (by intro e; exact hp (by rw [e]))]
  exact h.2.1 j hj

theorem V.fill7 {w : World} {B : Nat} {z0 z1 z2 z3 z4 z5 z6 : Value} (h : V w B [z0, z1, z2, z3, z4, z5, z6]) (a b c d e f g : Value) :
    V (((((((w.setCell ⟨B, 0, none⟩ a).setCell ⟨B, 1, none⟩ b).setCell ⟨B, 2, none⟩ c).setCell ⟨B, 3, none⟩ d).setCell ⟨B, 4, none⟩ e).setCell ⟨B, 5, none⟩ f).setCell ⟨B, 6, none⟩ g) B [a, b, c, d, e, f, g] := by
  have h7 := ((((((h.set (i := 0) (by simp) a).set (i := 1) (by simp) b).set (i := 2) (by simp) c).set (i := 3) (by simp) d).set (i := 4) (by simp) e).set (i := 5) (by simp) f).set (i := 6) (by simp) g
  simpa only [List.set_cons_zero, List.set_cons_succ] using h7

theorem V.keptB {w w' : World} {B base : Nat} {vs : List Value} (h : V w B vs) (hB : B < base) (hb : Below base w w') : V w' B vs :=
  ⟨Nat.lt_of_lt_of_le h.1 hb.size, fun i hi => (hb.cell (p := ⟨B, i, none⟩) hB).trans (h.2.1 i hi), fun o => (hb.frozen (p := ⟨B, o, none⟩) hB).trans (h.2.2 o)⟩

theorem Own.alloc {k : IntKind} {e : TypeId} {w : World} {base : Nat} {a : Option Addr} {cap : Nat} {zs : List Int} (h : Own k e w base a cap zs) (o : Obj) : Own k e (w.alloc o) base a cap zs := h.kept (belowA w o)

theorem Rd.lit (w : World) (e : TypeId) (zs : List Int) : Rd .u8 (w.alloc (.cells (zs.map (Value.int .u8)).toArray e)) (some ⟨w.heap.size, 0, none⟩) zs := by
  refine .inr ⟨_, _, rfl, fun i hi => ?_⟩
  rw [World.cell?_alloc_at _ _ _ _ rfl]
  simp [List.getD, hi]

theorem Own.lit (w : World) (e : TypeId) (zs : List Int) (hm : zs.length ≤ maxLen) : Own .u8 e (w.alloc (.cells (zs.map (Value.int .u8)).toArray e)) w.heap.size (some ⟨w.heap.size, 0, none⟩) zs.length zs := by
  have h := World.ownsRow_lit (base := w.heap.size) (e := e) (size := 1) w (zs.map (Value.int .u8)).toArray zs.length (Nat.le_refl _) hm (by simp)
  simpa [Own] using h

end Go.Proofs.YthjaehcfakjemaaDoor
