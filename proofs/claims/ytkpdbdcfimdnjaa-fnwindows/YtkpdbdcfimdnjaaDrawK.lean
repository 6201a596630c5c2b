/- The draws of packets, by contracts. -/
import Derived.Test.YtkpdbdcfimdnjaaVar
import Derived.Test.YtkpdbdcfimdnjaaPkt
import Derived.Test.YtkpdbdcfimdnjaaDrawS
namespace Go.Proofs.Ytkpdbdcfimdnjaa
open Go.RowKit

theorem V.grownB {w w' : World} {B B' : Nat} {vs : List Value} (h : V w B' vs) (hg : w.grownBy w' (some B)) (hne : B' ≠ B) : V w' B' vs := by
  have hb : ∀ i, w'.cell? ⟨B', i, none⟩ = w.cell? ⟨B', i, none⟩ := fun i => World.cell?_of_block (hg.block B' h.1 (by intro e; simp at e; exact hne e))
  have hf : ∀ i, w'.frozen? ⟨B', i, none⟩ = w.frozen? ⟨B', i, none⟩ := fun i => World.frozen?_of_block (hg.block B' h.1 (by intro e; simp at e; exact hne e))
  exact ⟨Nat.lt_of_lt_of_le h.1 hg.size, fun i hi => (hb i).trans (h.2.1 i hi), fun o => (hf o).trans (h.2.2 o)⟩

theorem grownSet (w : World) (p : Addr) (v : Value) : w.grownBy (w.setCell p v) (some p.block) :=
  ⟨rfl, rfl, rfl, by simp [World.setCell], fun k _ hk => Below.heap_setCell _ _ _ _ (fun e => hk (by rw [e]))⟩

theorem Src.other {w : World} {B : Nat} {a : Option Addr} {n ca : Nat} {zs : List Int} {t : Nat} {p : Addr} (h : Src w B a n ca zs t) (hp : B < p.block) (v : Value) : Src (w.setCell p v) B a n ca zs t :=
  h.grownAway (grownSet w p v) (by intro k hk; simp at hk; omega)

theorem grownSet' {w w' : World} {row : Option Nat} (h : w.grownBy w' row) {p : Addr} (hp : w.heap.size ≤ p.block) (v : Value) : w.grownBy (w'.setCell p v) row :=
  ⟨h.os, h.tape, h.output, by simpa [World.setCell] using h.size, fun k hk hr => (Below.heap_setCell _ _ _ _ (by omega)).trans (h.block k hk hr)⟩

/-- A drawn packet is right. -/
def rightP (f t r l x y : Int) (m : Nat) : Prop := (0 ≤ f ∧ f ≤ 4294967295) ∧ (0 ≤ t ∧ t ≤ 4294967295) ∧ (1 ≤ r ∧ r ≤ 255) ∧ (1 ≤ l ∧ l ≤ 255) ∧ (0 ≤ x ∧ x ≤ 65535) ∧ (0 ≤ y ∧ y ≤ 65535) ∧ (portsP r = false → x = 0 ∧ y = 0) ∧ m ≤ 8

end Go.Proofs.Ytkpdbdcfimdnjaa
