/- New cells; what stands beside a row that grows. -/
import Derived.Test.YthjaehcfakjemaaDoorVar
namespace Go.Proofs.YthjaehcfakjemaaDoor
open Go.RowKit

theorem newCells (w : World) (e : TypeId) (vs : List Value) : ∀ j u, vs[j]? = some u → (w.alloc (.cells vs.toArray e)).cell? ((⟨w.heap.size, 0, none⟩ : Addr).add j) = some u := by
  intro j u h
  have hj : j < vs.length := by
    rcases Nat.lt_or_ge j vs.length with h1 | h1
    · exact h1
    · rw [List.getElem?_eq_none h1] at h; cases h
  rw [Addr.add_lit, Nat.zero_add, ← h]
  exact (V.new w vs e).2.1 j hj

theorem V.grownR {w w' : World} {B : Nat} {row : Option Nat} {vs : List Value} (h : V w B vs) (hg : w.grownBy w' row) (hne : row ≠ some B) : V w' B vs := by
  have hb : ∀ i, w'.cell? ⟨B, i, none⟩ = w.cell? ⟨B, i, none⟩ := fun i => World.cell?_of_block (hg.block B h.1 (fun e => hne e.symm))
  have hf : ∀ i, w'.frozen? ⟨B, i, none⟩ = w.frozen? ⟨B, i, none⟩ := fun i => World.frozen?_of_block (hg.block B h.1 (fun e => hne e.symm))
  exact ⟨Nat.lt_of_lt_of_le h.1 hg.size, fun i hi => (hb i).trans (h.2.1 i hi), fun o => (hf o).trans (h.2.2 o)⟩

theorem ne_put {c c4 : Option Addr} {B H : Nat} {w' : World} (hne : ∀ b : Addr, c = some b → b.block ≠ B) (hB : B < H) (h : ∃ g, c4 = some ⟨g, 0, none⟩ ∧ ((∃ a, c = some a ∧ a.block = g) ∨ g = H) ∧ g < w'.heap.size) : ∀ b : Addr, c4 = some b → b.block ≠ B := by
  intro b hb
  obtain ⟨g, rfl, h1, _⟩ := h
  simp only [Option.some.injEq] at hb
  subst hb
  rcases h1 with ⟨a, h1, h2⟩ | h1
  · exact fun e => hne a h1 (h2.trans e)
  · intro e; simp only at e; omega

end Go.Proofs.YthjaehcfakjemaaDoor
