/- Terms that came in, opened. -/
import Derived.Test.YthjaehcfakjemaaDoorTmC
import Derived.Deep.Slices
import Derived.OpenShut
import Derived.ProofKit
import Derived.ChangeOld
namespace Go.Proofs.YthjaehcfakjemaaDoor
open Go.RowKit

open Go.ChangeShapes Go.WideShapes Go.ChangeAt

theorem tget_of {α : Type} {xs : List α} {n i : Nat} (h : xs.length = n) (hi : i < n) : ∃ x, xs[i]? = some x := ⟨xs[i]'(by omega), List.getElem?_eq_getElem _⟩

set_option maxRecDepth 20000 in
theorem open_term_cells {H : Type} {enc : TypeId × Value → H} {W : World} {base : Nat} {spare : Nat → Bool} {held : Bool} {m : Nat} {l : List Value} {y : DataW H × List MemPlace}
    (hf : DataW.trod enc Tryd.prog W base spare held m 72 l = some y) : ∃ x : T4, l = rowTerm x ∧ okT x := by
  obtain ⟨xs, n, rfl, _, hl, hx, hfs⟩ := DataW.trod_struct Tryd.underlying72 hf
  have e4 : Tryd.prog.cellsOf 72 = 4 := by kernel_rfl
  have e1 : Tryd.prog.cellsOf 2 = 1 := by kernel_rfl
  rw [e4] at hl
  match l, hl with
  | [v0, v1, v2, v3], _ =>
    have hx4 : xs.length = 4 := hx
    obtain ⟨x0, hx0⟩ := tget_of hx4 (by decide : 0 < 4)
    obtain ⟨x1, hx1⟩ := tget_of hx4 (by decide : 1 < 4)
    obtain ⟨x2, hx2⟩ := tget_of hx4 (by decide : 2 < 4)
    obtain ⟨x3, hx3⟩ := tget_of hx4 (by decide : 3 < 4)
    have h0 : DataW.trod enc Tryd.prog W base spare held n 2 (List.take (Tryd.prog.cellsOf 2) [v0, v1, v2, v3]) = some x0 := (hfs 0 _ rfl).trans hx0
    have h1 : DataW.trod enc Tryd.prog W base spare held n 2 (List.take (Tryd.prog.cellsOf 2) [v1, v2, v3]) = some x1 := (hfs 1 _ rfl).trans hx1
    have h2 : DataW.trod enc Tryd.prog W base spare held n 2 (List.take (Tryd.prog.cellsOf 2) [v2, v3]) = some x2 := (hfs 2 _ rfl).trans hx2
    have h3 : DataW.trod enc Tryd.prog W base spare held n 2 (List.take (Tryd.prog.cellsOf 2) [v3]) = some x3 := (hfs 3 _ rfl).trans hx3
    rw [e1] at h0 h1 h2 h3
    obtain ⟨a, k0, _, w0⟩ := DataW.trod_int Tryd.underlying2 h0
    obtain ⟨b, k1, _, w1⟩ := DataW.trod_int Tryd.underlying2 h1
    obtain ⟨c, k2, _, w2⟩ := DataW.trod_int Tryd.underlying2 h2
    obtain ⟨d, k3, _, w3⟩ := DataW.trod_int Tryd.underlying2 h3
    simp at k0 k1 k2 k3
    subst k0 k1 k2 k3
    exact ⟨⟨a, b, c, d⟩, rfl, w0, w1, w2, w3⟩

theorem open_term {H : Type} {enc : TypeId × Value → H} {W : World} {base : Nat} {spare : Nat → Bool} {held : Bool} {cs : Array Value} {d : DataW H} {p : List MemPlace}
    (h : DataW.Trod enc Tryd.prog W base spare held 72 (.agg cs) d p) : ∃ x : T4, cs = #[.int .i64 x.o, .int .i64 x.a, .int .i64 x.b, .int .i64 x.n] ∧ okT x := by
  obtain ⟨fuel, hf⟩ := h
  obtain ⟨x, hx, ho⟩ := open_term_cells hf
  refine ⟨x, ?_, ho⟩
  have : cs.toList = rowTerm x := hx
  cases cs
  simp only at this
  rw [this]; rfl

theorem open_terms {H : Type} {enc : TypeId × Value → H} {W : World} {base : Nat} {spare : Nat → Bool} {held : Bool} {a : Option Addr} {l c : Nat} {d : DataW H} {p : List MemPlace}
    (h : DataW.Trod enc Tryd.prog W base spare held 42 (.slice a l c) d p) : ∃ xs : List T4, RdTerm W a xs ∧ xs.length = l ∧ l ≤ maxLen ∧ ∀ t ∈ xs, okT t := by
  obtain ⟨fuel, hf⟩ := h
  simp only [Value.cells] at hf
  rcases Go.Deep.open_slice Tryd.underlying42 hf with ⟨hcs, _⟩ | ⟨x, len, cap, m, n, D, Pl, hcs, _, hl, hm, hmm, _, hx⟩
  · simp at hcs
    obtain ⟨rfl, rfl, rfl⟩ := hcs
    exact ⟨[], .inl rfl, rfl, Nat.zero_le _, by simp⟩
  · simp at hcs
    obtain ⟨rfl, rfl, rfl⟩ := hcs
    have e4 : Tryd.prog.cellsOf 72 = 4 := by kernel_rfl
    rw [e4] at hx
    have hlm : l ≤ m := by rw [hmm]; split <;> omega
    haveI : Inhabited T4 := ⟨zTerm⟩
    obtain ⟨f, hf2⟩ := Go.Deep.choose_lt (α := T4) (n := l) (p := fun i y => W.cells? base (x.add (i * 4)) 4 = some (rowTerm y) ∧ okT y) (fun i hi => by
      obtain ⟨cs', h1, h2⟩ := hx i (by omega)
      obtain ⟨y, hy, ho⟩ := open_term_cells h2
      exact ⟨y, by rw [h1, hy], ho⟩)
    refine ⟨(List.range l).map f, ?_, by simp, by omega, fun t ht => ?_⟩
    · by_cases h0 : l = 0
      · subst h0; exact .inl rfl
      · have hc := (hf2 0 (by omega)).1
        obtain ⟨b, off, spot⟩ := x
        have h1 := (World.cells?_some hc).2.2 0 (by decide)
        have hspot : spot = none := by
          have h2 := World.cell?_spot (h1.trans (show (rowTerm (f 0))[0]? = some _ from rfl))
          simpa [Addr.add] using h2
        subst hspot
        refine .inr ⟨b, off, rfl, fun i j hi hj => ?_⟩
        rw [List.length_map, List.length_range] at hi
        have h2 := (World.cells?_some (hf2 i hi).1).2.2 j hj
        rw [Addr.add_lit, Addr.add_lit] at h2
        rw [h2]
        simp [List.getD, hi]
    · obtain ⟨i, hi, rfl⟩ := List.mem_map.1 ht
      exact (hf2 i (by simpa using hi)).2

end Go.Proofs.YthjaehcfakjemaaDoor
