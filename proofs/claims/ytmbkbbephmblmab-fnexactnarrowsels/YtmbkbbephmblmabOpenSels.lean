/- Slices of selectors that came in, opened. -/
import Derived.Test.YtmbkbbephmblmabOpenSel
import Derived.Test.YtmbkbbephmblmabSelL
import Derived.Deep.Slices
namespace Go.Proofs.Ytmbkbbephmblmab
open Go.RowKit Go.ChangeShapes Go.WideShapes Go.ChangeAt

theorem open_sels {H : Type} {enc : TypeId × Value → H} {W : World} {base : Nat} {spare : Nat → Bool} {held : Bool} {a : Option Addr} {l c : Nat} {d : DataW H} {p : List MemPlace}
    (h : DataW.Trod enc Try.prog W base spare held 32 (.slice a l c) d p) : ∃ xs : List S9, RdL W a xs ∧ xs.length = l ∧ l ≤ maxLen := by
  obtain ⟨fuel, hf⟩ := h
  simp only [Value.cells] at hf
  rcases Go.Deep.open_slice Try.underlying32 hf with ⟨hcs, _⟩ | ⟨x, len, cap, m, n, D, Pl, hcs, _, hl, hm, hmm, _, hx⟩
  · simp at hcs
    obtain ⟨rfl, rfl, rfl⟩ := hcs
    exact ⟨[], .inl rfl, rfl, Nat.zero_le _⟩
  · simp at hcs
    obtain ⟨rfl, rfl, rfl⟩ := hcs
    have e9 : Try.prog.cellsOf 25 = 9 := by kernel_rfl
    rw [e9] at hx
    have hlm : l ≤ m := by rw [hmm]; split <;> omega
    haveI : Inhabited S9 := ⟨z9⟩
    obtain ⟨f, hf2⟩ := Go.Deep.choose_lt (α := S9) (n := l) (p := fun i y => W.cells? base (x.add (i * 9)) 9 = some (rowV y)) (fun i hi => by
      obtain ⟨cs', h1, h2⟩ := hx i (by omega)
      obtain ⟨y, hy⟩ := open_sel_cells h2
      exact ⟨y, by rw [h1, hy]; rfl⟩)
    refine ⟨(List.range l).map f, ?_, by simp, by omega⟩
    by_cases h0 : l = 0
    · subst h0; exact .inl rfl
    · have hc := hf2 0 (by omega)
      obtain ⟨b, off, spot⟩ := x
      have h1 := (World.cells?_some hc).2.2 0 (by decide)
      have hspot : spot = none := by
        have h2 := World.cell?_spot (h1.trans (show (rowV (f 0))[0]? = some _ from rfl))
        simpa [Addr.add] using h2
      subst hspot
      refine .inr ⟨b, off, rfl, fun i j hi hj => ?_⟩
      rw [List.length_map, List.length_range] at hi
      have h2 := (World.cells?_some (hf2 i hi)).2.2 j hj
      rw [Addr.add_lit, Addr.add_lit] at h2
      rw [h2]
      simp [List.getD, hi]

end Go.Proofs.Ytmbkbbephmblmab
