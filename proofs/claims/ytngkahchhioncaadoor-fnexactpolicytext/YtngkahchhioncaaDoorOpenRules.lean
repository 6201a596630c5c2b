/- Slices of rules that came in, opened. -/
import Derived.Test.YtngkahchhioncaaDoorOpenSel
import Derived.Test.YtngkahchhioncaaDoorRuleA
import Derived.Deep.Slices
namespace Go.Proofs.YtngkahchhioncaaDoor
open Go.RowKit Go.ChangeShapes Go.WideShapes Go.ChangeAt

set_option maxRecDepth 20000 in
theorem open_rule_cells {H : Type} {enc : TypeId × Value → H} {W : World} {base : Nat} {spare : Nat → Bool} {held : Bool} {m : Nat} {l : List Value} {y : DataW H × List MemPlace}
    (hf : DataW.trod enc Tryd.prog W base spare held m 117 l = some y) : ∃ x : R11, l = rowRule x := by
  obtain ⟨xs, n, rfl, _, hl, hx, hfs⟩ := DataW.trod_struct Tryd.underlying117 hf
  have e11 : Tryd.prog.cellsOf 117 = 11 := by kernel_rfl
  have e9 : Tryd.prog.cellsOf 115 = 9 := by kernel_rfl
  have e1 : Tryd.prog.cellsOf 2 = 1 := by kernel_rfl
  rw [e11] at hl
  match l, hl with
  | [v0, v1, v2, v3, v4, v5, v6, v7, v8, v9, v10], _ =>
    have hx3 : xs.length = 3 := hx
    obtain ⟨x0, hx0⟩ := get_of hx3 (by decide : 0 < 3)
    obtain ⟨x1, hx1⟩ := get_of hx3 (by decide : 1 < 3)
    obtain ⟨x2, hx2⟩ := get_of hx3 (by decide : 2 < 3)
    have h0 : DataW.trod enc Tryd.prog W base spare held n 115 (List.take (Tryd.prog.cellsOf 115) [v0, v1, v2, v3, v4, v5, v6, v7, v8, v9, v10]) = some x0 := (hfs 0 _ rfl).trans hx0
    have h1 : DataW.trod enc Tryd.prog W base spare held n 2 (List.take (Tryd.prog.cellsOf 2) [v9, v10]) = some x1 := (hfs 1 _ rfl).trans hx1
    have h2 : DataW.trod enc Tryd.prog W base spare held n 2 (List.take (Tryd.prog.cellsOf 2) [v10]) = some x2 := (hfs 2 _ rfl).trans hx2
    rw [e9] at h0
    rw [e1] at h1 h2
    obtain ⟨s, hs⟩ := open_sel_cells h0
    obtain ⟨p, k1, _⟩ := DataW.trod_int Tryd.underlying2 h1
    obtain ⟨q, k2, _⟩ := DataW.trod_int Tryd.underlying2 h2
    simp at k1 k2 hs
    obtain ⟨r0, r1, r2, r3, r4, r5, r6, r7, r8⟩ := hs
    subst k1 k2 r0 r1 r2 r3 r4 r5 r6 r7 r8
    exact ⟨⟨s, p, q⟩, rfl⟩

theorem open_rules {H : Type} {enc : TypeId × Value → H} {W : World} {base : Nat} {spare : Nat → Bool} {held : Bool} {a : Option Addr} {l c : Nat} {d : DataW H} {p : List MemPlace}
    (h : DataW.Trod enc Tryd.prog W base spare held 57 (.slice a l c) d p) : ∃ xs : List R11, RdRule W a xs ∧ xs.length = l ∧ l ≤ maxLen := by
  obtain ⟨fuel, hf⟩ := h
  simp only [Value.cells] at hf
  rcases Go.Deep.open_slice Tryd.underlying57 hf with ⟨hcs, _⟩ | ⟨x, len, cap, m, n, D, Pl, hcs, _, hl, hm, hmm, _, hx⟩
  · simp at hcs
    obtain ⟨rfl, rfl, rfl⟩ := hcs
    exact ⟨[], .inl rfl, rfl, Nat.zero_le _⟩
  · simp at hcs
    obtain ⟨rfl, rfl, rfl⟩ := hcs
    have e11 : Tryd.prog.cellsOf 117 = 11 := by kernel_rfl
    rw [e11] at hx
    have hlm : l ≤ m := by rw [hmm]; split <;> omega
    haveI : Inhabited R11 := ⟨zRule⟩
    obtain ⟨f, hf2⟩ := Go.Deep.choose_lt (α := R11) (n := l) (p := fun i y => W.cells? base (x.add (i * 11)) 11 = some (rowRule y)) (fun i hi => by
      obtain ⟨cs', h1, h2⟩ := hx i (by omega)
      obtain ⟨y, hy⟩ := open_rule_cells h2
      exact ⟨y, by rw [h1, hy]⟩)
    refine ⟨(List.range l).map f, ?_, by simp, by omega⟩
    by_cases h0 : l = 0
    · subst h0; exact .inl rfl
    · have hc := hf2 0 (by omega)
      obtain ⟨b, off, spot⟩ := x
      have h1 := (World.cells?_some hc).2.2 0 (by decide)
      have hspot : spot = none := by
        have h2 := World.cell?_spot (h1.trans (show (rowRule (f 0))[0]? = some _ from rfl))
        simpa [Addr.add] using h2
      subst hspot
      refine .inr ⟨b, off, rfl, fun i j hi hj => ?_⟩
      rw [List.length_map, List.length_range] at hi
      have h2 := (World.cells?_some (hf2 i hi)).2.2 j hj
      rw [Addr.add_lit, Addr.add_lit] at h2
      rw [h2]
      simp [List.getD, hi]

end Go.Proofs.YtngkahchhioncaaDoor
