/- A selector that came in, opened. -/
import Derived.Test.YtngkahchhioncaaDoorSelA
import Derived.ProofKit
import Derived.OpenShut
import Derived.ChangeOld
namespace Go.Proofs.YtngkahchhioncaaDoor
open Go.RowKit Go.ChangeShapes Go.WideShapes Go.ChangeAt

theorem get_of {α : Type} {xs : List α} {n i : Nat} (h : xs.length = n) (hi : i < n) : ∃ x, xs[i]? = some x := ⟨xs[i]'(by omega), List.getElem?_eq_getElem _⟩

theorem open_rng {H : Type} {enc : TypeId × Value → H} {W : World} {base : Nat} {spare : Nat → Bool} {held : Bool} {m : Nat} {u v : Value} {y : DataW H × List MemPlace}
    (hf : DataW.trod enc Tryd.prog W base spare held m 113 [u, v] = some y) : ∃ a b : Int, u = .int .i64 a ∧ v = .int .i64 b := by
  obtain ⟨xs, n, rfl, _, hl, hx, hfs⟩ := DataW.trod_struct Tryd.underlying113 hf
  have e1 : Tryd.prog.cellsOf 2 = 1 := by kernel_rfl
  have hx2 : xs.length = 2 := hx
  obtain ⟨x0, hx0⟩ := get_of hx2 (by decide : 0 < 2)
  obtain ⟨x1, hx1⟩ := get_of hx2 (by decide : 1 < 2)
  have h0 : DataW.trod enc Tryd.prog W base spare held n 2 (List.take (Tryd.prog.cellsOf 2) [u, v]) = some x0 := (hfs 0 _ rfl).trans hx0
  have h1 : DataW.trod enc Tryd.prog W base spare held n 2 (List.take (Tryd.prog.cellsOf 2) [v]) = some x1 := (hfs 1 _ rfl).trans hx1
  rw [e1] at h0 h1
  obtain ⟨a, k0, _⟩ := DataW.trod_int Tryd.underlying2 h0
  obtain ⟨b, k1, _⟩ := DataW.trod_int Tryd.underlying2 h1
  simp at k0 k1
  exact ⟨a, b, k0, k1⟩

set_option maxRecDepth 20000 in
theorem open_sel_cells {H : Type} {enc : TypeId × Value → H} {W : World} {base : Nat} {spare : Nat → Bool} {held : Bool} {m : Nat} {l : List Value} {y : DataW H × List MemPlace}
    (hf : DataW.trod enc Tryd.prog W base spare held m 115 l = some y) : ∃ x : S9, l = [.int .i64 x.a, .int .i64 x.b, .int .i64 x.c, .int .i64 x.d, .int .i64 x.e, .int .i64 x.f, .int .i64 x.g, .int .i64 x.h, .int .i64 x.r] := by
  obtain ⟨xs, n, rfl, _, hl, hx, hfs⟩ := DataW.trod_struct Tryd.underlying115 hf
  have e9 : Tryd.prog.cellsOf 115 = 9 := by kernel_rfl
  have e2 : Tryd.prog.cellsOf 113 = 2 := by kernel_rfl
  have e1 : Tryd.prog.cellsOf 2 = 1 := by kernel_rfl
  rw [e9] at hl
  match l, hl with
  | [v0, v1, v2, v3, v4, v5, v6, v7, v8], _ =>
    have hx5 : xs.length = 5 := hx
    obtain ⟨x0, hx0⟩ := get_of hx5 (by decide : 0 < 5)
    obtain ⟨x1, hx1⟩ := get_of hx5 (by decide : 1 < 5)
    obtain ⟨x2, hx2⟩ := get_of hx5 (by decide : 2 < 5)
    obtain ⟨x3, hx3⟩ := get_of hx5 (by decide : 3 < 5)
    obtain ⟨x4, hx4⟩ := get_of hx5 (by decide : 4 < 5)
    have h0 : DataW.trod enc Tryd.prog W base spare held n 113 (List.take (Tryd.prog.cellsOf 113) [v0, v1, v2, v3, v4, v5, v6, v7, v8]) = some x0 := (hfs 0 _ rfl).trans hx0
    have h1 : DataW.trod enc Tryd.prog W base spare held n 113 (List.take (Tryd.prog.cellsOf 113) [v2, v3, v4, v5, v6, v7, v8]) = some x1 := (hfs 1 _ rfl).trans hx1
    have h2 : DataW.trod enc Tryd.prog W base spare held n 113 (List.take (Tryd.prog.cellsOf 113) [v4, v5, v6, v7, v8]) = some x2 := (hfs 2 _ rfl).trans hx2
    have h3 : DataW.trod enc Tryd.prog W base spare held n 113 (List.take (Tryd.prog.cellsOf 113) [v6, v7, v8]) = some x3 := (hfs 3 _ rfl).trans hx3
    have h4 : DataW.trod enc Tryd.prog W base spare held n 2 (List.take (Tryd.prog.cellsOf 2) [v8]) = some x4 := (hfs 4 _ rfl).trans hx4
    rw [e2] at h0 h1 h2 h3
    rw [e1] at h4
    obtain ⟨a, b, rfl, rfl⟩ := open_rng h0
    obtain ⟨c, d, rfl, rfl⟩ := open_rng h1
    obtain ⟨e, f, rfl, rfl⟩ := open_rng h2
    obtain ⟨g, h, rfl, rfl⟩ := open_rng h3
    obtain ⟨r, k4, _⟩ := DataW.trod_int Tryd.underlying2 h4
    simp at k4
    subst k4
    exact ⟨⟨a, b, c, d, e, f, g, h, r⟩, rfl⟩

theorem open_sel {H : Type} {enc : TypeId × Value → H} {W : World} {base : Nat} {spare : Nat → Bool} {held : Bool} {cs : Array Value} {d : DataW H} {p : List MemPlace}
    (h : DataW.Trod enc Tryd.prog W base spare held 115 (.agg cs) d p) : ∃ x : S9, cs = #[.int .i64 x.a, .int .i64 x.b, .int .i64 x.c, .int .i64 x.d, .int .i64 x.e, .int .i64 x.f, .int .i64 x.g, .int .i64 x.h, .int .i64 x.r] := by
  obtain ⟨fuel, hf⟩ := h
  obtain ⟨l⟩ := cs
  simp only [Value.cells] at hf
  obtain ⟨x, hx⟩ := open_sel_cells hf
  exact ⟨x, by rw [hx]⟩

end Go.Proofs.YtngkahchhioncaaDoor
