/- A window that came in, opened. -/
import Derived.Test.YtkpdbdcfimdnjaaWnA
import Derived.Deep.Slices
import Derived.OpenShut
import Derived.ProofKit
import Derived.ChangeOld
namespace Go.Proofs.Ytkpdbdcfimdnjaa
open Go.RowKit

open Go.ChangeShapes Go.WideShapes Go.ChangeAt

theorem wget_of {α : Type} {xs : List α} {n i : Nat} (h : xs.length = n) (hi : i < n) : ∃ x, xs[i]? = some x := ⟨xs[i]'(by omega), List.getElem?_eq_getElem _⟩

set_option maxRecDepth 20000 in
theorem open_window_cells {H : Type} {enc : TypeId × Value → H} {W : World} {base : Nat} {spare : Nat → Bool} {held : Bool} {m : Nat} {l : List Value} {y : DataW H × List MemPlace}
    (hf : DataW.trod enc Try.prog W base spare held m 44 l = some y) : ∃ x : Wn, l = [.int .i64 x.t, .int .i64 x.b] := by
  obtain ⟨xs, n, rfl, _, hl, hx, hfs⟩ := DataW.trod_struct Try.underlying44 hf
  have e4 : Try.prog.cellsOf 44 = 2 := by kernel_rfl
  have e1 : Try.prog.cellsOf 2 = 1 := by kernel_rfl
  rw [e4] at hl
  match l, hl with
  | [v0, v1], _ =>
    have hx4 : xs.length = 2 := hx
    obtain ⟨x0, hx0⟩ := wget_of hx4 (by decide : 0 < 2)
    obtain ⟨x1, hx1⟩ := wget_of hx4 (by decide : 1 < 2)
    have h0 : DataW.trod enc Try.prog W base spare held n 2 (List.take (Try.prog.cellsOf 2) [v0, v1]) = some x0 := (hfs 0 _ rfl).trans hx0
    have h1 : DataW.trod enc Try.prog W base spare held n 2 (List.take (Try.prog.cellsOf 2) [v1]) = some x1 := (hfs 1 _ rfl).trans hx1
    rw [e1] at h0 h1
    obtain ⟨a, k0, _, _⟩ := DataW.trod_int Try.underlying2 h0
    obtain ⟨b, k1, _, _⟩ := DataW.trod_int Try.underlying2 h1
    simp at k0 k1
    subst k0 k1
    exact ⟨⟨a, b⟩, rfl⟩

theorem open_window {H : Type} {enc : TypeId × Value → H} {W : World} {base : Nat} {spare : Nat → Bool} {held : Bool} {cs : Array Value} {d : DataW H} {p : List MemPlace}
    (h : DataW.Trod enc Try.prog W base spare held 44 (.agg cs) d p) : ∃ x : Wn, cs = #[.int .i64 x.t, .int .i64 x.b] := by
  obtain ⟨fuel, hf⟩ := h
  obtain ⟨x, hx⟩ := open_window_cells hf
  refine ⟨x, ?_⟩
  have : cs.toList = [.int .i64 x.t, .int .i64 x.b] := hx
  cases cs
  simp only at this
  rw [this]

end Go.Proofs.Ytkpdbdcfimdnjaa
