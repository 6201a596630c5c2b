/- A packet that came in, opened. -/
import Derived.Test.YtngkahchhioncaaDoorPkt
import Derived.ProofKit
import Derived.OpenShut
import Derived.ChangeOld
namespace Go.Proofs.YtngkahchhioncaaDoor
open Go.RowKit Go.ChangeShapes Go.WideShapes Go.ChangeAt

theorem get_some {α : Type} {xs : List α} {n i : Nat} (h : xs.length = n) (hi : i < n) : ∃ x, xs[i]? = some x := ⟨xs[i]'(by omega), List.getElem?_eq_getElem _⟩

set_option maxRecDepth 20000 in
theorem open_packet {H : Type} {enc : TypeId × Value → H} {W : World} {base : Nat} {spare : Nat → Bool} {held : Bool} (hsp : ∀ b, spare b = true) {cs : Array Value} {d : DataW H} {p : List MemPlace}
    (h : DataW.Trod enc Tryd.prog W base spare held 62 (.agg cs) d p) :
    ∃ (f t r l x y : Int) (a : Option Addr) (n c : Nat) (zs : List Int), cs = #[.int .i64 f, .int .i64 t, .int .i64 r, .int .i64 l, .int .i64 x, .int .i64 y, .slice a n c] ∧
      ((a = none ∧ n = 0 ∧ c = 0 ∧ zs = []) ∨ ∃ x : Addr, a = some x ∧ n ≤ c ∧ c ≤ maxLen ∧ zs.length = c ∧ (∀ i, i < zs.length → W.cell? (x.add i) = some (.int .u8 (zs.getD i 0))) ∧ ∀ n ∈ zs, (Lit.int .u8 n).wf = true) := by
  obtain ⟨fuel, hf⟩ := h
  obtain ⟨xs, m, rfl, _, hl, hx, hfs⟩ := DataW.trod_struct Tryd.underlying62 hf
  have e7 : Tryd.prog.cellsOf 62 = 7 := by kernel_rfl
  have e1 : Tryd.prog.cellsOf 2 = 1 := by kernel_rfl
  have eb : Tryd.prog.cellsOf 22 = 1 := by kernel_rfl
  obtain ⟨l⟩ := cs
  simp only [Value.cells] at hl hfs
  rw [e7] at hl
  match l, hl with
  | [v0, v1, v2, v3, v4, v5, v6], _ =>
    have hx7 : xs.length = 7 := hx
    obtain ⟨x0, hx0⟩ := get_some hx7 (by decide : 0 < 7)
    obtain ⟨x1, hx1⟩ := get_some hx7 (by decide : 1 < 7)
    obtain ⟨x2, hx2⟩ := get_some hx7 (by decide : 2 < 7)
    obtain ⟨x3, hx3⟩ := get_some hx7 (by decide : 3 < 7)
    obtain ⟨x4, hx4⟩ := get_some hx7 (by decide : 4 < 7)
    obtain ⟨x5, hx5⟩ := get_some hx7 (by decide : 5 < 7)
    obtain ⟨x6, hx6⟩ := get_some hx7 (by decide : 6 < 7)
    have h0 : DataW.trod enc Tryd.prog W base spare held m 2 (List.take (Tryd.prog.cellsOf 2) [v0, v1, v2, v3, v4, v5, v6]) = some x0 := (hfs 0 _ rfl).trans hx0
    have h1 : DataW.trod enc Tryd.prog W base spare held m 2 (List.take (Tryd.prog.cellsOf 2) [v1, v2, v3, v4, v5, v6]) = some x1 := (hfs 1 _ rfl).trans hx1
    have h2 : DataW.trod enc Tryd.prog W base spare held m 2 (List.take (Tryd.prog.cellsOf 2) [v2, v3, v4, v5, v6]) = some x2 := (hfs 2 _ rfl).trans hx2
    have h3 : DataW.trod enc Tryd.prog W base spare held m 2 (List.take (Tryd.prog.cellsOf 2) [v3, v4, v5, v6]) = some x3 := (hfs 3 _ rfl).trans hx3
    have h4 : DataW.trod enc Tryd.prog W base spare held m 2 (List.take (Tryd.prog.cellsOf 2) [v4, v5, v6]) = some x4 := (hfs 4 _ rfl).trans hx4
    have h5 : DataW.trod enc Tryd.prog W base spare held m 2 (List.take (Tryd.prog.cellsOf 2) [v5, v6]) = some x5 := (hfs 5 _ rfl).trans hx5
    have h6 : DataW.trod enc Tryd.prog W base spare held m 22 (List.take (Tryd.prog.cellsOf 22) [v6]) = some x6 := (hfs 6 _ rfl).trans hx6
    rw [e1] at h0 h1 h2 h3 h4 h5
    rw [eb] at h6
    obtain ⟨f, k0, _⟩ := DataW.trod_int Tryd.underlying2 h0
    obtain ⟨t, k1, _⟩ := DataW.trod_int Tryd.underlying2 h1
    obtain ⟨r, k2, _⟩ := DataW.trod_int Tryd.underlying2 h2
    obtain ⟨l, k3, _⟩ := DataW.trod_int Tryd.underlying2 h3
    obtain ⟨x, k4, _⟩ := DataW.trod_int Tryd.underlying2 h4
    obtain ⟨y, k5, _⟩ := DataW.trod_int Tryd.underlying2 h5
    simp at k0 k1 k2 k3 k4 k5
    subst k0 k1 k2 k3 k4 k5
    rcases open_ints Tryd.underlying22 Tryd.underlying5 (by kernel_rfl) h6 with ⟨hcs, _⟩ | ⟨x', l', c, zs, hcs, _, hl, hm, hz, _, hcell, hwz⟩
    · simp at hcs
      subst hcs
      exact ⟨f, t, r, l, x, y, none, 0, 0, [], rfl, .inl ⟨rfl, rfl, rfl, rfl⟩⟩
    · simp at hcs
      subst hcs
      exact ⟨f, t, r, l, x, y, _, _, _, zs, rfl, .inr ⟨_, rfl, hl, hm, by simpa [hsp] using hz, hcell, hwz⟩⟩

end Go.Proofs.YtngkahchhioncaaDoor
