/- Slices of slices of bytes: what is read, what is the call's own. -/
import Derived.Test.YtnclfbliimcpgaaHeld
namespace Go.Proofs.Ytnclfbliimcpgaa
open Go.RowKit

/-- A slice of slices of bytes reads as 'zss'. -/
def RdR (w : World) (a : Option Addr) (zss : List (List Int)) : Prop :=
  zss = [] ∨ ∃ b off, a = some ⟨b, off, none⟩ ∧ ∀ i, i < zss.length → ∃ c d, w.cell? ⟨b, off + i, none⟩ = some (.slice c (zss.getD i []).length d) ∧ Rd .u8 w c (zss.getD i []) ∧ (c = none → d = 0)

theorem RdR.kept {w w' : World} {a : Option Addr} {zss : List (List Int)} (h : RdR w a zss) (hb : Below w.heap.size w w') : RdR w' a zss := by
  rcases h with h | ⟨b, off, rfl, hc⟩
  · exact .inl h
  · refine .inr ⟨b, off, rfl, fun i hi => ?_⟩
    obtain ⟨c, d, h1, h2, h3⟩ := hc i hi
    exact ⟨c, d, (hb.cell (World.block_lt_of_cell? (a := ⟨b, off + i, none⟩) w h1)).trans h1, h2.kept hb, h3⟩

/-- The slice that a row of the call's own is. -/
def rowV (p : Nat × List Int) : Value := .slice (some ⟨p.1, 0, none⟩) p.2.length p.2.length

/-- A slice of slices of the call's own, each row in a block of its own. -/
def OwnR (w : World) (base : Nat) (a : Option Addr) (cap : Nat) (ps : List (Nat × List Int)) : Prop :=
  w.ownsRow base 22 1 (.slice a ps.length cap) ps.length (ps.map rowV) ∧ (∀ p ∈ ps, Own .u8 5 w (base + 1) (some ⟨p.1, 0, none⟩) p.2.length p.2) ∧ ps.Pairwise (fun p q => p.1 < q.1)

def rowsOf (ps : List (Nat × List Int)) : List (List Int) := ps.map Prod.snd

theorem OwnR.kept {w w' : World} {base : Nat} {a : Option Addr} {cap : Nat} {ps : List (Nat × List Int)} (h : OwnR w base a cap ps) (hb : Below w.heap.size w w') : OwnR w' base a cap ps :=
  ⟨World.ownsRow.kept h.1 (Below.grownBy hb none) (by cases a <;> simp [Value.ownBlock]), fun p hp => (h.2.1 p hp).kept hb, h.2.2⟩

theorem OwnR.rd {w : World} {base : Nat} {a : Option Addr} {cap : Nat} {ps : List (Nat × List Int)} (h : OwnR w base a cap ps) : RdR w a (rowsOf ps) := by
  rcases h.1.2 with ⟨_, h0⟩ | ⟨g, cap', cur, hv, _⟩
  · left
    have : ps = [] := List.eq_nil_of_length_eq_zero h0
    simp [rowsOf, this]
  · simp only [Value.slice.injEq, true_and] at hv
    obtain ⟨rfl, rfl⟩ := hv
    right
    refine ⟨g, 0, rfl, fun i hi => ?_⟩
    have hi' : i < ps.length := by simpa [rowsOf] using hi
    have e : (rowsOf ps).getD i [] = ps[i].2 := by simp [rowsOf, List.getD, hi']
    refine ⟨some ⟨ps[i].1, 0, none⟩, ps[i].2.length, ?_, ?_, fun h => by cases h⟩
    · rw [Nat.zero_add, World.ownsRow.cellAt h.1 i (by omega), e]
      simp [rowV, hi']
    · rw [e]
      exact (h.2.1 _ (List.getElem_mem hi')).rd

theorem Try.info_row : (Try.prog.info? 22).map (fun i => (i.zero, i.size, i.bytes)) = some (some (.slice none 0 0), 1, 24) := by kernel_rfl

/-- How many bytes the rows hold. -/
def total : List (List Int) → Nat
  | [] => 0
  | z :: r => z.length + total r

theorem total_append : ∀ a b : List (List Int), total (a ++ b) = total a + total b
  | [], b => by simp [total]
  | z :: r, b => by simp [total, total_append r b]; omega

theorem take_next' (zss : List (List Int)) (k : Nat) (h : k < zss.length) : zss.take (k + 1) = zss.take k ++ [zss.getD k []] := by
  rw [List.take_add_one]
  simp [List.getD, h]

theorem total_take (zss : List (List Int)) (k : Nat) (h : k < zss.length) : total (zss.take (k + 1)) = total (zss.take k) + (zss.getD k []).length := by
  rw [take_next' zss k h, total_append]
  simp [total]

theorem total_le (zss : List (List Int)) (k : Nat) : total (zss.take k) ≤ total zss := by
  have e : total zss = total (zss.take k) + total (zss.drop k) := by rw [← total_append, List.take_append_drop]
  omega

/-- Rows that are laid, and places that are still empty. -/
def rowFill (ps : List (Nat × List Int)) (n : Nat) : List Value := ps.map rowV ++ List.replicate (n - ps.length) (.slice none 0 0)

theorem rowFill_set (ps : List (Nat × List Int)) (n : Nat) (p : Nat × List Int) (h : ps.length < n) : (rowFill ps n).set ps.length (rowV p) = rowFill (ps ++ [p]) n := by
  unfold rowFill
  rw [List.set_append_right _ _ (by simp)]
  obtain ⟨m, hm⟩ : ∃ m, n - ps.length = m + 1 := ⟨n - ps.length - 1, by omega⟩
  rw [hm, show n - (ps ++ [p]).length = m by simp; omega]
  simp [List.replicate_succ]

theorem length_rowFill (ps : List (Nat × List Int)) (n : Nat) (h : ps.length ≤ n) : (rowFill ps n).length = n := by simp [rowFill]; omega

end Go.Proofs.Ytnclfbliimcpgaa
