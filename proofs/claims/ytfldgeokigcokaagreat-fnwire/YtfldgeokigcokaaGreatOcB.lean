/- OccursIn: both sides. -/
import Derived.Test.YtfldgeokigcokaaGreatOcA
import Derived.Test.YtfldgeokigcokaaGreatXTmQ
namespace Go.Proofs.YtfldgeokigcokaaGreat
open Go.RowKit

/-- Whether a term is a part of another. -/
@[irreducible] def occ (xs : List T4) (s b : Int) : Bool := if akC xs s = 0 then (if akC xs b = 0 then inL (prL xs b.toNat) s else false) else false

theorem occ_ways (xs : List T4) (s b : Int) : (akC xs s ≠ 0 ∧ occ xs s b = false) ∨ (akC xs s = 0 ∧ akC xs b ≠ 0 ∧ occ xs s b = false) ∨ (akC xs s = 0 ∧ akC xs b = 0 ∧ occ xs s b = inL (prL xs b.toNat) s) := by
  unfold occ
  by_cases h1 : akC xs s = 0
  · by_cases h2 : akC xs b = 0
    · exact .inr (.inr ⟨h1, h2, by rw [if_pos h1, if_pos h2]⟩)
    · exact .inr (.inl ⟨h1, h2, by rw [if_pos h1, if_neg h2]⟩)
  · exact .inl ⟨h1, by rw [if_neg h1]⟩

theorem prL_range {xs : List T4} {r : Nat} {z : Int} (h : z ∈ prL xs r) : 0 ≤ z ∧ z ≤ r := by
  unfold prL at h
  simp only [List.mem_map, List.mem_filter, List.mem_range] at h
  obtain ⟨i, ⟨h1, _⟩, rfl⟩ := h
  omega

theorem inL_mem {zs : List Int} {v : Int} : inL zs v = true ↔ v ∈ zs := by
  unfold inL
  simp

theorem occ_parts (xs : List T4) (s b : Int) : inL (paL xs b) s = occ xs s b := by
  rcases pa_ways xs b with ⟨h1, h⟩ | ⟨h1, h⟩
  · rw [h]
    rcases occ_ways xs s b with ⟨_, h2⟩ | ⟨_, _, h2⟩ | ⟨_, h3, _⟩
    · rw [h2]; rfl
    · rw [h2]; rfl
    · exact absurd h3 h1
  · rw [h]
    rcases occ_ways xs s b with ⟨h3, h2⟩ | ⟨_, h3, _⟩ | ⟨_, _, h2⟩
    · rw [h2]
      cases hi : inL (prL xs b.toNat) s
      · rfl
      · have hm := prL_range (inL_mem.1 hi)
        obtain ⟨hv, hq0, hq1⟩ := ak_zero h1
        rcases ak_ways xs s with ⟨h4, _⟩ | ⟨_, h4, _⟩ | ⟨_, _, h4⟩
        · exact absurd hv h4
        · have : btw s 0 ((xs.length : Int) - 1) = true := btw_iff.2 ⟨by omega, by omega⟩
          rw [this] at h4; cases h4
        · exact absurd h4 h3
    · exact absurd h1 h3
    · rw [h2]

end Go.Proofs.YtfldgeokigcokaaGreat
