/- PutTerm: both sides. -/
import Derived.Test.YthjaehcfakjemaaDoorTmS
namespace Go.Proofs.YthjaehcfakjemaaDoor
open Go.RowKit

theorem bookOf_no (a : Option Addr) (n ca : Nat) (xs : List T4) (w : World) (ha : RdTerm w a xs) (hn : xs.length = n) (hx : n ≤ maxLen) (hok : ∀ t ∈ xs, okT t) (h : tfC xs ≠ 0) :
    Calls Tryd.prog 22 #[.slice a n ca] w fun e w' => e = .returned (.tuple #[.pointer none, .int .i64 (tfC xs)]) ∧ Below w.heap.size w w' := by
  refine (bookOf_ok a n ca xs w ha hn hx hok).mono ?_
  rintro e w' ⟨v, k, rfl, rfl, b, h1 | h1⟩
  · exact ⟨by rw [h1.2], b⟩
  · exact absurd h1.1 h

theorem bookOf_yes (a : Option Addr) (n ca : Nat) (xs : List T4) (w : World) (ha : RdTerm w a xs) (hn : xs.length = n) (hx : n ≤ maxLen) (hok : ∀ t ∈ xs, okT t) (h : tfC xs = 0) :
    Calls Tryd.prog 22 #[.slice a n ca] w fun e w' => ∃ p g c d, e = .returned (.tuple #[.pointer (some ⟨p, 0, none⟩), .int .i64 0]) ∧ Bk w' w.heap.size p g c d xs ∧ Below w.heap.size w w' := by
  refine (bookOf_ok a n ca xs w ha hn hx hok).mono ?_
  rintro e w' ⟨v, k, rfl, rfl, b, h1 | h1⟩
  · exact absurd h h1.1
  · obtain ⟨h2, c, d, rfl, H⟩ := h1
    exact ⟨_, _, c, d, by rw [h2], H, b⟩

theorem put_no {xs : List T4} {t : T4} (h : (put xs t).c ≠ 0) : (put xs t).k = 0 ∧ (put xs t).l = [] := by
  rcases put_ways xs t with ⟨_, e⟩ | ⟨_, _, e⟩ | ⟨_, _, _, e⟩ | ⟨_, _, _, e⟩ <;> rw [e] at h ⊢ <;> simp at h ⊢

/-- What comes of putting a term into whatever table. -/
@[irreducible] def ptT (xs : List T4) (t : T4) : Put := if tfC xs = 0 then put xs t else ⟨tfC xs, 0, []⟩

theorem pt_ways (xs : List T4) (t : T4) : (tfC xs ≠ 0 ∧ ptT xs t = ⟨tfC xs, 0, []⟩) ∨ (tfC xs = 0 ∧ ptT xs t = put xs t) := by
  unfold ptT
  by_cases h : tfC xs = 0
  · exact .inr ⟨h, by rw [if_pos h]⟩
  · exact .inl ⟨h, by rw [if_neg h]⟩

/-- The both of two secrets. -/
@[irreducible] def bothT (x y : Int) : T4 := ⟨7, min x y, max x y, 0⟩

end Go.Proofs.YthjaehcfakjemaaDoor
