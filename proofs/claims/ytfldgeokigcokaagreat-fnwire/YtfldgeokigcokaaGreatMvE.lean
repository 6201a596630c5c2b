/- Terms moved: the model. -/
import Derived.Test.YtfldgeokigcokaaGreatMvA
import Derived.Test.YtfldgeokigcokaaGreatTmS
import Derived.Test.YtfldgeokigcokaaGreatTmU
import Derived.Test.YtfldgeokigcokaaGreatTmW
import Derived.Test.YtfldgeokigcokaaGreatTpA
import Derived.Test.YtfldgeokigcokaaGreatOcB
import Derived.Test.YtfldgeokigcokaaGreatTmF
import Derived.Test.YtfldgeokigcokaaGreatMvC
namespace Go.Proofs.YtfldgeokigcokaaGreat
open Go.RowKit

theorem mv_ways {x : T4} (h : 1 ≤ x.o ∧ x.o ≤ 7) (B : Bare x) (pl : Int → Int) : (kids x.o = 0 ∧ (x.o == 7) = false ∧ mvT x pl = ⟨x.o, 0, 0, x.n⟩) ∨ (kids x.o = 1 ∧ (x.o == 7) = false ∧ mvT x pl = ⟨x.o, pl x.a, 0, x.n⟩)
    ∨ (kids x.o = 2 ∧ (x.o == 7) = false ∧ mvT x pl = ⟨x.o, pl x.a, pl x.b, x.n⟩) ∨ (kids x.o = 2 ∧ x.o = 7 ∧ mvT x pl = bothT (pl x.a) (pl x.b)) := by
  obtain ⟨o, a, b, n⟩ := x
  unfold Bare at B
  simp only [beq_eq_false_iff_ne] at *
  rcases mvT_ways (t := ⟨o, a, b, n⟩) h pl with ⟨e, hr⟩ | ⟨_, e, hr⟩ | ⟨_, _, e, hk, hr⟩ | ⟨_, _, _, e, hk, hr⟩ | ⟨e1, e2, e3, e4, hk, hr⟩
  · simp only at e hr; subst e
    rw [kids1] at B
    rw [hr, B.2.1 (by decide), B.2.2 (by decide)]
    exact .inl ⟨kids1, by decide, rfl⟩
  · simp only at e hr; subst e
    rw [kids2] at B
    rw [hr, B.2.1 (by decide), B.2.2 (by decide)]
    exact .inl ⟨kids2, by decide, rfl⟩
  · simp only at e hr; subst e
    rw [kids6] at B
    rw [hr, B.1 (by decide)]
    exact .inr (.inl ⟨kids6, by decide, rfl⟩)
  · simp only at e hr; subst e
    rw [hr]
    exact .inr (.inr (.inr ⟨kids7, rfl, by unfold bothT; rfl⟩))
  · simp only [beq_eq_false_iff_ne] at *
    have hk2 : kids o = 2 := by rcases kids_cases o with h | h | h <;> omega
    rw [hr, B.1 (by omega)]
    exact .inr (.inr (.inl ⟨hk2, e4, rfl⟩))

theorem World.size_setCells (w : World) (B o : Nat) (vs : List Value) : (w.setCells B o vs).heap.size = w.heap.size := by
  induction vs generalizing w o with
  | nil => rfl
  | cons v vs ih => exact (ih _ _).trans (by simp [World.setCell])

/-- What a call of 'l5Move' leaves. -/
def MoveAt (M : Mv) (m : Nat) (w : World) (e : Ending) (w' : World) : Prop :=
  ∃ c d, e = .returned (.agg #[.int .i64 M.c, .int .i64 (if M.c = 0 then M.pl m else 0), .slice c (if M.c = 0 then M.tb else []).length d]) ∧ OwnTerm w' w.heap.size c d (if M.c = 0 then M.tb else []) ∧ Below w.heap.size w w'

theorem MoveAt.bad {M : Mv} {m : Nat} {w w' : World} {e : Ending} {kc : Int} {pl : Int → Int} {tb : List T4} (h : M = ⟨kc, pl, tb⟩) (hc : kc ≠ 0) (he : e = .returned (.agg #[.int .i64 kc, .int .i64 0, .slice none 0 0])) (B : Below w.heap.size w w') : MoveAt M m w e w' := by
  subst h
  subst he
  unfold MoveAt
  dsimp only
  rw [if_neg hc, if_neg hc]
  exact ⟨none, 0, rfl, OwnTerm.none, B⟩

theorem MoveAt.good {M : Mv} {m L : Nat} {w w' : World} {e : Ending} {pl : Int → Int} {tb : List T4} {c : Option Addr} {d : Nat} (h : ⟨0, pl, tb⟩ = M) (hL : tb.length = L) (he : e = .returned (.agg #[.int .i64 0, .int .i64 (pl m), .slice c L d])) (O : OwnTerm w' w.heap.size c d tb) (B : Below w.heap.size w w') : MoveAt M m w e w' := by
  subst h
  subst he
  subst hL
  unfold MoveAt
  dsimp only
  rw [if_pos rfl, if_pos rfl]
  exact ⟨c, d, rfl, O, B⟩

end Go.Proofs.YtfldgeokigcokaaGreat
