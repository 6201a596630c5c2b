/- Lists of selectors narrowed: what comes out; a selector put behind a row. -/
import Derived.Test.YtngkahchhioncaaDoorSelM
import Derived.Test.YtngkahchhioncaaDoorSelN
import Derived.Test.YtngkahchhioncaaDoorPur2
import Derived.Deep.AppendLies
namespace Go.Proofs.YtngkahchhioncaaDoor
open Go.RowKit

/-- A selector is within one of a list. -/
@[irreducible] def nin (out : List S9) (z : S9) : Bool := out.any fun o => inW z o

/-- What two have in common is put behind, if it is not there. -/
@[irreducible] def nstep (x y : S9) (out : List S9) : List S9 := if mtC x y = 0 ∧ nin out (mtS x y) = false then out ++ [mtS x y] else out

/-- One against a list. -/
def nrow (x : S9) : List S9 → List S9 → List S9
  | [], out => out
  | y :: ys, out => nrow x ys (nstep x y out)

/-- A list against a list. -/
def nall (ys : List S9) : List S9 → List S9 → List S9
  | [], out => out
  | x :: xs, out => nall ys xs (nrow x ys out)

theorem nstep_le (x y : S9) (out : List S9) : out.length ≤ (nstep x y out).length := by
  unfold nstep; split <;> simp

theorem nrow_le (x : S9) (ys out : List S9) : out.length ≤ (nrow x ys out).length := by
  induction ys generalizing out with
  | nil => exact Nat.le_refl _
  | cons y ys ih => exact Nat.le_trans (nstep_le x y out) (ih _)

theorem nall_le (ys xs out : List S9) : out.length ≤ (nall ys xs out).length := by
  induction xs generalizing out with
  | nil => exact Nat.le_refl _
  | cons x xs ih => exact Nat.le_trans (nrow_le x ys out) (ih _)

theorem drop_cons9 (xs : List S9) (k : Nat) (h : k < xs.length) : xs.drop k = xs.getD k z9 :: xs.drop (k + 1) := by
  rw [List.drop_eq_getElem_cons h]; simp [List.getD, h]

theorem nall_next {ys xs out full : List S9} {k : Nat} (h : nall ys (xs.drop k) out = full) (hk : k < xs.length) {x : S9} (hx : xs.getD k z9 = x) : nall ys (xs.drop (k + 1)) (nrow x (ys.drop 0) out) = full := by
  rw [drop_cons9 xs k hk, hx] at h
  exact h

theorem nrow_next {x : S9} {ys out : List S9} {j : Nat} (hj : j < ys.length) {y : S9} (hy : ys.getD j z9 = y) : nrow x (ys.drop j) out = nrow x (ys.drop (j + 1)) (nstep x y out) := by
  rw [drop_cons9 ys j hj, hy]; rfl

theorem nrow_end {x : S9} {ys out : List S9} {j : Nat} (hj : ys.length ≤ j) : nrow x (ys.drop j) out = out := by
  rw [List.drop_of_length_le hj]; rfl

theorem nall_end {ys xs out : List S9} {k : Nat} (hk : xs.length ≤ k) : nall ys (xs.drop k) out = out := by
  rw [List.drop_of_length_le hk]; rfl

theorem nstep_no {x y : S9} {out : List S9} (h : mtC x y ≠ 0) : nstep x y out = out := by
  unfold nstep; rw [if_neg]; exact fun h2 => h h2.1

theorem nstep_in {x y : S9} {out : List S9} (h : nin out (mtS x y) = true) : nstep x y out = out := by
  unfold nstep; rw [if_neg]; intro h2; rw [h] at h2; cases h2.2

theorem nstep_put {x y : S9} {out : List S9} (h : mtC x y = 0) (h2 : nin out (mtS x y) = false) : nstep x y out = out ++ [mtS x y] := by
  unfold nstep; rw [if_pos ⟨h, h2⟩]

theorem nin_wi {out : List S9} {z : S9} (hz : sfC z = 0) (ho : ∀ o ∈ out, sfC o = 0) : (out.any fun o => wiP z o) = nin out z := by
  unfold nin
  induction out with
  | nil => rfl
  | cons o out ih =>
    have h1 := ho o (by simp)
    have h2 : wiP z o = inW z o := by
      rw [Bool.eq_iff_iff, wiP_iff]
      exact ⟨fun h => h.2.2, fun h => ⟨hz, h1, h⟩⟩
    rw [List.any_cons, List.any_cons, ih fun o h => ho o (by simp [h]), h2]

theorem right_put {out : List S9} {z : S9} (ho : ∀ o ∈ out, sfC o = 0) (hz : sfC z = 0) : ∀ o ∈ out ++ [z], sfC o = 0 := by
  intro o h
  rcases List.mem_append.1 h with h | h
  · exact ho o h
  · rw [List.mem_singleton.1 h]; exact hz

theorem any_dropS (g : S9 → Bool) (xs : List S9) (k : Nat) (h : k < xs.length) {x : S9} (hx : xs.getD k z9 = x) : (xs.drop k).any g = (g x || (xs.drop (k + 1)).any g) := by
  rw [drop_cons9 xs k h, hx]; rfl

/-- The code of what is narrowed. -/
@[irreducible] def nrK (full : List S9) : Int := if full.length = 0 then 4 else if 12 < full.length then 2 else 0
/-- What is narrowed. -/
@[irreducible] def nrZ (full : List S9) : List S9 := if full.length = 0 then [] else if 12 < full.length then [] else full

theorem nr_ways (full : List S9) : (full.length = 0 ∧ nrK full = 4 ∧ nrZ full = []) ∨ (full.length ≠ 0 ∧ 12 < full.length ∧ nrK full = 2 ∧ nrZ full = []) ∨ (full.length ≠ 0 ∧ ¬ 12 < full.length ∧ nrK full = 0 ∧ nrZ full = full) := by
  unfold nrK nrZ
  by_cases h1 : full.length = 0
  · exact .inl ⟨h1, by rw [if_pos h1], by rw [if_pos h1]⟩
  · by_cases h2 : 12 < full.length
    · exact .inr (.inl ⟨h1, h2, by rw [if_neg h1, if_pos h2], by rw [if_neg h1, if_pos h2]⟩)
    · exact .inr (.inr ⟨h1, h2, by rw [if_neg h1, if_neg h2], by rw [if_neg h1, if_neg h2]⟩)

/-- The code, and the list, of two lists narrowed. -/
@[irreducible] def naC (xs ys : List S9) : Int := if ssC xs = 0 then (if ssC ys = 0 then nrK (nall ys xs []) else ssC ys) else ssC xs
@[irreducible] def naL (xs ys : List S9) : List S9 := if ssC xs = 0 then (if ssC ys = 0 then nrZ (nall ys xs []) else []) else []

theorem na_ways (xs ys : List S9) : (ssC xs ≠ 0 ∧ naC xs ys = ssC xs ∧ naL xs ys = []) ∨ (ssC xs = 0 ∧ ssC ys ≠ 0 ∧ naC xs ys = ssC ys ∧ naL xs ys = []) ∨ (ssC xs = 0 ∧ ssC ys = 0 ∧ naC xs ys = nrK (nall ys xs []) ∧ naL xs ys = nrZ (nall ys xs [])) := by
  unfold naC naL
  by_cases h1 : ssC xs = 0
  · by_cases h2 : ssC ys = 0
    · exact .inr (.inr ⟨h1, h2, by rw [if_pos h1, if_pos h2], by rw [if_pos h1, if_pos h2]⟩)
    · exact .inr (.inl ⟨h1, h2, by rw [if_pos h1, if_neg h2], by rw [if_pos h1, if_neg h2]⟩)
  · exact .inl ⟨h1, by rw [if_neg h1], by rw [if_neg h1]⟩

theorem OwnL.none {w : World} {base : Nat} : OwnL w base none 0 [] := World.ownsRow_nil _ _ _ _

theorem OwnL.lit (w : World) (xs : List S9) (vs : List Value) (hv : vs = flat xs) (hm : xs.length ≤ maxLen) : OwnL (w.alloc (.cells vs.toArray 32)) w.heap.size (some ⟨w.heap.size, 0, .none⟩) xs.length xs := by
  subst hv
  have h := World.ownsRow_lit (base := w.heap.size) (e := 32) (size := 9) w (flat xs).toArray xs.length (Nat.le_refl _) hm (by simp [flat_len])
  simpa [OwnL] using h

/-- A selector is put behind the selectors of a row of one's own. -/
theorem wpList_putL {ops : Array Oper} {rest : List Oper} {o : Oper} {a : Act} {Q : Exit → Act → World → Prop} (w : World) (hgd : o.guard = none) (s x : Operand)
    (ho : o.op = .call { callee := .builtin .append, args := #[s, x], argTypes := #[79, 79] })
    (base : Nat) (c : Option Addr) (d : Nat) (xs : List S9) (n : Nat) (hn : xs.length = n) (hs : a.eval s = .slice c n d) (hown : OwnL w base c d xs)
    (ad : Addr) (cc : Nat) (p : S9) (hx : a.eval x = .slice (some ad) 1 cc) (hp : ∀ j u, (rowV p)[j]? = some u → w.cell? (ad.add j) = some u)
    (hlen : n ≤ 1000) (hbase : base ≤ w.heap.size)
    (h : ∀ c' d' w', OwnL w' base c' d' (xs ++ [p]) → w.grownBy w' (c.map Addr.block) → Hid (∃ g, c' = some ⟨g, 0, none⟩ ∧ ((∃ a, c = some a ∧ a.block = g) ∨ g = w.heap.size) ∧ g < w'.heap.size) → wpList Tryd.prog ops Q rest (a.put o.dst (.slice c' (n + 1) d')) w') : wpList Tryd.prog ops Q (o :: rest) a w := by
  subst hn
  obtain ⟨i, hi, hz, hsz, hby⟩ : ∃ i, Tryd.prog.info? 32 = some i ∧ i.zero = some (.agg #[.int .i64 0, .int .i64 0, .int .i64 0, .int .i64 0, .int .i64 0, .int .i64 0, .int .i64 0, .int .i64 0, .int .i64 0]) ∧ i.size = 9 ∧ i.bytes = 72 := by
    have h := Tryd.info_sel
    cases he : Tryd.prog.info? 32 with
    | none => rw [he] at h; cases h
    | some i =>
      rw [he] at h
      simp only [Option.map_some, Option.some.injEq, Prod.mk.injEq] at h
      exact ⟨i, rfl, h.1, h.2.1, h.2.2⟩
  refine wpList_append_lies w hgd s x 79 ho base 32 i _ 9 72 Tryd.underlying79 hi hz hsz hby (by rfl) (by decide) (.slice c xs.length d) xs.length (flat xs) hs hown ad 1 cc (rowV p) hx rfl hp ?_ (by decide) (by unfold maxLen; omega) (by omega) hbase _ rfl ?_
  · intro u hu
    simp only [rowV, List.mem_cons, List.not_mem_nil, or_false] at hu
    rcases hu with rfl | rfl | rfl | rfl | rfl | rfl | rfl | rfl | rfl <;> rfl
  · intro g cap w' h1 h2 h3 h4
    have e1 : (xs ++ [p]).length = xs.length + 1 := by simp
    have e2 : flat xs ++ rowV p = flat (xs ++ [p]) := by rw [flat_app]; simp [flat]
    have h2' : w.grownBy w' (c.map Addr.block) := by cases c <;> exact h2
    refine h _ _ w' ?_ h2' (Hid.mk ⟨g, rfl, ?_, h4⟩)
    · unfold OwnL; rw [e1, ← e2]; exact h1
    · rcases h3 with h3 | h3
      · left; cases c with
        | none => cases h3
        | some b => exact ⟨b, rfl, by simpa [Value.ownBlock] using h3⟩
      · exact .inr h3

end Go.Proofs.YtngkahchhioncaaDoor
