/- Terms as numbers: faults, places, what comes of a put. -/
import Derived.Test.YthjaehcfakjemaaDoorTermA
namespace Go.Proofs.YthjaehcfakjemaaDoor
open Go.RowKit

/-- How many terms an Op names. -/
@[irreducible] def kids (o : Int) : Int := if o = 3 then 2 else if o = 4 then 2 else if o = 5 then 2 else if o = 7 then 2 else if o = 6 then 1 else 0

theorem kids_ways (o : Int) : (o = 3 ∧ kids o = 2) ∨ (o = 4 ∧ kids o = 2) ∨ (o = 5 ∧ kids o = 2) ∨ (o = 7 ∧ kids o = 2) ∨ (o = 6 ∧ kids o = 1) ∨ (o ≠ 3 ∧ o ≠ 4 ∧ o ≠ 5 ∧ o ≠ 7 ∧ o ≠ 6 ∧ kids o = 0) := by
  unfold kids
  by_cases h3 : o = 3
  · exact .inl ⟨h3, by simp [h3]⟩
  by_cases h4 : o = 4
  · exact .inr (.inl ⟨h4, by simp [h4]⟩)
  by_cases h5 : o = 5
  · exact .inr (.inr (.inl ⟨h5, by simp [h5]⟩))
  by_cases h7 : o = 7
  · exact .inr (.inr (.inr (.inl ⟨h7, by simp [h7]⟩)))
  by_cases h6 : o = 6
  · exact .inr (.inr (.inr (.inr (.inl ⟨h6, by simp [h6]⟩))))
  · exact .inr (.inr (.inr (.inr (.inr ⟨h3, h4, h5, h7, h6, by simp [h3, h4, h5, h7, h6]⟩))))

theorem kids_cases (o : Int) : kids o = 0 ∨ kids o = 1 ∨ kids o = 2 := by
  rcases kids_ways o with h | h | h | h | h | h <;> omega

/-- The term at a place. -/
def tmAt (xs : List T4) (i : Int) : T4 := xs.getD i.toNat zTerm

/-- A field that the Op does not name is set. -/
@[irreducible] def tmForm (t : T4) : Bool := (decide (0 < kids t.o) && (t.n != 0)) || ((decide (kids t.o < 1) && (t.a != 0)) || (decide (kids t.o < 2) && (t.b != 0)))

/-- A number or a place is out of its bounds. -/
@[irreducible] def tmRange (m : Nat) (t : T4) : Bool := !btw t.n 0 9999 || ((decide (0 < kids t.o) && !btw t.a 0 ((m : Int) - 1)) || (decide (1 < kids t.o) && !btw t.b 0 ((m : Int) - 1)))

/-- It is of secrets. -/
@[irreducible] def ofSec (o : Int) : Bool := (o == 6) || (o == 7)

/-- The secrets are none, or in the wrong order. -/
@[irreducible] def tmSec (xs : List T4) (t : T4) : Bool := ((tmAt xs t.a).o != 2) || (decide (1 < kids t.o) && (((tmAt xs t.b).o != 2) || decide (t.b < t.a)))

/-- The fault of a term behind a right table. -/
@[irreducible] def tmC (xs : List T4) (t : T4) : Int :=
  if btw t.o 1 7 = true then (if tmForm t = true then 1 else if tmRange xs.length t = true then 3 else if (ofSec t.o && tmSec xs t) = true then 1 else 0) else 5

theorem tm_ways (xs : List T4) (t : T4) : (btw t.o 1 7 = false ∧ tmC xs t = 5) ∨ (btw t.o 1 7 = true ∧ tmForm t = true ∧ tmC xs t = 1) ∨ (btw t.o 1 7 = true ∧ tmForm t = false ∧ tmRange xs.length t = true ∧ tmC xs t = 3)
    ∨ (btw t.o 1 7 = true ∧ tmForm t = false ∧ tmRange xs.length t = false ∧ ofSec t.o = false ∧ tmC xs t = 0)
    ∨ (btw t.o 1 7 = true ∧ tmForm t = false ∧ tmRange xs.length t = false ∧ ofSec t.o = true ∧ tmSec xs t = true ∧ tmC xs t = 1)
    ∨ (btw t.o 1 7 = true ∧ tmForm t = false ∧ tmRange xs.length t = false ∧ ofSec t.o = true ∧ tmSec xs t = false ∧ tmC xs t = 0) := by
  unfold tmC
  cases btw t.o 1 7 <;> cases tmForm t <;> cases tmRange xs.length t <;> cases ofSec t.o <;> cases tmSec xs t <;> simp

theorem tm_codes (xs : List T4) (t : T4) : tmC xs t = 0 ∨ tmC xs t = 1 ∨ tmC xs t = 3 ∨ tmC xs t = 5 := by
  rcases tm_ways xs t with ⟨_, h⟩ | ⟨_, _, h⟩ | ⟨_, _, _, h⟩ | ⟨_, _, _, _, h⟩ | ⟨_, _, _, _, _, h⟩ | ⟨_, _, _, _, _, h⟩ <;> rw [h] <;> simp

/-- What a term without a fault is. -/
theorem tm_zero {xs : List T4} {t : T4} (h : tmC xs t = 0) : (1 ≤ t.o ∧ t.o ≤ 7) ∧ (0 ≤ t.n ∧ t.n ≤ 9999) ∧ (0 < kids t.o → t.n = 0 ∧ 0 ≤ t.a ∧ t.a < xs.length) ∧ (kids t.o < 1 → t.a = 0) ∧ (kids t.o < 2 → t.b = 0) ∧ (1 < kids t.o → 0 ≤ t.b ∧ t.b < xs.length) ∧ (ofSec t.o = true → tmSec xs t = false) := by
  have key : btw t.o 1 7 = true ∧ tmForm t = false ∧ tmRange xs.length t = false ∧ (ofSec t.o = true → tmSec xs t = false) := by
    rcases tm_ways xs t with ⟨_, h'⟩ | ⟨_, _, h'⟩ | ⟨_, _, _, h'⟩ | ⟨h1, h2, h3, h4, h'⟩ | ⟨_, _, _, _, _, h'⟩ | ⟨h1, h2, h3, h4, h5, h'⟩
    · omega
    · omega
    · omega
    · exact ⟨h1, h2, h3, fun e => by rw [h4] at e; cases e⟩
    · omega
    · exact ⟨h1, h2, h3, fun _ => h5⟩
  obtain ⟨h1, h2, h3, h4⟩ := key
  rw [btw_iff] at h1
  unfold tmForm at h2
  unfold tmRange at h3
  simp only [Bool.or_eq_false_iff, Bool.and_eq_false_iff, Bool.not_eq_false', btw_iff, decide_eq_false_iff_not, bne_eq_false_iff_eq] at h2 h3
  refine ⟨h1, h3.1, fun h => ⟨?_, ?_⟩, fun h => ?_, fun h => ?_, fun h => ?_, h4⟩ <;> omega

/-- The first fault of terms that stand behind others. -/
def tfF (pre : List T4) : List T4 → Int
  | [] => 0
  | t :: r => if tmC pre t = 0 then (if t ∈ pre then 7 else tfF (pre ++ [t]) r) else tmC pre t

/-- The fault of a table. -/
@[irreducible] def tfC (xs : List T4) : Int := if xs.length ≤ 400 then tfF [] xs else 2

/-- .. of what stands from a place on. -/
def tfK (xs : List T4) (k : Nat) : Int := tfF (xs.take k) (xs.drop k)

theorem tfK_zero (xs : List T4) : tfK xs 0 = tfF [] xs := by simp [tfK]

theorem tfK_end (xs : List T4) (k : Nat) (h : xs.length ≤ k) : tfK xs k = 0 := by
  unfold tfK; rw [List.drop_of_length_le h]; rfl

theorem tfK_step (xs : List T4) (k : Nat) (h : k < xs.length) {x : T4} (hx : xs.getD k zTerm = x) : tfK xs k = if tmC (xs.take k) x = 0 then (if x ∈ xs.take k then 7 else tfK xs (k + 1)) else tmC (xs.take k) x := by
  unfold tfK
  rw [dropTerm xs k h, takeTerm xs k h, tfF, hx]

theorem tfF_codes (pre xs : List T4) : tfF pre xs = 0 ∨ tfF pre xs = 1 ∨ tfF pre xs = 3 ∨ tfF pre xs = 5 ∨ tfF pre xs = 7 := by
  induction xs generalizing pre with
  | nil => exact .inl rfl
  | cons x xs ih =>
    rw [tfF]
    split
    · split
      · simp
      · exact ih _
    · rcases tm_codes pre x with h | h | h | h <;> rw [h] <;> simp

theorem tfC_codes (xs : List T4) : tfC xs = 0 ∨ tfC xs = 1 ∨ tfC xs = 2 ∨ tfC xs = 3 ∨ tfC xs = 5 ∨ tfC xs = 7 := by
  unfold tfC
  split
  · rcases tfF_codes [] xs with h | h | h | h | h <;> rw [h] <;> simp
  · simp

theorem tfF_zero {pre xs : List T4} (h : tfF pre xs = 0) : ∀ k, k < xs.length → tmC (pre ++ xs.take k) (xs.getD k zTerm) = 0 ∧ xs.getD k zTerm ∉ pre ++ xs.take k := by
  induction xs generalizing pre with
  | nil => intro k hk; simp at hk
  | cons x xs ih =>
    rw [tfF] at h
    by_cases h1 : tmC pre x = 0
    · rw [if_pos h1] at h
      by_cases h2 : x ∈ pre
      · rw [if_pos h2] at h; omega
      · rw [if_neg h2] at h
        intro k hk
        cases k with
        | zero => simpa using ⟨h1, h2⟩
        | succ k =>
          have := ih h k (by simpa using hk)
          simpa using this
    · rw [if_neg h1] at h; exact absurd h h1

/-- A right table. -/
theorem tfC_zero {xs : List T4} (h : tfC xs = 0) : xs.length ≤ 400 ∧ ∀ k, k < xs.length → tmC (xs.take k) (xs.getD k zTerm) = 0 ∧ xs.getD k zTerm ∉ xs.take k := by
  unfold tfC at h
  split at h
  · rename_i h1
    exact ⟨h1, fun k hk => by simpa using tfF_zero h k hk⟩
  · omega

theorem tfF_app (pre xs ys : List T4) : tfF pre (xs ++ ys) = if tfF pre xs = 0 then tfF (pre ++ xs) ys else tfF pre xs := by
  induction xs generalizing pre with
  | nil => simp [tfF]
  | cons x xs ih =>
    rw [List.cons_append, tfF, tfF]
    by_cases h1 : tmC pre x = 0
    · rw [if_pos h1, if_pos h1]
      by_cases h2 : x ∈ pre
      · rw [if_pos h2, if_pos h2]; simp
      · rw [if_neg h2, if_neg h2, ih]; simp
    · rw [if_neg h1, if_neg h1, if_neg h1]

theorem tfC_snoc {xs : List T4} {t : T4} (h : tfC xs = 0) (h1 : tmC xs t = 0) (h2 : t ∉ xs) (h3 : xs.length < 400) : tfC (xs ++ [t]) = 0 := by
  have hl := (tfC_zero h).1
  unfold tfC at *
  rw [if_pos hl] at h
  rw [if_pos (by simp; omega), tfF_app, if_pos h]
  simp [tfF, h1, h2]

/-- The place of a term. -/
def tmIdx (xs : List T4) (t : T4) : Nat := xs.findIdx fun x => x == t

theorem tmIdx_lt {xs : List T4} {t : T4} (h : t ∈ xs) : tmIdx xs t < xs.length := by
  unfold tmIdx; exact List.findIdx_lt_length_of_exists ⟨t, h, by simp⟩

theorem tmIdx_at {xs : List T4} {t : T4} (h : t ∈ xs) : xs.getD (tmIdx xs t) zTerm = t := by
  have h1 := tmIdx_lt h
  have h2 := List.findIdx_getElem (w := h1)
  have e : xs.getD (tmIdx xs t) zTerm = xs[tmIdx xs t] := by simp [List.getD, h1]
  rw [e]; exact eq_of_beq h2

theorem tmIdx_not {xs : List T4} {t : T4} {k : Nat} (h : k < tmIdx xs t) (hk : k < xs.length) : xs.getD k zTerm ≠ t := by
  have h3 := List.not_of_lt_findIdx h
  have e : xs.getD k zTerm = xs[k] := by simp [List.getD, hk]
  rw [e]; simpa using h3

theorem tmIdx_out {xs : List T4} {t : T4} (h : t ∉ xs) : tmIdx xs t = xs.length := by
  unfold tmIdx
  rw [List.findIdx_eq_length]
  intro x hx
  simp only [beq_eq_false_iff_ne]
  intro e; exact h (e ▸ hx)

/-- What comes of putting a term: the code, the place, the table. -/
structure Put where
  c : Int
  k : Int
  l : List T4

@[irreducible] def put (xs : List T4) (t : T4) : Put :=
  if tmC xs t = 0 then (if t ∈ xs then ⟨0, (tmIdx xs t : Nat), xs⟩ else if xs.length < 400 then ⟨0, (xs.length : Nat), xs ++ [t]⟩ else ⟨2, 0, []⟩) else ⟨tmC xs t, 0, []⟩

theorem put_ways (xs : List T4) (t : T4) : (tmC xs t ≠ 0 ∧ put xs t = ⟨tmC xs t, 0, []⟩) ∨ (tmC xs t = 0 ∧ t ∈ xs ∧ put xs t = ⟨0, (tmIdx xs t : Nat), xs⟩) ∨ (tmC xs t = 0 ∧ t ∉ xs ∧ 400 ≤ xs.length ∧ put xs t = ⟨2, 0, []⟩) ∨ (tmC xs t = 0 ∧ t ∉ xs ∧ xs.length < 400 ∧ put xs t = ⟨0, (xs.length : Nat), xs ++ [t]⟩) := by
  unfold put
  by_cases h1 : tmC xs t = 0
  · by_cases h2 : t ∈ xs
    · exact .inr (.inl ⟨h1, h2, by rw [if_pos h1, if_pos h2]⟩)
    · by_cases h3 : xs.length < 400
      · exact .inr (.inr (.inr ⟨h1, h2, h3, by rw [if_pos h1, if_neg h2, if_pos h3]⟩))
      · exact .inr (.inr (.inl ⟨h1, h2, by omega, by rw [if_pos h1, if_neg h2, if_neg h3]⟩))
  · exact .inl ⟨h1, by rw [if_neg h1]⟩

/-- Behind a put without a code the table is right, it begins as it did, and the term is there. -/
theorem put_right {xs : List T4} {t : T4} (h : tfC xs = 0) (hc : (put xs t).c = 0) : tfC (put xs t).l = 0 ∧ (∃ ys, (put xs t).l = xs ++ ys) ∧ 0 ≤ (put xs t).k ∧ (put xs t).k < (put xs t).l.length ∧ (put xs t).l.getD (put xs t).k.toNat zTerm = t := by
  rcases put_ways xs t with ⟨h1, e⟩ | ⟨h1, h2, e⟩ | ⟨h1, h2, h3, e⟩ | ⟨h1, h2, h3, e⟩
  · rw [e] at hc; exact absurd hc h1
  · rw [e]
    have hl := tmIdx_lt h2
    exact ⟨h, ⟨[], by simp⟩, by simp, by simpa using hl, by simpa using tmIdx_at h2⟩
  · rw [e] at hc; simp at hc
  · rw [e]
    exact ⟨tfC_snoc h h1 h2 h3, ⟨[t], rfl⟩, by simp, by simp; omega, by simp [List.getD]⟩

theorem put_len {xs : List T4} {t : T4} (h : xs.length ≤ 400) : (put xs t).l.length ≤ 400 := by
  rcases put_ways xs t with ⟨h1, e⟩ | ⟨h1, h2, e⟩ | ⟨h1, h2, h3, e⟩ | ⟨h1, h2, h3, e⟩ <;> rw [e]
  · simp
  · exact h
  · simp
  · simp; omega

end Go.Proofs.YthjaehcfakjemaaDoor
