/- A list put as pairs. -/
import Derived.Test.YthkmoabkeblbjaaTmE
namespace Go.Proofs.Ythkmoabkeblbjaa
open Go.RowKit

/-- A list put as pairs. -/
def plP (xs : List T4) : List Int → Put
  | [] => put xs ⟨1, 0, 0, 0⟩
  | [x] => ⟨0, x, xs⟩
  | x :: y :: r => if (plP xs (y :: r)).c = 0 then put (plP xs (y :: r)).l ⟨3, x, (plP xs (y :: r)).k, 0⟩ else plP xs (y :: r)

theorem plP_two (xs : List T4) (x y : Int) (r : List Int) : plP xs (x :: y :: r) = if (plP xs (y :: r)).c = 0 then put (plP xs (y :: r)).l ⟨3, x, (plP xs (y :: r)).k, 0⟩ else plP xs (y :: r) := by rw [plP]

theorem plP_len {xs : List T4} (h : xs.length ≤ 400) : ∀ zs, (plP xs zs).l.length ≤ 400
  | [] => put_len h
  | [x] => h
  | x :: y :: r => by
    rw [plP_two]
    have ih := plP_len h (y :: r)
    split
    · exact put_len ih
    · exact ih

theorem put_bad {xs : List T4} {t : T4} (h : (put xs t).c ≠ 0) : put xs t = ⟨(put xs t).c, 0, []⟩ := by
  rcases put_ways xs t with ⟨_, e⟩ | ⟨_, _, e⟩ | ⟨_, _, _, e⟩ | ⟨_, _, _, e⟩ <;> rw [e] at h ⊢ <;> simp at h ⊢

theorem plP_bad {xs : List T4} : ∀ zs, (plP xs zs).c ≠ 0 → plP xs zs = ⟨(plP xs zs).c, 0, []⟩
  | [], h => put_bad h
  | [x], h => absurd rfl h
  | x :: y :: r, h => by
    rw [plP_two] at h ⊢
    split at h
    · rename_i h1
      rw [if_pos h1] at *
      exact put_bad h
    · rename_i h1
      rw [if_neg h1] at *
      exact plP_bad (y :: r) h

/-- What comes of putting a list into whatever table. -/
@[irreducible] def plT (xs : List T4) (zs : List Int) : Put := if tfC xs = 0 then (if (zs.all fun z => btw z 0 ((xs.length : Int) - 1)) = true then plP xs zs else ⟨3, 0, []⟩) else ⟨tfC xs, 0, []⟩

theorem plT_ways (xs : List T4) (zs : List Int) : (tfC xs ≠ 0 ∧ plT xs zs = ⟨tfC xs, 0, []⟩) ∨ (tfC xs = 0 ∧ (zs.all fun z => btw z 0 ((xs.length : Int) - 1)) = false ∧ plT xs zs = ⟨3, 0, []⟩) ∨ (tfC xs = 0 ∧ (zs.all fun z => btw z 0 ((xs.length : Int) - 1)) = true ∧ plT xs zs = plP xs zs) := by
  unfold plT
  by_cases h : tfC xs = 0
  · rw [if_pos h]
    cases h2 : zs.all fun z => btw z 0 ((xs.length : Int) - 1)
    · exact .inr (.inl ⟨h, rfl, by simp⟩)
    · exact .inr (.inr ⟨h, rfl, by simp⟩)
  · exact .inl ⟨h, by rw [if_neg h]⟩

/-- From the last but one on down. -/
theorem plP_drop (xs : List T4) (zs : List Int) (k : Nat) (h : k + 1 < zs.length) {z : Int} (hz : zs.getD k 0 = z) :
    plP xs (zs.drop k) = if (plP xs (zs.drop (k + 1))).c = 0 then put (plP xs (zs.drop (k + 1))).l ⟨3, z, (plP xs (zs.drop (k + 1))).k, 0⟩ else plP xs (zs.drop (k + 1)) := by
  have e : zs.drop k = z :: zs.drop (k + 1) := by
    rw [List.drop_eq_getElem_cons (by omega)]
    have : zs[k] = z := by rw [← hz]; simp [List.getD, show k < zs.length by omega]
    rw [this]
  obtain ⟨y, r, h2⟩ : ∃ y r, zs.drop (k + 1) = y :: r := by
    rw [List.drop_eq_getElem_cons h]; exact ⟨_, _, rfl⟩
  rw [e, h2, plP_two]

theorem plP_last (xs : List T4) (zs : List Int) (k : Nat) (h : k + 1 = zs.length) {z : Int} (hz : zs.getD k 0 = z) : plP xs (zs.drop k) = ⟨0, z, xs⟩ := by
  have e : zs.drop k = [z] := by
    rw [List.drop_eq_getElem_cons (by omega), List.drop_of_length_le (by omega)]
    have : zs[k] = z := by rw [← hz]; simp [List.getD, show k < zs.length by omega]
    rw [this]
  rw [e, plP]

theorem put_k {xs : List T4} {t : T4} (h : xs.length ≤ 400) : 0 ≤ (put xs t).k ∧ (put xs t).k ≤ 400 := by
  rcases put_ways xs t with ⟨_, e⟩ | ⟨_, h2, e⟩ | ⟨_, _, _, e⟩ | ⟨_, _, _, e⟩ <;> rw [e] <;> simp
  · have := tmIdx_lt h2; omega
  · omega

theorem plP_k {xs : List T4} (h : xs.length ≤ 400) : ∀ zs : List Int, (∀ z ∈ zs, 0 ≤ z ∧ z ≤ 400) → 0 ≤ (plP xs zs).k ∧ (plP xs zs).k ≤ 400
  | [], _ => put_k h
  | [x], hz => hz x (by simp)
  | x :: y :: r, hz => by
    rw [plP_two]
    split
    · exact put_k (plP_len h _)
    · exact plP_k h (y :: r) (fun z hz' => hz z (by simp at hz' ⊢; right; exact hz'))

theorem plP_stuck (xs : List T4) (zs : List Int) : ∀ j, j < zs.length → (plP xs (zs.drop j)).c ≠ 0 → plP xs zs = plP xs (zs.drop j)
  | 0, _, _ => by simp
  | j + 1, h, hc => by
    have e := plP_drop xs zs j h rfl
    rw [if_neg hc] at e
    rw [← e]
    exact plP_stuck xs zs j (by omega) (by rw [e]; exact hc)

end Go.Proofs.Ythkmoabkeblbjaa
