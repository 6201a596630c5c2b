/- Narrowed lists hold just the packets that both lists hold. -/
import Derived.Test.YtmbkbbephmblmaaNrA
import Derived.Test.YtmbkbbephmblmaaSelO
import Derived.Test.YtmbkbbephmblmaaPkL
namespace Go.Proofs.Ytmbkbbephmblmaa
open Go.RowKit

theorem nin_iff {out : List S9} {z : S9} : nin out z = true ↔ ∃ o ∈ out, inW z o = true := by
  unfold nin; exact List.any_eq_true

theorem nstep_right {x y : S9} {out : List S9} (hx : sfC x = 0) (hy : sfC y = 0) (ho : ∀ o ∈ out, sfC o = 0) : ∀ o ∈ nstep x y out, sfC o = 0 := by
  by_cases h : mtC x y = 0
  · cases h2 : nin out (mtS x y)
    · rw [nstep_put h h2]; exact right_put ho (mt_fault hx hy h)
    · rw [nstep_in h2]; exact ho
  · rw [nstep_no h]; exact ho

theorem nstep_any {x y : S9} {out : List S9} (hx : sfC x = 0) (hy : sfC y = 0) (ho : ∀ o ∈ out, sfC o = 0) (f t r l u v : Int) (m : Nat) :
    ((nstep x y out).any fun z => hoP z f t r l u v m) = ((out.any fun z => hoP z f t r l u v m) || (hoP x f t r l u v m && hoP y f t r l u v m)) := by
  rw [meet_holds hx hy]
  by_cases h : mtC x y = 0
  · have h0 : (mtC x y == 0) = true := by rw [h]; rfl
    rw [h0, Bool.true_and]
    cases h2 : nin out (mtS x y)
    · rw [nstep_put h h2, List.any_append]; simp
    · rw [nstep_in h2]
      cases h3 : hoP (mtS x y) f t r l u v m
      · simp
      · obtain ⟨o, ho1, ho2⟩ := nin_iff.1 h2
        have h4 := wiP_holds (wiP_iff.2 ⟨mt_fault hx hy h, ho o ho1, ho2⟩) h3
        have : (out.any fun z => hoP z f t r l u v m) = true := List.any_eq_true.2 ⟨o, ho1, h4⟩
        rw [this]; rfl
  · have h0 : (mtC x y == 0) = false := by simp [h]
    rw [nstep_no h, h0]; simp

theorem nrow_right {x : S9} {ys out : List S9} (hx : sfC x = 0) (hy : ∀ y ∈ ys, sfC y = 0) (ho : ∀ o ∈ out, sfC o = 0) : ∀ o ∈ nrow x ys out, sfC o = 0 := by
  induction ys generalizing out with
  | nil => exact ho
  | cons y ys ih => exact ih (fun z hz => hy z (by simp [hz])) (nstep_right hx (hy y (by simp)) ho)

theorem nrow_any {x : S9} {ys out : List S9} (hx : sfC x = 0) (hy : ∀ y ∈ ys, sfC y = 0) (ho : ∀ o ∈ out, sfC o = 0) (f t r l u v : Int) (m : Nat) :
    ((nrow x ys out).any fun z => hoP z f t r l u v m) = ((out.any fun z => hoP z f t r l u v m) || (hoP x f t r l u v m && ys.any fun z => hoP z f t r l u v m)) := by
  induction ys generalizing out with
  | nil => simp [nrow]
  | cons y ys ih =>
    have e : nrow x (y :: ys) out = nrow x ys (nstep x y out) := rfl
    rw [e, ih (fun z hz => hy z (by simp [hz])) (nstep_right hx (hy y (by simp)) ho), nstep_any hx (hy y (by simp)) ho, List.any_cons]
    generalize (out.any fun z => hoP z f t r l u v m) = b1
    generalize (ys.any fun z => hoP z f t r l u v m) = b2
    generalize hoP x f t r l u v m = b3
    generalize hoP y f t r l u v m = b4
    revert b1 b2 b3 b4; decide

theorem nall_right {ys xs out : List S9} (hx : ∀ x ∈ xs, sfC x = 0) (hy : ∀ y ∈ ys, sfC y = 0) (ho : ∀ o ∈ out, sfC o = 0) : ∀ o ∈ nall ys xs out, sfC o = 0 := by
  induction xs generalizing out with
  | nil => exact ho
  | cons x xs ih => exact ih (fun z hz => hx z (by simp [hz])) (nrow_right (hx x (by simp)) hy ho)

theorem nall_any {ys xs out : List S9} (hx : ∀ x ∈ xs, sfC x = 0) (hy : ∀ y ∈ ys, sfC y = 0) (ho : ∀ o ∈ out, sfC o = 0) (f t r l u v : Int) (m : Nat) :
    ((nall ys xs out).any fun z => hoP z f t r l u v m) = ((out.any fun z => hoP z f t r l u v m) || ((xs.any fun z => hoP z f t r l u v m) && ys.any fun z => hoP z f t r l u v m)) := by
  induction xs generalizing out with
  | nil => simp [nall]
  | cons x xs ih =>
    have e : nall ys (x :: xs) out = nall ys xs (nrow x ys out) := rfl
    rw [e, ih (fun z hz => hx z (by simp [hz])) (nrow_right (hx x (by simp)) hy ho), nrow_any (hx x (by simp)) hy ho, List.any_cons]
    generalize (out.any fun z => hoP z f t r l u v m) = b1
    generalize (ys.any fun z => hoP z f t r l u v m) = b2
    generalize (xs.any fun z => hoP z f t r l u v m) = b5
    generalize hoP x f t r l u v m = b3
    revert b1 b2 b3 b5; decide

theorem ssF_codes (xs : List S9) : ssF xs = 0 ∨ ssF xs = 1 ∨ ssF xs = 3 := by
  induction xs with
  | nil => exact .inl rfl
  | cons x xs ih =>
    rw [ssF]
    rcases sfC_cases x with h | h | h
    · rw [if_pos h]; exact ih
    · rw [h, if_neg (by decide)]; exact .inr (.inl rfl)
    · rw [h, if_neg (by decide)]; exact .inr (.inr rfl)

theorem ssC_codes (xs : List S9) : ssC xs ≠ 4 := by
  unfold ssC
  split
  · rcases ssF_codes xs with h | h | h <;> rw [h] <;> decide
  · decide

/-- What is narrowed, where the code is 0 or that of none. -/
theorem na_holds {xs ys : List S9} (h : naC xs ys = 0 ∨ naC xs ys = 4) :
    ssC xs = 0 ∧ ssC ys = 0 ∧ ∀ f t r l u v m, (haP xs f t r l u v m && haP ys f t r l u v m) = ((naC xs ys == 0) && haP (naL xs ys) f t r l u v m) := by
  rcases na_ways xs ys with ⟨h1, h2, h3⟩ | ⟨h1, h2, h3, h4⟩ | ⟨h1, h2, h3, h4⟩
  · have := ssC_codes xs; omega
  · have := ssC_codes ys; omega
  · refine ⟨h1, h2, fun f t r l u v m => ?_⟩
    have hx := (ssC_zero h1).2
    have hy := (ssC_zero h2).2
    have ho : ∀ o ∈ ([] : List S9), sfC o = 0 := fun o h => by cases h
    have hr := nall_right hx hy ho
    have ha := nall_any hx hy ho f t r l u v m
    rw [haP_any h1, haP_any h2] at ha
    rw [h3, h4]
    rw [h3] at h
    generalize nall ys xs [] = full at *
    rcases nr_ways full with ⟨e1, e2, e3⟩ | ⟨e1, e2, e3, e4⟩ | ⟨e1, e2, e3, e4⟩
    · have : full = [] := List.eq_nil_of_length_eq_zero e1
      subst this
      rw [e2]
      simp only [List.any_nil, Bool.false_or] at ha
      rw [← ha]; rfl
    · omega
    · rw [e3, e4, ← haP_any (ssC_all (by omega) (by omega) hr), ha]; rfl

theorem naL_le (xs ys : List S9) : (naL xs ys).length ≤ 12 := by
  rcases na_ways xs ys with ⟨_, _, h⟩ | ⟨_, _, _, h⟩ | ⟨_, _, _, h⟩
  · rw [h]; exact Nat.zero_le _
  · rw [h]; exact Nat.zero_le _
  · rw [h]
    rcases nr_ways (nall ys xs []) with ⟨_, _, h2⟩ | ⟨_, _, _, h2⟩ | ⟨_, h1, _, h2⟩
    · rw [h2]; exact Nat.zero_le _
    · rw [h2]; exact Nat.zero_le _
    · rw [h2]; omega

/-- The sample of a selector. -/
def smK (x : S9) : K7 := ⟨x.a, x.c, if x.r = 0 then 6 else x.r, 64, x.e, x.g, none, 0, 0⟩

/-- Packets, and the samples of the first selectors behind. -/
def smL (p : K7) (xs : List S9) (k : Nat) : List K7 := p :: (xs.take k).map smK

theorem smL_len (p : K7) (xs : List S9) (k : Nat) (h : k ≤ xs.length) : (smL p xs k).length = k + 1 := by
  unfold smL; simp [Nat.min_eq_left h]

theorem smL_next (p : K7) (xs : List S9) (k : Nat) (h : k < xs.length) {x : S9} (hx : xs.getD k z9 = x) : smL p xs k ++ [smK x] = smL p xs (k + 1) := by
  unfold smL
  rw [take_snocS xs k h, List.map_append, hx]; rfl

theorem smL_one (p : K7) (xs : List S9) (k : Nat) (h : 0 < k) (h2 : k ≤ xs.length) : (smL p xs k).getD 1 z7 = smK (xs.getD 0 z9) := by
  unfold smL
  cases xs with
  | nil => simp at h2; omega
  | cons x xs => obtain ⟨j, rfl⟩ : ∃ j, k = j + 1 := ⟨k - 1, by omega⟩; rfl

theorem smL_mem {p : K7} {xs : List S9} {k : Nat} : smL p xs k ≠ [] := by unfold smL; exact List.cons_ne_nil _ _

/-- The first one's sample is held. -/
theorem ha_sample {xs : List S9} (h : ssC xs = 0) : haP xs (smK (xs.getD 0 z9)).f (smK (xs.getD 0 z9)).t (smK (xs.getD 0 z9)).r (smK (xs.getD 0 z9)).l (smK (xs.getD 0 z9)).u (smK (xs.getD 0 z9)).v (smK (xs.getD 0 z9)).m = true := by
  rw [← haP_any h]
  obtain ⟨⟨h1, _⟩, h2⟩ := ssC_zero h
  have hm : xs.getD 0 z9 ∈ xs := getD_mem h1
  exact List.any_eq_true.2 ⟨_, hm, holds_sample (h2 _ hm) _ rfl⟩

end Go.Proofs.Ytmbkbbephmblmaa
