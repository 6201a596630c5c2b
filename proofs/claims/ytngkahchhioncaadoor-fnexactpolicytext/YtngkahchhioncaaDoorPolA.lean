/- The policy as numbers: faults, the first rule, what is shadowed. -/
import Derived.Test.YtngkahchhioncaaDoorRuleA
import Derived.Test.YtngkahchhioncaaDoorSelW
import Derived.Test.YtngkahchhioncaaDoorSelY
namespace Go.Proofs.YtngkahchhioncaaDoor
open Go.RowKit

/-- The fault of a rule. -/
@[irreducible] def ruC (x : R11) : Int := if sfC x.s = 0 then (if btw x.p 1 3 = true then (if x.p = 3 then (if btw x.q 1 9 = true then 0 else 1) else (if x.q = 0 then 0 else 1)) else 3) else sfC x.s

/-- The ways of a rule's fault. -/
theorem ru_ways (x : R11) : ((sfC x.s != 0) = true ∧ ruC x = sfC x.s ∧ sfC x.s ≠ 0) ∨ (sfC x.s = 0 ∧ btw x.p 1 3 = false ∧ ruC x = 3) ∨ (sfC x.s = 0 ∧ btw x.p 1 3 = true ∧ (x.p == 3) = true ∧ btw x.q 1 9 = false ∧ ruC x = 1) ∨ (sfC x.s = 0 ∧ btw x.p 1 3 = true ∧ (x.p == 3) = true ∧ btw x.q 1 9 = true ∧ ruC x = 0) ∨ (sfC x.s = 0 ∧ btw x.p 1 3 = true ∧ (x.p == 3) = false ∧ (x.q != 0) = true ∧ ruC x = 1) ∨ (sfC x.s = 0 ∧ btw x.p 1 3 = true ∧ (x.p == 3) = false ∧ (x.q != 0) = false ∧ ruC x = 0) := by
  unfold ruC
  by_cases h1 : sfC x.s = 0
  · rw [if_pos h1]
    cases h2 : btw x.p 1 3
    · exact .inr (.inl ⟨h1, rfl, by simp⟩)
    · by_cases h3 : x.p = 3
      · cases h4 : btw x.q 1 9
        · exact .inr (.inr (.inl ⟨h1, rfl, by simp [h3], rfl, by simp [h3]⟩))
        · exact .inr (.inr (.inr (.inl ⟨h1, rfl, by simp [h3], rfl, by simp [h3]⟩)))
      · by_cases h4 : x.q = 0
        · exact .inr (.inr (.inr (.inr (.inr ⟨h1, rfl, by simp [h3], by simp [h4], by simp [h3, h4]⟩))))
        · exact .inr (.inr (.inr (.inr (.inl ⟨h1, rfl, by simp [h3], by simp [h4], by simp [h3, h4]⟩))))
  · rw [if_neg h1]; exact .inl ⟨by simp [h1], rfl, h1⟩

/-- What a rule without a fault is. -/
theorem ru_zero {x : R11} (h : ruC x = 0) : sfC x.s = 0 ∧ 1 ≤ x.p ∧ x.p ≤ 3 ∧ ((x.p = 3 ∧ 1 ≤ x.q ∧ x.q ≤ 9) ∨ (x.p ≠ 3 ∧ x.q = 0)) := by
  rcases ru_ways x with ⟨_, h1, h2⟩ | ⟨_, _, h1⟩ | ⟨_, _, _, _, h1⟩ | ⟨h1, h2, h3, h4, _⟩ | ⟨_, _, _, _, h1⟩ | ⟨h1, h2, h3, h4, _⟩
  · omega
  · omega
  · omega
  · rw [btw_iff] at h2 h4; simp at h3; exact ⟨h1, by omega, by omega, .inl ⟨h3, by omega, by omega⟩⟩
  · omega
  · rw [btw_iff] at h2; simp at h3 h4; exact ⟨h1, by omega, by omega, .inr ⟨h3, h4⟩⟩

theorem ru_codes (x : R11) : ruC x = 0 ∨ ruC x = 1 ∨ ruC x = 3 := by
  rcases ru_ways x with ⟨_, h1, _⟩ | ⟨_, _, h1⟩ | ⟨_, _, _, _, h1⟩ | ⟨_, _, _, _, h1⟩ | ⟨_, _, _, _, h1⟩ | ⟨_, _, _, _, h1⟩
  · rw [h1]; exact sfC_cases x.s
  all_goals omega

/-- The first fault of rules. -/
def pyF : List R11 → Int
  | [] => 0
  | x :: xs => if ruC x = 0 then pyF xs else ruC x

/-- The fault of a policy. -/
@[irreducible] def pyC (xs : List R11) : Int := if xs.length ≤ 20 then pyF xs else 2

theorem pyF_drop (xs : List R11) (k : Nat) (h : k < xs.length) : pyF (xs.drop k) = if ruC (xs.getD k zRule) = 0 then pyF (xs.drop (k + 1)) else ruC (xs.getD k zRule) := by
  rw [dropRule xs k h]; rfl

theorem pyF_zero {xs : List R11} (h : pyF xs = 0) : ∀ x ∈ xs, ruC x = 0 := by
  induction xs with
  | nil => intro x hx; cases hx
  | cons y xs ih =>
    simp only [pyF] at h
    by_cases hy : ruC y = 0
    · rw [if_pos hy] at h
      intro x hx
      rcases List.mem_cons.1 hx with rfl | hx
      · exact hy
      · exact ih h x hx
    · rw [if_neg hy] at h; exact absurd h hy

theorem pyF_all {xs : List R11} (h : ∀ x ∈ xs, ruC x = 0) : pyF xs = 0 := by
  induction xs with
  | nil => rfl
  | cons y xs ih => rw [pyF, if_pos (h y (by simp))]; exact ih fun x hx => h x (by simp [hx])

theorem pyC_zero {xs : List R11} (h : pyC xs = 0) : xs.length ≤ 20 ∧ ∀ x ∈ xs, ruC x = 0 := by
  unfold pyC at h
  split at h
  · exact ⟨by assumption, pyF_zero h⟩
  · omega

theorem pyC_all {xs : List R11} (h2 : xs.length ≤ 20) (h : ∀ x ∈ xs, ruC x = 0) : pyC xs = 0 := by
  unfold pyC
  rw [if_pos h2, pyF_all h]

theorem pyF_codes (xs : List R11) : pyF xs = 0 ∨ pyF xs = 1 ∨ pyF xs = 3 := by
  induction xs with
  | nil => exact .inl rfl
  | cons x xs ih =>
    rw [pyF]
    rcases ru_codes x with h | h | h
    · rw [if_pos h]; exact ih
    · rw [h, if_neg (by decide)]; exact .inr (.inl rfl)
    · rw [h, if_neg (by decide)]; exact .inr (.inr rfl)

theorem pyC_codes (xs : List R11) : pyC xs = 0 ∨ pyC xs = 1 ∨ pyC xs = 2 ∨ pyC xs = 3 := by
  unfold pyC
  split
  · rcases pyF_codes xs with h | h | h <;> omega
  · omega

/-- The place of the first rule that holds a packet; the length, if there is none. -/
def fstK (xs : List R11) (f t r u v : Int) : Nat := xs.findIdx fun x => inP x.s f t r u v

theorem fstK_le (xs : List R11) (f t r u v : Int) : fstK xs f t r u v ≤ xs.length := List.findIdx_le_length

/-- The walk to the first: the place is told by what has been gone through. -/
theorem fst_step {xs : List R11} {f t r u v : Int} {k : Nat} (h : k ≤ fstK xs f t r u v) (hk : k < xs.length) {x : R11} (hx : xs.getD k zRule = x) : (inP x.s f t r u v = true → fstK xs f t r u v = k) ∧ (inP x.s f t r u v = false → k + 1 ≤ fstK xs f t r u v) := by
  have e : xs.getD k zRule = xs[k] := by simp [List.getD, hk]
  rw [e] at hx
  refine ⟨fun h1 => ?_, fun h1 => ?_⟩
  · rcases Nat.lt_or_ge k (fstK xs f t r u v) with h2 | h2
    · have h3 := List.not_of_lt_findIdx h2
      rw [hx, h1] at h3; simp at h3
    · omega
  · rcases Nat.lt_or_ge k (fstK xs f t r u v) with h2 | h2
    · omega
    · have h4 : fstK xs f t r u v = k := by omega
      have h5 : fstK xs f t r u v < xs.length := by omega
      have h3 := List.findIdx_getElem (w := h5)
      simp only [fstK] at h4 h3
      simp only [h4, hx, h1] at h3
      cases h3

theorem fst_has {xs : List R11} {f t r u v : Int} (h : fstK xs f t r u v < xs.length) : inP (xs.getD (fstK xs f t r u v) zRule).s f t r u v = true := by
  have h3 := List.findIdx_getElem (w := h)
  have e : xs.getD (fstK xs f t r u v) zRule = xs[fstK xs f t r u v] := by simp [List.getD, h]
  rw [e]; exact h3

theorem fst_not {xs : List R11} {f t r u v : Int} {k : Nat} (h : k < fstK xs f t r u v) : inP (xs.getD k zRule).s f t r u v = false := by
  have h2 := fstK_le xs f t r u v
  have h3 := List.not_of_lt_findIdx h
  have e : xs.getD k zRule = xs[k]'(by omega) := by simp [List.getD, show k < xs.length by omega]
  rw [e]; simpa using h3

/-- A rule of the list is within one of the first 'k'. -/
@[irreducible] def shP (xs : List R11) (z : S9) (k : Nat) : Bool := (xs.take k).any fun y => inW z y.s

theorem shP_zero (xs : List R11) (z : S9) : shP xs z 0 = false := by unfold shP; simp

theorem shP_next (xs : List R11) (z : S9) (k : Nat) (h : k < xs.length) {y : R11} (hy : xs.getD k zRule = y) : shP xs z (k + 1) = (shP xs z k || inW z y.s) := by
  unfold shP; rw [takeRule xs k h, List.any_append, hy]; simp

/-- A rule further on is within it as well. -/
theorem shP_more {xs : List R11} {z : S9} {k m : Nat} (h : shP xs z k = true) (hk : k ≤ m) : shP xs z m = true := by
  unfold shP at *
  obtain ⟨y, hy, h2⟩ := List.any_eq_true.1 h
  exact List.any_eq_true.2 ⟨y, (List.take_subset_take_left xs hk) hy, h2⟩

/-- The rule at place 'i' is shadowed. -/
def shAt (xs : List R11) (i : Nat) : Bool := shP xs (xs.getD i zRule).s i

/-- The places that are shadowed, of the first 'k'. -/
def shL (xs : List R11) (k : Nat) : List Nat := (List.range k).filter fun i => shAt xs i

theorem shL_zero (xs : List R11) : shL xs 0 = [] := rfl

theorem shL_next (xs : List R11) (k : Nat) : shL xs (k + 1) = shL xs k ++ (if shAt xs k = true then [k] else []) := by
  unfold shL
  rw [List.range_succ, List.filter_append]
  cases h : shAt xs k <;> simp [h]

theorem shL_len (xs : List R11) (k : Nat) : (shL xs k).length ≤ k := by
  unfold shL; have := List.length_filter_le (fun i => shAt xs i) (List.range k); simpa using this

theorem shL_mem {xs : List R11} {k i : Nat} : i ∈ shL xs k ↔ i < k ∧ shAt xs i = true := by unfold shL; simp

/-- The rules that stay, of the first 'k'. -/
def trL (xs : List R11) (k : Nat) : List R11 := ((List.range k).filter fun i => !shAt xs i).map fun i => xs.getD i zRule

theorem trL_zero (xs : List R11) : trL xs 0 = [] := rfl

theorem trL_next (xs : List R11) (k : Nat) : trL xs (k + 1) = trL xs k ++ (if shAt xs k = true then [] else [xs.getD k zRule]) := by
  unfold trL
  rw [List.range_succ, List.filter_append, List.map_append]
  cases h : shAt xs k <;> simp [h]

theorem trL_len (xs : List R11) (k : Nat) : (trL xs k).length + (shL xs k).length = k := by
  induction k with
  | zero => rfl
  | succ k ih =>
    rw [trL_next, shL_next, List.length_append, List.length_append]
    cases shAt xs k <;> simp <;> omega

/-- The selectors of a peer's rules, of the first 'k': no more than twelve. -/
def ofL (xs : List R11) (q : Int) (k : Nat) : List S9 := (((xs.take k).filter fun x => (x.p == 3) && (x.q == q)).map R11.s).take 12

end Go.Proofs.YtngkahchhioncaaDoor
