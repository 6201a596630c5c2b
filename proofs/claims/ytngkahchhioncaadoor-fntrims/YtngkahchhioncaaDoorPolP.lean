/- What a policy decides when it is trimmed, and when rules change places. No program stands here. -/
import Derived.Test.YtngkahchhioncaaDoorPolH
import Derived.Test.YtngkahchhioncaaDoorPolK
import Derived.Test.YtngkahchhioncaaDoorPolN
import Derived.Test.YtngkahchhioncaaDoorPur2
namespace Go.Proofs.YtngkahchhioncaaDoor
open Go.RowKit

theorem find_idx {α : Type} (l : List α) (P : α → Bool) : l.find? P = l[l.findIdx P]? := by
  induction l with
  | nil => rfl
  | cons x l ih =>
    rw [List.find?_cons, List.findIdx_cons]
    cases h : P x
    · simp [ih]
    · simp

theorem inW_in {x y : S9} {f t r u v : Int} (h : inW x y = true) (h2 : inP x f t r u v = true) : inP y f t r u v = true := by
  rw [inW_iff] at h
  rw [inP_iff] at h2 ⊢
  omega

/-- The first rule that holds a packet, as a rule. -/
def fiR (xs : List R11) (f t r u v : Int) : Option R11 := xs.find? fun x => inP x.s f t r u v

theorem fi_none {xs : List R11} {f t r u v : Int} (h : ¬ fstK xs f t r u v < xs.length) : fiR xs f t r u v = none := by
  unfold fiR
  rw [find_idx]
  unfold fstK at h
  exact List.getElem?_eq_none (by omega)

theorem fi_some {xs : List R11} {f t r u v : Int} (h : fstK xs f t r u v < xs.length) : fiR xs f t r u v = some (xs.getD (fstK xs f t r u v) zRule) := by
  unfold fiR
  rw [find_idx]
  unfold fstK at *
  rw [List.getElem?_eq_getElem h]
  simp [List.getD, h]

/-- What 'FirstRule' and 'ActionFor' answer hangs on it alone. -/
theorem fr_of {xs ys : List R11} {f t r l u v : Int} {m : Nat} (ha : asC xs f t r l u v m = asC ys f t r l u v m) (h : fiR xs f t r u v = fiR ys f t r u v) :
    frC xs f t r l u v m = frC ys f t r l u v m ∧ frR xs f t r l u v m = frR ys f t r l u v m := by
  rcases fr_ways xs f t r l u v m with ⟨_, h1, e1, _, e3, _⟩ | ⟨h1, h2, e1, _, e3, _⟩ | ⟨h1, h2, e1, _, e3, _⟩ <;>
  rcases fr_ways ys f t r l u v m with ⟨_, h1', e1', _, e3', _⟩ | ⟨h1', h2', e1', _, e3', _⟩ | ⟨h1', h2', e1', _, e3', _⟩
  · rw [e1, e3, e1', e3', ha]; exact ⟨rfl, rfl⟩
  · exact absurd (ha.trans h1') h1
  · exact absurd (ha.trans h1') h1
  · exact absurd (ha.symm.trans h1) h1'
  · rw [e1, e3, e1', e3']; exact ⟨rfl, rfl⟩
  · rw [fi_none h2, fi_some h2'] at h; cases h
  · exact absurd (ha.symm.trans h1) h1'
  · rw [fi_some h2, fi_none h2'] at h; cases h
  · rw [fi_some h2, fi_some h2'] at h
    rw [e1, e3, e1', e3']
    exact ⟨rfl, Option.some.inj h⟩

theorem af_of {xs ys : List R11} {f t r l u v : Int} {m : Nat} (ha : asC xs f t r l u v m = asC ys f t r l u v m) (h : (fiR xs f t r u v).map R11.p = (fiR ys f t r u v).map R11.p) :
    afV xs f t r l u v m = afV ys f t r l u v m := by
  rcases fr_ways xs f t r l u v m with ⟨_, h1, _, _, _, e1⟩ | ⟨h1, h2, _, _, _, e1⟩ | ⟨h1, h2, _, _, _, e1⟩ <;>
  rcases fr_ways ys f t r l u v m with ⟨_, h1', _, _, _, e1'⟩ | ⟨h1', h2', _, _, _, e1'⟩ | ⟨h1', h2', _, _, _, e1'⟩
  · rw [e1, e1']
  · exact absurd (ha.trans h1') h1
  · exact absurd (ha.trans h1') h1
  · exact absurd (ha.symm.trans h1) h1'
  · rw [e1, e1']
  · rw [fi_none h2, fi_some h2'] at h; cases h
  · exact absurd (ha.symm.trans h1) h1'
  · rw [fi_some h2, fi_none h2'] at h; cases h
  · rw [fi_some h2, fi_some h2'] at h
    rw [e1, e1']
    simpa using h

theorem as_of {xs ys : List R11} {f t r l u v : Int} {m : Nat} (hx : pyC xs = 0) (hy : pyC ys = 0) : asC xs f t r l u v m = asC ys f t r l u v m := by
  unfold asC; rw [if_pos hx, if_pos hy]

/-- Trimmed rules decide the same. -/
theorem tr_find (xs : List R11) (f t r u v : Int) (k : Nat) (hk : k ≤ xs.length) : fiR (trL xs k) f t r u v = fiR (xs.take k) f t r u v := by
  induction k with
  | zero => rw [trL_zero]; simp [fiR]
  | succ k ih =>
    have ih := ih (by omega)
    obtain ⟨x, hx⟩ : ∃ x, xs.getD k zRule = x := ⟨_, rfl⟩
    unfold fiR at *
    rw [trL_next, takeRule xs k (by omega), hx, List.find?_append, List.find?_append, ih]
    cases hs : shAt xs k
    · rfl
    · simp only [if_true, List.find?_nil]
      rw [List.find?_singleton]
      by_cases hp : inP x.s f t r u v = true
      · unfold shAt at hs
        rw [hx] at hs
        unfold shP at hs
        obtain ⟨y, hy, hw⟩ := List.any_eq_true.1 hs
        have h1 := inW_in hw hp
        cases hf : (xs.take k).find? fun x => inP x.s f t r u v with
        | none => have := List.find?_eq_none.1 hf y hy; simp only [h1, not_true] at this
        | some z => rfl
      · simp [hp]

theorem trL_mem {xs : List R11} {k : Nat} (hk : k ≤ xs.length) : ∀ x ∈ trL xs k, x ∈ xs := by
  intro x hx
  unfold trL at hx
  obtain ⟨i, hi, rfl⟩ := List.mem_map.1 hx
  have hi2 := List.mem_range.1 (List.mem_filter.1 hi).1
  exact getDRule_mem (by omega)

theorem tr_fault {xs : List R11} (h : pyC xs = 0) : pyC (trL xs xs.length) = 0 := by
  obtain ⟨h1, h2⟩ := pyC_zero h
  refine pyC_all ?_ fun x hx => h2 x (trL_mem (Nat.le_refl _) x hx)
  have := trL_le xs xs.length
  omega

theorem tr_first {xs : List R11} (h : pyC xs = 0) (f t r l u v : Int) (m : Nat) :
    frC (trL xs xs.length) f t r l u v m = frC xs f t r l u v m ∧ frR (trL xs xs.length) f t r l u v m = frR xs f t r l u v m :=
  fr_of (as_of (tr_fault h) h) (by rw [tr_find xs f t r u v xs.length (Nat.le_refl _), List.take_of_length_le (Nat.le_refl _)])

theorem sw_find (A B : List R11) (x y : R11) (P : R11 → Bool) (h : P x = true → P y = true → x.p = y.p) :
    ((A ++ y :: x :: B).find? P).map R11.p = ((A ++ x :: y :: B).find? P).map R11.p := by
  rw [List.find?_append, List.find?_append]
  cases A.find? P with
  | some z => rfl
  | none =>
    simp only [Option.none_or, List.find?_cons]
    cases hx : P x <;> cases hy : P y <;> simp
    exact (h hx hy).symm

/-- Rules that change places decide the same. -/
theorem sw_same {xs : List R11} {t0 : Int} (h : swC xs t0 = 0) (f t r l u v : Int) (m : Nat) :
    asC (swL xs t0) f t r l u v m = asC xs f t r l u v m ∧ afV (swL xs t0) f t r l u v m = afV xs f t r l u v m ∧ pyC (swL xs t0) = 0 := by
  rcases sw_ways2 xs t0 with ⟨h1, e1, _⟩ | ⟨_, _, e1, _⟩ | ⟨k, x, y, _, hk, h1, _, hx, hy, ⟨_, e1, _⟩ | ⟨hm, _, e2⟩⟩
  · rw [e1] at h; rw [h] at h1; simp at h1
  · omega
  · omega
  · obtain ⟨q1, q2⟩ := pyC_zero h1
    have hxm : x ∈ xs := by rw [← hx]; exact getDRule_mem (by omega)
    have hym : y ∈ xs := by rw [← hy]; exact getDRule_mem (by omega)
    have hpy : pyC (swL xs t0) = 0 := by
      rw [e2]
      refine pyC_all (by rw [List.length_set, List.length_set]; exact q1) fun z hz => ?_
      rcases List.mem_or_eq_of_mem_set hz with hz | rfl
      · rcases List.mem_or_eq_of_mem_set hz with hz | rfl
        · exact q2 z hz
        · exact q2 _ hym
      · exact q2 _ hxm
    have has := as_of (f := f) (t := t) (r := r) (l := l) (u := u) (v := v) (m := m) hpy h1
    refine ⟨has, ?_, hpy⟩
    by_cases hp : pfC f t r l u v m = 0
    · refine af_of has ?_
      have hd : xs = xs.take k ++ x :: y :: xs.drop (k + 2) := by
        have h3 := dropRule xs k (by omega)
        have h4 := dropRule xs (k + 1) (by omega)
        rw [hx] at h3
        rw [hy] at h4
        rw [h4] at h3
        rw [← h3, List.take_append_drop]
      have hl : (xs.take k).length = k := by rw [List.length_take]; omega
      have hs : (xs.set k y).set (k + 1) x = xs.take k ++ y :: x :: xs.drop (k + 2) := by
        generalize xs.take k = A at *
        generalize xs.drop (k + 2) = B at *
        subst hl
        rw [hd, List.set_append_right _ _ (Nat.le_refl _), Nat.sub_self, List.set_cons_zero, List.set_append_right _ _ (by omega), show A.length + 1 - A.length = 1 by omega, List.set_cons_succ, List.set_cons_zero]
      rw [e2, hs]
      have hd2 : fiR xs f t r u v = fiR (xs.take k ++ x :: y :: xs.drop (k + 2)) f t r u v := congrArg (fun z => fiR z f t r u v) hd
      rw [hd2]
      refine sw_find _ _ x y _ fun g1 g2 => ?_
      have hsx := (ru_zero (q2 x hxm)).1
      have hsy := (ru_zero (q2 y hym)).1
      rcases mc_ways x y with ⟨m1, _⟩ | ⟨_, _, m2⟩ | ⟨_, _, _, m2⟩ | ⟨_, m3, _⟩
      · have h5 := meet_holds hsx hsy f t r l u v m
        rw [hoP_in hsx hp, hoP_in hsy hp, g1, g2] at h5
        rw [bne_iff_ne] at m1
        simp [m1] at h5
      · rw [m2] at hm; cases hm
      · rw [m2] at hm; cases hm
      · simpa using m3
    · have hne : ∀ ys : List R11, pyC ys = 0 → asC ys f t r l u v m ≠ 0 := fun ys hy => by unfold asC; rw [if_pos hy]; exact hp
      have hz : ∀ ys : List R11, pyC ys = 0 → afV ys f t r l u v m = 0 := fun ys hy => by unfold afV; rw [if_neg (hne ys hy)]
      rw [hz _ hpy, hz _ h1]

end Go.Proofs.YtngkahchhioncaaDoor
