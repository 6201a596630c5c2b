/- Put together: TmE, TmF. -/
import Derived.Test.YthjaehcfakjemaaDoorTmD

/- What a term is made of: sizes; the fault of a place. -/
namespace Go.Proofs.YthjaehcfakjemaaDoor
open Go.RowKit

/-- How many terms one is made of, a million at most. -/
def Tr.sz : Tr → Int
  | .leaf _ _ => 1
  | .one _ x => min 1000000 (1 + x.sz)
  | .two _ x y => min 1000000 (1 + x.sz + y.sz)

theorem Tr.sz_in (t : Tr) : 1 ≤ t.sz ∧ t.sz ≤ 1000000 := by
  induction t with
  | leaf _ _ => unfold Tr.sz; omega
  | one _ x ih => unfold Tr.sz; omega
  | two _ x y ih1 ih2 => unfold Tr.sz; omega

theorem mkTr_sz (t : T4) (x y : Tr) : (mkTr t x y).sz = min 1000000 (1 + (if 0 < kids t.o then x.sz else 0) + (if 1 < kids t.o then y.sz else 0)) := by
  have h1 := x.sz_in
  have h2 := y.sz_in
  unfold mkTr
  rcases kids_cases t.o with h | h | h
  · rw [h]; simp [Tr.sz]; omega
  · rw [h]; simp [Tr.sz]
  · rw [h]
    simp only [show (0 : Int) < 2 by decide, show (1 : Int) < 2 by decide, if_true]
    split
    · simp only [Tr.sz]; omega
    · simp only [Tr.sz]

/-- The sizes of the first 'k'. -/
def szL (xs : List T4) (k : Nat) : List Int := (List.range k).map fun i => (den xs i).sz

theorem szL_len (xs : List T4) (k : Nat) : (szL xs k).length = k := by simp [szL]

theorem szL_at (xs : List T4) (k i : Nat) (h : i < k) : (szL xs k).getD i 0 = (den xs i).sz := by simp [szL, List.getD, h]

theorem szL_next (xs : List T4) (k : Nat) : szL xs (k + 1) = szL xs k ++ [(den xs k).sz] := by simp [szL, List.range_succ]

theorem sz_step {xs : List T4} (k : Nat) (hk : k < xs.length) (h : Ahead xs) {x : T4} (hx : xs.getD k zTerm = x) :
    (den xs k).sz = min 1000000 (1 + (if 0 < kids x.o then (den xs x.a.toNat).sz else 0) + (if 1 < kids x.o then (den xs x.b.toNat).sz else 0)) := by
  rw [den_at k hk h, hx, mkTr_sz]

/-- The fault of a place. -/
@[irreducible] def akC (xs : List T4) (q : Int) : Int := if tfC xs = 0 then (if btw q 0 ((xs.length : Int) - 1) = true then 0 else 3) else tfC xs

theorem ak_ways (xs : List T4) (q : Int) : (tfC xs ≠ 0 ∧ akC xs q = tfC xs) ∨ (tfC xs = 0 ∧ btw q 0 ((xs.length : Int) - 1) = false ∧ akC xs q = 3) ∨ (tfC xs = 0 ∧ btw q 0 ((xs.length : Int) - 1) = true ∧ akC xs q = 0) := by
  unfold akC
  by_cases h : tfC xs = 0
  · cases h2 : btw q 0 ((xs.length : Int) - 1)
    · exact .inr (.inl ⟨h, rfl, by simp [h]⟩)
    · exact .inr (.inr ⟨h, rfl, by simp [h]⟩)
  · exact .inl ⟨h, by rw [if_neg h]⟩

theorem ak_zero {xs : List T4} {q : Int} (h : akC xs q = 0) : tfC xs = 0 ∧ 0 ≤ q ∧ q < xs.length := by
  rcases ak_ways xs q with ⟨h1, h2⟩ | ⟨_, _, h2⟩ | ⟨h1, h2, _⟩
  · omega
  · omega
  · have := btw_iff.1 h2; exact ⟨h1, by omega, by omega⟩

/-- What SizeOf answers beside its code. -/
@[irreducible] def szV (xs : List T4) (q : Int) : Int := if akC xs q = 0 then (den xs q.toNat).sz else 0

theorem szV_ways (xs : List T4) (q : Int) : (akC xs q ≠ 0 ∧ szV xs q = 0) ∨ (akC xs q = 0 ∧ szV xs q = (den xs q.toNat).sz) := by
  unfold szV
  by_cases h : akC xs q = 0
  · exact .inr ⟨h, by rw [if_pos h]⟩
  · exact .inl ⟨h, by rw [if_neg h]⟩

/-- The sizes of places together. -/
def psz (xs : List T4) : List Int → Int
  | [] => 0
  | z :: zs => (den xs z.toNat).sz + psz xs zs

theorem psz_app (xs : List T4) (ys zs : List Int) : psz xs (ys ++ zs) = psz xs ys + psz xs zs := by
  induction ys with
  | nil => simp [psz]
  | cons y ys ih => simp only [List.cons_append, psz, ih]; omega

theorem psz_next (xs : List T4) (zs : List Int) (k : Nat) (h : k < zs.length) {z : Int} (hz : zs.getD k 0 = z) : psz xs (zs.take (k + 1)) = psz xs (zs.take k) + (den xs z.toNat).sz := by
  rw [List.take_add_one, psz_app]
  have e : zs[k]? = some z := by rw [← hz]; simp [List.getD, h]
  rw [e]; simp [psz]

theorem psz_in (xs : List T4) (zs : List Int) : 0 ≤ psz xs zs ∧ psz xs zs ≤ 1000000 * (zs.length : Int) := by
  induction zs with
  | nil => simp [psz]
  | cons z zs ih => have := (den xs z.toNat).sz_in; simp only [psz, List.length_cons]; omega

theorem sz_plc {xs : List T4} (k : Nat) (hk : k < xs.length) (h : Ahead xs) {x : T4} (hx : xs.getD k zTerm = x) : (den xs k).sz = min 1000000 (1 + psz xs (plc x)) := by
  rw [sz_step k hk h hx]
  unfold plc
  rcases kids_cases x.o with h | h | h <;> rw [h] <;> simp [psz] <;> omega

/-- The places that a term names stand ahead of it. -/
theorem plc_ahead {xs : List T4} (k : Nat) (hk : k < xs.length) (h : Ahead xs) {x : T4} (hx : xs.getD k zTerm = x) : ∀ z ∈ plc x, 0 ≤ z ∧ z < k := by
  obtain ⟨h1, h2⟩ := h k hk
  rw [hx] at h1 h2
  unfold plc
  intro z hz
  rcases kids_cases x.o with h | h | h <;> rw [h] at hz h1 h2 <;> simp at hz h1 h2
  · subst hz; exact h1
  · rcases hz with rfl | rfl
    · exact h1
    · exact h2

/-- The Op of a right table's term. -/
theorem op_right {xs : List T4} (h : tfC xs = 0) (k : Nat) (hk : k < xs.length) {x : T4} (hx : xs.getD k zTerm = x) : 1 ≤ x.o ∧ x.o ≤ 7 := by
  have := (tm_zero ((tfC_zero h).2 k hk).1).1
  rw [hx] at this; exact this

end Go.Proofs.YthjaehcfakjemaaDoor

/- A list put as pairs. -/
namespace Go.Proofs.YthjaehcfakjemaaDoor
open Go.RowKit

/-- A list put as pairs. -/
def plP (xs : List T4) : List Int → Put
  | [] => put xs ⟨1, 0, 0, 0⟩
  | [x] => ⟨0, x, xs⟩
  | x :: y :: r => if (plP xs (y :: r)).c = 0 then put (plP xs (y :: r)).l ⟨3, x, (plP xs (y :: r)).k, 0⟩ else plP xs (y :: r)

theorem plP_two (xs : List T4) (x y : Int) (r : List Int) : plP xs (x :: y :: r) = if (plP xs (y :: r)).c = 0 then put (plP xs (y :: r)).l ⟨3, x, (plP xs (y :: r)).k, 0⟩ else plP xs (y :: r) := by rw [plP]

theorem plP_len {xs : List T4} (h : xs.length ≤ 400) : ∀ zs, (plP xs zs).l.length ≤ 400
  | [] => put_len h
  | [x] => h
  | x :: y :: r => by
    rw [plP_two]
    have ih := plP_len h (y :: r)
    split
    · exact put_len ih
    · exact ih

theorem put_bad {xs : List T4} {t : T4} (h : (put xs t).c ≠ 0) : put xs t = ⟨(put xs t).c, 0, []⟩ := by
  rcases put_ways xs t with ⟨_, e⟩ | ⟨_, _, e⟩ | ⟨_, _, _, e⟩ | ⟨_, _, _, e⟩ <;> rw [e] at h ⊢ <;> simp at h ⊢

theorem plP_bad {xs : List T4} : ∀ zs, (plP xs zs).c ≠ 0 → plP xs zs = ⟨(plP xs zs).c, 0, []⟩
  | [], h => put_bad h
  | [x], h => absurd rfl h
  | x :: y :: r, h => by
    rw [plP_two] at h ⊢
    split at h
    · rename_i h1
      rw [if_pos h1] at *
      exact put_bad h
    · rename_i h1
      rw [if_neg h1] at *
      exact plP_bad (y :: r) h

/-- What comes of putting a list into whatever table. -/
@[irreducible] def plT (xs : List T4) (zs : List Int) : Put := if tfC xs = 0 then (if (zs.all fun z => btw z 0 ((xs.length : Int) - 1)) = true then plP xs zs else ⟨3, 0, []⟩) else ⟨tfC xs, 0, []⟩

theorem plT_ways (xs : List T4) (zs : List Int) : (tfC xs ≠ 0 ∧ plT xs zs = ⟨tfC xs, 0, []⟩) ∨ (tfC xs = 0 ∧ (zs.all fun z => btw z 0 ((xs.length : Int) - 1)) = false ∧ plT xs zs = ⟨3, 0, []⟩) ∨ (tfC xs = 0 ∧ (zs.all fun z => btw z 0 ((xs.length : Int) - 1)) = true ∧ plT xs zs = plP xs zs) := by
  unfold plT
  by_cases h : tfC xs = 0
  · rw [if_pos h]
    cases h2 : zs.all fun z => btw z 0 ((xs.length : Int) - 1)
    · exact .inr (.inl ⟨h, rfl, by simp⟩)
    · exact .inr (.inr ⟨h, rfl, by simp⟩)
  · exact .inl ⟨h, by rw [if_neg h]⟩

/-- From the last but one on down. -/
theorem plP_drop (xs : List T4) (zs : List Int) (k : Nat) (h : k + 1 < zs.length) {z : Int} (hz : zs.getD k 0 = z) :
    plP xs (zs.drop k) = if (plP xs (zs.drop (k + 1))).c = 0 then put (plP xs (zs.drop (k + 1))).l ⟨3, z, (plP xs (zs.drop (k + 1))).k, 0⟩ else plP xs (zs.drop (k + 1)) := by
  have e : zs.drop k = z :: zs.drop (k + 1) := by
    rw [List.drop_eq_getElem_cons (by omega)]
    have : zs[k] = z := by rw [← hz]; simp [List.getD, show k < zs.length by omega]
    rw [this]
  obtain ⟨y, r, h2⟩ : ∃ y r, zs.drop (k + 1) = y :: r := by
    rw [List.drop_eq_getElem_cons h]; exact ⟨_, _, rfl⟩
  rw [e, h2, plP_two]

theorem plP_last (xs : List T4) (zs : List Int) (k : Nat) (h : k + 1 = zs.length) {z : Int} (hz : zs.getD k 0 = z) : plP xs (zs.drop k) = ⟨0, z, xs⟩ := by
  have e : zs.drop k = [z] := by
    rw [List.drop_eq_getElem_cons (by omega), List.drop_of_length_le (by omega)]
    have : zs[k] = z := by rw [← hz]; simp [List.getD, show k < zs.length by omega]
    rw [this]
  rw [e, plP]

theorem put_k {xs : List T4} {t : T4} (h : xs.length ≤ 400) : 0 ≤ (put xs t).k ∧ (put xs t).k ≤ 400 := by
  rcases put_ways xs t with ⟨_, e⟩ | ⟨_, h2, e⟩ | ⟨_, _, _, e⟩ | ⟨_, _, _, e⟩ <;> rw [e] <;> simp
  · have := tmIdx_lt h2; omega
  · omega

theorem plP_k {xs : List T4} (h : xs.length ≤ 400) : ∀ zs : List Int, (∀ z ∈ zs, 0 ≤ z ∧ z ≤ 400) → 0 ≤ (plP xs zs).k ∧ (plP xs zs).k ≤ 400
  | [], _ => put_k h
  | [x], hz => hz x (by simp)
  | x :: y :: r, hz => by
    rw [plP_two]
    split
    · exact put_k (plP_len h _)
    · exact plP_k h (y :: r) (fun z hz' => hz z (by simp at hz' ⊢; right; exact hz'))

theorem plP_stuck (xs : List T4) (zs : List Int) : ∀ j, j < zs.length → (plP xs (zs.drop j)).c ≠ 0 → plP xs zs = plP xs (zs.drop j)
  | 0, _, _ => by simp
  | j + 1, h, hc => by
    have e := plP_drop xs zs j h rfl
    rw [if_neg hc] at e
    rw [← e]
    exact plP_stuck xs zs j (by omega) (by rw [e]; exact hc)

end Go.Proofs.YthjaehcfakjemaaDoor
