/- What a term is made of: sizes; the fault of a place. -/
import Derived.Test.YthjaehcfakjemaaDoorTmD
namespace Go.Proofs.YthjaehcfakjemaaDoor
open Go.RowKit

/-- How many terms one is made of, a million at most. -/
def Tr.sz : Tr → Int
  | .leaf _ _ => 1
  | .one _ x => min 1000000 (1 + x.sz)
  | .two _ x y => min 1000000 (1 + x.sz + y.sz)

theorem Tr.sz_in (t : Tr) : 1 ≤ t.sz ∧ t.sz ≤ 1000000 := by
  induction t with
  | leaf _ _ => unfold Tr.sz; omega
  | one _ x ih => unfold Tr.sz; omega
  | two _ x y ih1 ih2 => unfold Tr.sz; omega

theorem mkTr_sz (t : T4) (x y : Tr) : (mkTr t x y).sz = min 1000000 (1 + (if 0 < kids t.o then x.sz else 0) + (if 1 < kids t.o then y.sz else 0)) := by
  have h1 := x.sz_in
  have h2 := y.sz_in
  unfold mkTr
  rcases kids_cases t.o with h | h | h
  · rw [h]; simp [Tr.sz]; omega
  · rw [h]; simp [Tr.sz]
  · rw [h]
    simp only [show (0 : Int) < 2 by decide, show (1 : Int) < 2 by decide, if_true]
    split
    · simp only [Tr.sz]; omega
    · simp only [Tr.sz]

/-- The sizes of the first 'k'. -/
def szL (xs : List T4) (k : Nat) : List Int := (List.range k).map fun i => (den xs i).sz

theorem szL_len (xs : List T4) (k : Nat) : (szL xs k).length = k := by simp [szL]

theorem szL_at (xs : List T4) (k i : Nat) (h : i < k) : (szL xs k).getD i 0 = (den xs i).sz := by simp [szL, List.getD, h]

theorem szL_next (xs : List T4) (k : Nat) : szL xs (k + 1) = szL xs k ++ [(den xs k).sz] := by simp [szL, List.range_succ]

theorem sz_step {xs : List T4} (k : Nat) (hk : k < xs.length) (h : Ahead xs) {x : T4} (hx : xs.getD k zTerm = x) :
    (den xs k).sz = min 1000000 (1 + (if 0 < kids x.o then (den xs x.a.toNat).sz else 0) + (if 1 < kids x.o then (den xs x.b.toNat).sz else 0)) := by
  rw [den_at k hk h, hx, mkTr_sz]

/-- The fault of a place. -/
@[irreducible] def akC (xs : List T4) (q : Int) : Int := if tfC xs = 0 then (if btw q 0 ((xs.length : Int) - 1) = true then 0 else 3) else tfC xs

theorem ak_ways (xs : List T4) (q : Int) : (tfC xs ≠ 0 ∧ akC xs q = tfC xs) ∨ (tfC xs = 0 ∧ btw q 0 ((xs.length : Int) - 1) = false ∧ akC xs q = 3) ∨ (tfC xs = 0 ∧ btw q 0 ((xs.length : Int) - 1) = true ∧ akC xs q = 0) := by
  unfold akC
  by_cases h : tfC xs = 0
  · cases h2 : btw q 0 ((xs.length : Int) - 1)
    · exact .inr (.inl ⟨h, rfl, by simp [h]⟩)
    · exact .inr (.inr ⟨h, rfl, by simp [h]⟩)
  · exact .inl ⟨h, by rw [if_neg h]⟩

theorem ak_zero {xs : List T4} {q : Int} (h : akC xs q = 0) : tfC xs = 0 ∧ 0 ≤ q ∧ q < xs.length := by
  rcases ak_ways xs q with ⟨h1, h2⟩ | ⟨_, _, h2⟩ | ⟨h1, h2, _⟩
  · omega
  · omega
  · have := btw_iff.1 h2; exact ⟨h1, by omega, by omega⟩

/-- What SizeOf answers beside its code. -/
@[irreducible] def szV (xs : List T4) (q : Int) : Int := if akC xs q = 0 then (den xs q.toNat).sz else 0

theorem szV_ways (xs : List T4) (q : Int) : (akC xs q ≠ 0 ∧ szV xs q = 0) ∨ (akC xs q = 0 ∧ szV xs q = (den xs q.toNat).sz) := by
  unfold szV
  by_cases h : akC xs q = 0
  · exact .inr ⟨h, by rw [if_pos h]⟩
  · exact .inl ⟨h, by rw [if_neg h]⟩

/-- The sizes of places together. -/
def psz (xs : List T4) : List Int → Int
  | [] => 0
  | z :: zs => (den xs z.toNat).sz + psz xs zs

theorem psz_app (xs : List T4) (ys zs : List Int) : psz xs (ys ++ zs) = psz xs ys + psz xs zs := by
  induction ys with
  | nil => simp [psz]
  | cons y ys ih => simp only [List.cons_append, psz, ih]; omega

theorem psz_next (xs : List T4) (zs : List Int) (k : Nat) (h : k < zs.length) {z : Int} (hz : zs.getD k 0 = z) : psz xs (zs.take (k + 1)) = psz xs (zs.take k) + (den xs z.toNat).sz := by
  rw [List.take_add_one, psz_app]
  have e : zs[k]? = some z := by rw [← hz]; simp [List.getD, h]
  rw [e]; simp [psz]

theorem psz_in (xs : List T4) (zs : List Int) : 0 ≤ psz xs zs ∧ psz xs zs ≤ 1000000 * (zs.length : Int) := by
  induction zs with
  | nil => simp [psz]
  | cons z zs ih => have := (den xs z.toNat).sz_in; simp only [psz, List.length_cons]; omega

theorem sz_plc {xs : List T4} (k : Nat) (hk : k < xs.length) (h : Ahead xs) {x : T4} (hx : xs.getD k zTerm = x) : (den xs k).sz = min 1000000 (1 + psz xs (plc x)) := by
  rw [sz_step k hk h hx]
  unfold plc
  rcases kids_cases x.o with h | h | h <;> rw [h] <;> simp [psz] <;> omega

/-- The places that a term names stand ahead of it. -/
theorem plc_ahead {xs : List T4} (k : Nat) (hk : k < xs.length) (h : Ahead xs) {x : T4} (hx : xs.getD k zTerm = x) : ∀ z ∈ plc x, 0 ≤ z ∧ z < k := by
  obtain ⟨h1, h2⟩ := h k hk
  rw [hx] at h1 h2
  unfold plc
  intro z hz
  rcases kids_cases x.o with h | h | h <;> rw [h] at hz h1 h2 <;> simp at hz h1 h2
  · subst hz; exact h1
  · rcases hz with rfl | rfl
    · exact h1
    · exact h2

/-- The Op of a right table's term. -/
theorem op_right {xs : List T4} (h : tfC xs = 0) (k : Nat) (hk : k < xs.length) {x : T4} (hx : xs.getD k zTerm = x) : 1 ≤ x.o ∧ x.o ≤ 7 := by
  have := (tm_zero ((tfC_zero h).2 k hk).1).1
  rw [hx] at this; exact this

end Go.Proofs.YthjaehcfakjemaaDoor
