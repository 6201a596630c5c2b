/- A table that grows, and a code that was met first: plain sums. -/
import Derived.Test.YthkmoabkeblbjaaTmF
namespace Go.Proofs.Ythkmoabkeblbjaa
open Go.RowKit

/-- A table that grows; a code that was met first. -/
structure Mk where
  l : List T4
  c : Int

/-- One term is put. -/
def mkPut (m : Mk) (t : T4) : Mk := if m.c = 0 then (if (put m.l t).c = 0 then ⟨(put m.l t).l, 0⟩ else ⟨m.l, (put m.l t).c⟩) else m

/-- Its place. -/
def mkAt (m : Mk) (t : T4) : Int := if m.c = 0 then (put m.l t).k else 0

theorem mkPut_len {m : Mk} (h : m.l.length ≤ 400) (t : T4) : (mkPut m t).l.length ≤ 400 := by
  unfold mkPut
  split
  · split
    · exact put_len h
    · exact h
  · exact h

theorem mk_ways (m : Mk) (t : T4) : (m.c ≠ 0 ∧ mkPut m t = m ∧ mkAt m t = 0) ∨ (m.c = 0 ∧ (put m.l t).c ≠ 0 ∧ mkPut m t = ⟨m.l, (put m.l t).c⟩ ∧ mkAt m t = 0) ∨ (m.c = 0 ∧ (put m.l t).c = 0 ∧ mkPut m t = ⟨(put m.l t).l, 0⟩ ∧ mkAt m t = (put m.l t).k) := by
  unfold mkPut mkAt
  by_cases h : m.c = 0
  · by_cases h2 : (put m.l t).c = 0
    · exact .inr (.inr ⟨h, h2, by rw [if_pos h, if_pos h2], by rw [if_pos h]⟩)
    · refine .inr (.inl ⟨h, h2, by rw [if_pos h, if_neg h2], ?_⟩)
      rw [if_pos h, put_bad h2]
  · exact .inl ⟨h, by rw [if_neg h], by rw [if_neg h]⟩

theorem mkAt_le {m : Mk} (h : m.l.length ≤ 400) (t : T4) : 0 ≤ mkAt m t ∧ mkAt m t ≤ 400 := by
  unfold mkAt
  split
  · exact put_k h
  · omega

/-- A list put as pairs: the table and the place. -/
def mkL (m : Mk) : List Int → Mk × Int
  | [] => (m, 0)
  | [x] => (m, x)
  | x :: y :: r => (mkPut (mkL m (y :: r)).1 ⟨3, x, (mkL m (y :: r)).2, 0⟩, mkAt (mkL m (y :: r)).1 ⟨3, x, (mkL m (y :: r)).2, 0⟩)

theorem mkL_two (m : Mk) (x y : Int) (r : List Int) : mkL m (x :: y :: r) = (mkPut (mkL m (y :: r)).1 ⟨3, x, (mkL m (y :: r)).2, 0⟩, mkAt (mkL m (y :: r)).1 ⟨3, x, (mkL m (y :: r)).2, 0⟩) := by rw [mkL]

theorem mkL_len {m : Mk} (h : m.l.length ≤ 400) : ∀ zs, (mkL m zs).1.l.length ≤ 400
  | [] => h
  | [_] => h
  | x :: y :: r => by rw [mkL_two]; exact mkPut_len (mkL_len h (y :: r)) _

theorem mkL_drop (m : Mk) (zs : List Int) (k : Nat) (h : k + 1 < zs.length) {z : Int} (hz : zs.getD k 0 = z) :
    mkL m (zs.drop k) = (mkPut (mkL m (zs.drop (k + 1))).1 ⟨3, z, (mkL m (zs.drop (k + 1))).2, 0⟩, mkAt (mkL m (zs.drop (k + 1))).1 ⟨3, z, (mkL m (zs.drop (k + 1))).2, 0⟩) := by
  have e : zs.drop k = z :: zs.drop (k + 1) := by
    rw [List.drop_eq_getElem_cons (by omega)]
    have : zs[k] = z := by rw [← hz]; simp [List.getD, show k < zs.length by omega]
    rw [this]
  obtain ⟨y, r, h2⟩ : ∃ y r, zs.drop (k + 1) = y :: r := by
    rw [List.drop_eq_getElem_cons h]; exact ⟨_, _, rfl⟩
  rw [e, h2, mkL_two]

theorem mkL_last (m : Mk) (zs : List Int) (k : Nat) (h : k + 1 = zs.length) {z : Int} (hz : zs.getD k 0 = z) : mkL m (zs.drop k) = (m, z) := by
  have e : zs.drop k = [z] := by
    rw [List.drop_eq_getElem_cons (by omega), List.drop_of_length_le (by omega)]
    have : zs[k] = z := by rw [← hz]; simp [List.getD, show k < zs.length by omega]
    rw [this]
  rw [e, mkL]

/-- Names put one by one: the table, the places. -/
def mkNs (m : Mk) : List Int → Mk × List Int
  | [] => (m, [])
  | n :: r => ((mkNs (mkPut m ⟨1, 0, 0, n⟩) r).1, mkAt m ⟨1, 0, 0, n⟩ :: (mkNs (mkPut m ⟨1, 0, 0, n⟩) r).2)

theorem mkNs_len {m : Mk} (h : m.l.length ≤ 400) (ns : List Int) : (mkNs m ns).1.l.length ≤ 400 := by
  induction ns generalizing m with
  | nil => exact h
  | cons n r ih => exact ih (mkPut_len h _)

theorem mkNs_count (m : Mk) (ns : List Int) : (mkNs m ns).2.length = ns.length := by
  induction ns generalizing m with
  | nil => rfl
  | cons n r ih => simp [mkNs, ih]

theorem mkNs_app (m : Mk) (xs : List Int) (n : Int) : mkNs m (xs ++ [n]) = (mkPut (mkNs m xs).1 ⟨1, 0, 0, n⟩, (mkNs m xs).2 ++ [mkAt (mkNs m xs).1 ⟨1, 0, 0, n⟩]) := by
  induction xs generalizing m with
  | nil => rfl
  | cons x r ih => simp [mkNs, ih]

theorem mkNs_take (m : Mk) (ns : List Int) (k : Nat) (h : k < ns.length) {n : Int} (hz : ns.getD k 0 = n) : mkNs m (ns.take (k + 1)) = (mkPut (mkNs m (ns.take k)).1 ⟨1, 0, 0, n⟩, (mkNs m (ns.take k)).2 ++ [mkAt (mkNs m (ns.take k)).1 ⟨1, 0, 0, n⟩]) := by
  have e : ns.take (k + 1) = ns.take k ++ [n] := by
    rw [List.take_add_one]
    have : ns[k] = n := by rw [← hz]; simp [List.getD, h]
    simp [h, this]
  rw [e, mkNs_app]

/-- A list of names. -/
def mkW (m : Mk) (ns : List Int) : Mk × Int := mkL (mkNs m ns).1 (mkNs m ns).2

theorem mkW_len {m : Mk} (h : m.l.length ≤ 400) (ns : List Int) : (mkW m ns).1.l.length ≤ 400 := mkL_len (mkNs_len h ns) _

/-- Two places under an op. -/
def mk2 (m : Mk) (o a b : Int) : Mk × Int := (mkPut m ⟨o, a, b, 0⟩, mkAt m ⟨o, a, b, 0⟩)

theorem mk2_len {m : Mk} (h : m.l.length ≤ 400) (o a b : Int) : (mk2 m o a b).1.l.length ≤ 400 := mkPut_len h _

end Go.Proofs.Ythkmoabkeblbjaa
