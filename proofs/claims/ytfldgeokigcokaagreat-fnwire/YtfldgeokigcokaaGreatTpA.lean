/- The parts of a term: the model. -/
import Derived.Test.YtfldgeokigcokaaGreatTmZ
import Derived.Test.YtfldgeokigcokaaGreatTmW
import Derived.Test.YtfldgeokigcokaaGreatTmQ
import Derived.Maps.OwnSet
namespace Go.Proofs.YtfldgeokigcokaaGreat
open Go.RowKit

theorem Tryz.infoBool : (Tryz.prog.info? 4).map (fun i => (i.zero, i.size, i.bytes)) = some (some (.bool false), 1, 1) := by kernel_rfl

/-- The marks as values. -/
def bvL (xs : List T4) (r k : Nat) : List Value := (List.range (r + 1)).map fun i => .bool (mks xs r k i)

theorem bvL_len (xs : List T4) (r k : Nat) : (bvL xs r k).length = r + 1 := by simp [bvL]

theorem bvL_at (xs : List T4) (r k j : Nat) (h : j < r + 1) : (bvL xs r k)[j]? = some (.bool (mks xs r k j)) := by simp [bvL, h]

theorem bvL_ext {xs : List T4} {r k : Nat} {vs : List Value} (hl : vs.length = r + 1) (h : ∀ j, j < r + 1 → vs[j]? = some (.bool (mks xs r k j))) : bvL xs r k = vs := by
  apply List.ext_getElem?
  intro j
  by_cases hj : j < r + 1
  · rw [bvL_at xs r k j hj, h j hj]
  · rw [List.getElem?_eq_none (by rw [bvL_len]; omega), List.getElem?_eq_none (by omega)]

theorem bv_zero (xs : List T4) (r : Nat) : bvL xs r 0 = (List.replicate (r + 1) (Value.bool false)).set r (.bool true) := by
  refine bvL_ext (by simp) (fun j hj => ?_)
  by_cases e : j = r
  · subst e; rw [List.getElem?_set_self (by simp)]; simp [mks]
  · rw [List.getElem?_set_ne (by omega)]
    simp [hj, mks, e]

theorem bv_no {xs : List T4} {r k : Nat} (h : mks xs r k (r - k) = false) : bvL xs r (k + 1) = bvL xs r k := by
  refine bvL_ext (bvL_len _ _ _) (fun j hj => ?_)
  rw [bvL_at xs r k j hj]; simp [mks, h]

theorem bv_0 {xs : List T4} {r k : Nat} (_h : mks xs r k (r - k) = true) {x : T4} (hx : xs.getD (r - k) zTerm = x) (hp : plc x = []) : bvL xs r (k + 1) = bvL xs r k := by
  refine bvL_ext (bvL_len _ _ _) (fun j hj => ?_)
  rw [bvL_at xs r k j hj, mks, hx, hp]; simp

theorem bv_1 {xs : List T4} {r k : Nat} (h : mks xs r k (r - k) = true) {x : T4} (hx : xs.getD (r - k) zTerm = x) {a : Nat} (hp : plc x = [(a : Int)]) : bvL xs r (k + 1) = (bvL xs r k).set a (.bool true) := by
  refine bvL_ext (by rw [List.length_set, bvL_len]) (fun j hj => ?_)
  rw [mks, hx, hp, h]
  by_cases e : a = j
  · subst e; rw [List.getElem?_set_self (by rw [bvL_len]; exact hj)]; simp
  · rw [List.getElem?_set_ne e, bvL_at xs r k j hj]
    have : ((a : Int) == (j : Int)) = false := by simp; omega
    simp [this]

theorem bv_2 {xs : List T4} {r k : Nat} (h : mks xs r k (r - k) = true) {x : T4} (hx : xs.getD (r - k) zTerm = x) {a b : Nat} (hp : plc x = [(a : Int), (b : Int)]) : bvL xs r (k + 1) = ((bvL xs r k).set a (.bool true)).set b (.bool true) := by
  refine bvL_ext (by rw [List.length_set, List.length_set, bvL_len]) (fun j hj => ?_)
  rw [mks, hx, hp, h]
  by_cases e2 : b = j
  · subst e2; rw [List.getElem?_set_self (by rw [List.length_set, bvL_len]; exact hj)]; simp
  · rw [List.getElem?_set_ne e2]
    have h2 : ((b : Int) == (j : Int)) = false := by simp; omega
    by_cases e : a = j
    · subst e; rw [List.getElem?_set_self (by rw [bvL_len]; exact hj)]; simp
    · rw [List.getElem?_set_ne e, bvL_at xs r k j hj]
      have : ((a : Int) == (j : Int)) = false := by simp; omega
      simp [this, h2]

theorem plc_0 {x : T4} (h : kids x.o = 0) : plc x = [] := by unfold plc; rw [h]; simp
theorem plc_1 {x : T4} (h : kids x.o = 1) : plc x = [x.a] := by unfold plc; rw [h]; simp
theorem plc_2 {x : T4} (h : kids x.o = 2) : plc x = [x.a, x.b] := by unfold plc; rw [h]; simp

theorem cell_far {w : World} {b x B y : Nat} (h : b ≠ B) (v : Value) : (w.setCell ⟨B, y, none⟩ v).cell? ⟨b, x, none⟩ = w.cell? ⟨b, x, none⟩ := by
  rw [World.cell?_setCell_other w _ _ _ (by simp)]
  all_goals simp [h]

/-- The parts among the first k places. -/
def prK (xs : List T4) (r k : Nat) : List Int := ((List.range k).filter fun i => mks xs r (r + 1) i).map fun i : Nat => (i : Int)

theorem prK_next (xs : List T4) (r k : Nat) : prK xs r (k + 1) = prK xs r k ++ (if mks xs r (r + 1) k = true then [(k : Int)] else []) := by
  unfold prK
  rw [List.range_succ, List.filter_append, List.map_append]
  cases h : mks xs r (r + 1) k <;> simp [h]

theorem prK_all (xs : List T4) (r : Nat) : prK xs r (r + 1) = prL xs r := by unfold prL prK; rfl

theorem prK_len (xs : List T4) (r k : Nat) : (prK xs r k).length ≤ k := by
  unfold prK
  rw [List.length_map]
  have := List.length_filter_le (fun i => mks xs r (r + 1) i) (List.range k)
  simpa using this

end Go.Proofs.YtfldgeokigcokaaGreat
