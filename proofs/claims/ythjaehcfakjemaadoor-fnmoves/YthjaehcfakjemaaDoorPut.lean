/- 'PutNumber', the model's and the program's, by contracts. -/
import Derived.Test.YthjaehcfakjemaaDoorProg
import Derived.Test.YthjaehcfakjemaaDoorHeld
namespace Go.Proofs.YthjaehcfakjemaaDoor
open Go.RowKit

/-- The byte at place i of a number in s bytes, the highest first. -/
def digitN (n : Int) (s i : Nat) : Int := n / (2 : Int) ^ (8 * (s - 1 - i)) % 256
def putN (n : Int) (s : Nat) : List Int := (List.range s).map (digitN n s)

theorem length_putN (n : Int) (s : Nat) : (putN n s).length = s := by simp [putN]

theorem putN_at (n : Int) (s i : Nat) (h : i < s) : (putN n s).getD i 0 = digitN n s i := by simp [putN, List.getD, h]

theorem putN_take (n : Int) (s j : Nat) (h : j < s) : (putN n s).take (j + 1) = (putN n s).take j ++ [digitN n s j] := by
  rw [take_snoc _ _ (by rw [length_putN]; exact h), putN_at n s j h]

theorem cell_one (w : World) (e : TypeId) (v : Value) : ∀ j u, ([v] : List Value)[j]? = some u → (w.alloc (.cells #[v] e)).cell? ((⟨w.heap.size, 0, none⟩ : Addr).add j) = some u := by
  intro j u hj
  match j, hj with
  | 0, hj =>
    simp at hj
    subst hj
    rw [Addr.add_lit, World.cell?_alloc_at _ _ _ _ rfl]
    rfl

/-- The code and the bytes that 'PutNumber' answers. -/
abbrev ptIn (n s : Int) : Prop := 1 ≤ s ∧ s ≤ 7 ∧ 0 ≤ n ∧ n ≤ (2 : Int) ^ (8 * s.toNat) - 1
def ptCode (n s : Int) : Int := if ptIn n s then 0 else 3
def ptVal (n s : Int) : List Int := if ptIn n s then putN n s.toNat else []

theorem pow2 (k : Nat) : ((2 ^ k : Nat) : Int) = (2 : Int) ^ k := by simp [Int.natCast_pow]

theorem pow2_bound (s : Nat) (h : s ≤ 7) : 1 ≤ (2 : Int) ^ (8 * s) ∧ (2 : Int) ^ (8 * s) ≤ 72057594037927936 := by
  have h1 : 2 ^ (8 * s) ≤ 2 ^ 56 := Nat.pow_le_pow_right (by omega) (by omega)
  have h2 : 0 < 2 ^ (8 * s) := Nat.pow_pos (by omega)
  have e : 2 ^ 56 = 72057594037927936 := by rfl
  rw [e] at h1
  rw [← pow2]
  omega

theorem wrap_pow2 (s : Nat) (h : s ≤ 7) : wrap64 ((2 : Int) ^ (8 * s)) = (2 : Int) ^ (8 * s) ∧ wrap64 ((2 : Int) ^ (8 * s) - 1) = (2 : Int) ^ (8 * s) - 1 := by
  have h1 := pow2_bound s h
  exact ⟨IntWalk.wrap64_in _ ⟨by omega, by omega⟩, IntWalk.wrap64_in _ ⟨by omega, by omega⟩⟩

/-- A row of which the last places are written, from 'm' on. -/
def tailFill (n : Int) (s m : Nat) : List Int := List.replicate m 0 ++ (putN n s).drop m

theorem tailFill_start (n : Int) (s : Nat) : tailFill n s s = List.replicate s 0 := by
  simp [tailFill, List.drop_eq_nil_of_le (Nat.le_of_eq (length_putN n s))]

theorem tailFill_end (n : Int) (s : Nat) : tailFill n s 0 = putN n s := by simp [tailFill]

theorem length_tailFill (n : Int) (s m : Nat) (h : m ≤ s) : (tailFill n s m).length = s := by simp [tailFill, length_putN]; omega

theorem tailFill_set (n : Int) (s m : Nat) (h : m < s) : (tailFill n s (m + 1)).set m (digitN n s m) = tailFill n s m := by
  unfold tailFill
  rw [List.set_append_left _ _ (by simp), List.replicate_succ', List.set_append_right _ _ (by simp)]
  have e : m < (putN n s).length := by rw [length_putN]; exact h
  have e2 : (putN n s)[m] = digitN n s m := by rw [← putN_at n s m h, getD_eq _ _ e]
  rw [List.drop_eq_getElem_cons e, e2]
  simp

theorem div_more (n : Int) (k : Nat) : n / (2 : Int) ^ (8 * k) / 256 = n / (2 : Int) ^ (8 * (k + 1)) := by
  rw [Int.ediv_ediv_of_nonneg (by rw [← pow2]; exact Int.natCast_nonneg _), show 8 * (k + 1) = 8 * k + 8 from by omega, Int.pow_add]
  rfl

theorem div_bound (n : Int) (k : Nat) (h : 0 ≤ n) : 0 ≤ n / (2 : Int) ^ k ∧ n / (2 : Int) ^ k ≤ n := by
  have hp : 0 < (2 : Int) ^ k := by rw [← pow2]; exact Int.natCast_pos.2 (Nat.pow_pos (by omega))
  exact ⟨Int.ediv_nonneg h (Int.le_of_lt hp), Int.ediv_le_self _ h⟩

end Go.Proofs.YthjaehcfakjemaaDoor
