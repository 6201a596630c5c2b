/- How strong a suite is, in floats: each step is the whole number's own, and the order is theirs. -/
import Derived.Test.YthaaompkcomfcaaPsA
import Derived.Laws.FloatArith
import Derived.KernelRfl
namespace Go.Proofs.Ythaaompkcomfcaa
open Go.RowKit

/-- The bits of a whole number as a float. -/
def flB (n : Int) : Nat := floatOfInt .f64 n

/-- One step of the rank, held against the whole numbers. -/
def stepB (r n : Int) : Bool := (floatBits .mul .f64 (flB r) 4643228808005025792 == some (flB (r * 257))) && (floatBits .add .f64 (flB (r * 257)) (flB n) == some (flB (r * 257 + n)))

/-- The bits are read as the number. -/
def readB (n : Int) : Bool := FloatKind.f64.format.read (flB n) == .number false (n.toNat <<< (52 - n.toNat.log2)) (-((52 - n.toNat.log2 : Nat) : Int))

theorem steps_all : ([128, 192, 256].all fun b : Int => stepB 0 b && [1, 2, 3, 4, 5, 6].all fun g : Int => stepB b g && [1, 2, 3].all fun m : Int => stepB (b * 257 + g) m && [1, 2, 3, 4].all fun c : Int => stepB ((b * 257 + g) * 257 + m) c && readB (((b * 257 + g) * 257 + m) * 257 + c)) = true := by kernel_rfl

theorem fl_zero : flB 0 = 0 := by kernel_rfl

theorem steps_ok {x : Su} (h : okSu x = true) : stepB 0 x.b = true ∧ stepB x.b x.g = true ∧ stepB (x.b * 257 + x.g) x.m = true ∧ stepB ((x.b * 257 + x.g) * 257 + x.m) x.c = true ∧ readB (rkF x) = true := by
  rw [okSu_iff] at h
  obtain ⟨hc, hb, hm, hg⟩ := h
  have hb' : x.b ∈ [128, 192, 256] := by simp; omega
  have hg' : x.g ∈ [1, 2, 3, 4, 5, 6] := by simp; omega
  have hm' : x.m ∈ [1, 2, 3] := by simp; omega
  have hc' : x.c ∈ [1, 2, 3, 4] := by simp; omega
  have a := steps_all
  rw [List.all_eq_true] at a
  have a := a _ hb'
  rw [Bool.and_eq_true, List.all_eq_true] at a
  have a1 := a.2 _ hg'
  rw [Bool.and_eq_true, List.all_eq_true] at a1
  have a2 := a1.2 _ hm'
  rw [Bool.and_eq_true, List.all_eq_true] at a2
  have a3 := a2.2 _ hc'
  rw [Bool.and_eq_true] at a3
  exact ⟨a.1, a1.1, a2.1, a3.1, a3.2⟩

theorem stepB_mul {r n : Int} (h : stepB r n = true) : floatBits .mul .f64 (flB r) 4643228808005025792 = some (flB (r * 257)) := by
  unfold stepB at h
  rw [Bool.and_eq_true] at h
  simpa using h.1

theorem stepB_add {r n : Int} (h : stepB r n = true) : floatBits .add .f64 (flB (r * 257)) (flB n) = some (flB (r * 257 + n)) := by
  unfold stepB at h
  rw [Bool.and_eq_true] at h
  simpa using h.2

theorem order_nums (m n k l : Nat) : Ieee.Datum.order (.number false (m <<< k) (-(k : Int))) (.number false (n <<< l) (-(l : Int))) = some (compare (m : Int) (n : Int)) := by
  have e : ∀ k : Nat, k ≤ max k l → True := fun _ _ => trivial
  have shl : ∀ (a k M : Nat), k ≤ M → (a <<< k) <<< (M - k) = a * 2 ^ M := by
    intro a k M h
    rw [← Nat.shiftLeft_add, show k + (M - k) = M by omega, Nat.shiftLeft_eq]
  simp only [Ieee.Datum.order, Ieee.signed, Bool.false_eq_true, if_false]
  have hb : min (-(k : Int)) (-(l : Int)) = -((max k l : Nat) : Int) := by omega
  rw [hb, show (-(k : Int) - -((max k l : Nat) : Int)).toNat = max k l - k by omega, show (-(l : Int) - -((max k l : Nat) : Int)).toNat = max k l - l by omega, shl _ _ _ (Nat.le_max_left _ _), shl _ _ _ (Nat.le_max_right _ _)]
  have hp : (0 : Int) < ((2 ^ max k l : Nat) : Int) := by exact_mod_cast Nat.two_pow_pos _
  generalize 2 ^ max k l = p at *
  congr 1
  have e1 : ((m * p : Nat) : Int) < ((n * p : Nat) : Int) ↔ (m : Int) < (n : Int) := by
    rw [Int.natCast_mul, Int.natCast_mul]; exact Int.mul_lt_mul_right hp
  have e2 : ((m * p : Nat) : Int) = ((n * p : Nat) : Int) ↔ (m : Int) = (n : Int) := by
    rw [Int.natCast_mul, Int.natCast_mul]; exact Int.mul_eq_mul_right_iff (by omega)
  simp only [compare, compareOfLessAndEq, e1, e2]

theorem fl_order {a b : Int} (ha : readB a = true) (hb : readB b = true) (h0 : 0 ≤ a) (h1 : 0 ≤ b) : FloatKind.f64.format.order (flB a) (flB b) = some (compare a b) := by
  unfold readB at ha hb
  have ha := eq_of_beq ha
  have hb := eq_of_beq hb
  unfold Ieee.Format.order
  rw [ha, hb, order_nums, Int.toNat_of_nonneg h0, Int.toNat_of_nonneg h1]

theorem rkF_pos {x : Su} (h : okSu x = true) : 0 ≤ rkF x := by
  rw [okSu_iff] at h
  unfold rkF
  omega

theorem cmp_lt (a b : Int) : (some (compare a b) == some Ordering.lt) = decide (a < b) := by
  simp only [compare, compareOfLessAndEq]
  by_cases h : a < b
  · simp [h]
  · by_cases h2 : a = b <;> simp [h, h2]

theorem cmp_gt (a b : Int) : (some (compare a b) == some Ordering.gt) = decide (b < a) := by
  simp only [compare, compareOfLessAndEq]
  by_cases h : a < b
  · have : ¬ b < a := by omega
    simp [h, this]
  · by_cases h2 : a = b
    · subst h2; simp
    · have : b < a := by omega
      simp [h, h2, this]

theorem cmp_ne (a : Int) : (some (compare a a) != some Ordering.eq) = false := by
  simp [compare, compareOfLessAndEq]

/-- The rank's bits. -/
def rkB (x : Su) : Nat := if okSu x = true then flB (rkF x) else 9221120237041090561

theorem nan_l (b : Nat) : FloatKind.f64.format.order 9221120237041090561 b = none := by
  have h : FloatKind.f64.format.read 9221120237041090561 = .nan false 2251799813685249 := by kernel_rfl
  unfold Ieee.Format.order
  rw [h]
  rfl

theorem nan_r (a : Nat) : FloatKind.f64.format.order a 9221120237041090561 = none := by
  have h : FloatKind.f64.format.read 9221120237041090561 = .nan false 2251799813685249 := by kernel_rfl
  unfold Ieee.Format.order
  rw [h]
  cases FloatKind.f64.format.read a <;> rfl

theorem rk_order {x y : Su} (hx : okSu x = true) (hy : okSu y = true) : FloatKind.f64.format.order (rkB x) (rkB y) = some (compare (rkF x) (rkF y)) := by
  unfold rkB
  rw [if_pos hx, if_pos hy]
  exact fl_order (steps_ok hx).2.2.2.2 (steps_ok hy).2.2.2.2 (rkF_pos hx) (rkF_pos hy)

theorem rk_lt (x y : Su) : (FloatKind.f64.format.order (rkB x) (rkB y) == some .lt) = (okSu x && okSu y && decide (rkF x < rkF y)) := by
  cases hx : okSu x
  · have : rkB x = 9221120237041090561 := if_neg (by simp [hx])
    rw [this, nan_l]; rfl
  · cases hy : okSu y
    · have : rkB y = 9221120237041090561 := if_neg (by simp [hy])
      rw [this, nan_r]; rfl
    · rw [rk_order hx hy, cmp_lt]; rfl

end Go.Proofs.Ythaaompkcomfcaa
