/- Sums over words, the model's and the program's, by contracts. -/
import Derived.Test.YtfldgeokigcokaaGreatProg
import Derived.Test.YtfldgeokigcokaaGreatBase
namespace Go.Proofs.YtfldgeokigcokaaGreat
open Go.RowKit

/-- What folding comes to. -/
def fold (n : Int) : Int := if n = 0 then 0 else (n - 1) % 65535 + 1

theorem fold_low (n : Int) (h : 0 ≤ n) (h2 : n ≤ 65535) : fold n = n := by
  unfold fold; split <;> omega

theorem fold_bound (n : Int) : 0 ≤ fold n ∧ fold n ≤ 65535 := by
  unfold fold; split <;> omega

theorem fold_step (n : Int) (h : 65535 < n) : fold (n % 65536 + n / 65536) = fold n := by
  unfold fold
  rw [if_neg (by omega), if_neg (by omega)]
  omega

theorem or256u16 (x z : Int) (h1 : 0 ≤ x) (h2 : x < 256) (h3 : 0 ≤ z) (h4 : z < 256) : bits .or .u16 (x * 256) z = x * 256 + z := by
  rw [u16_or _ _ (by omega) (by omega) h3 (by omega)]
  obtain ⟨a, rfl⟩ := Int.eq_ofNat_of_zero_le h1
  obtain ⟨b, rfl⟩ := Int.eq_ofNat_of_zero_le h3
  have e : ((a : Int) * 256).toNat = 2 ^ 8 * a := by omega
  rw [e, Int.toNat_natCast, ← Nat.two_pow_add_eq_or_of_lt (by omega : b < 2 ^ 8)]
  omega

/-- The word at a place, a byte 0 behind an odd last one. -/
def wordN (zs : List Int) (k : Nat) : Int := 256 * zs.getD (2 * k) 0 + zs.getD (2 * k + 1) 0

/-- The words' sum, folded at each. -/
def sumN (zs : List Int) : Nat → Int
  | 0 => 0
  | k + 1 => fold (sumN zs k + wordN zs k)

theorem sumN_bound (zs : List Int) (k : Nat) : 0 ≤ sumN zs k ∧ sumN zs k ≤ 65535 := by
  cases k with
  | zero => simp [sumN]
  | succ k => exact fold_bound _

theorem sumN_succ (zs : List Int) (k : Nat) : sumN zs (k + 1) = fold (sumN zs k + wordN zs k) := rfl

/-- What 'SumWords' answers. -/
def sumWords (zs : List Int) : Int := 65535 - sumN zs ((zs.length + 1) / 2)

theorem wrap_u16 (x : Int) (h : 0 ≤ x) (h2 : x < 65536) : IntKind.u16.wrap x = x := by
  rw [IntKind.wrap_u16]; omega

theorem wordN_bound (zs : List Int) (hb : Bytes zs) (k : Nat) : 0 ≤ wordN zs k ∧ wordN zs k ≤ 65535 := by
  have h1 := hb.at (2 * k)
  have h2 := hb.at (2 * k + 1)
  unfold wordN
  omega

end Go.Proofs.YtfldgeokigcokaaGreat
