/- Sums over words, the model's and the program's, by contracts. -/
import Derived.Test.YthjaehcfakjemaaProg
import Derived.Test.YthjaehcfakjemaaBase
namespace Go.Proofs.Ythjaehcfakjemaa
open Go.RowKit

/-- What folding comes to. -/
def fold (n : Int) : Int := if n = 0 then 0 else (n - 1) % 65535 + 1

theorem fold_low (n : Int) (h : 0 ≤ n) (h2 : n ≤ 65535) : fold n = n := by
  unfold fold; split <;> omega

theorem fold_bound (n : Int) : 0 ≤ fold n ∧ fold n ≤ 65535 := by
  unfold fold; split <;> omega

theorem fold_step (n : Int) (h : 65535 < n) : fold (n % 65536 + n / 65536) = fold n := by
  unfold fold
  rw [if_neg (by omega), if_neg (by omega)]
  omega

theorem or256u16 (x z : Int) (h1 : 0 ≤ x) (h2 : x < 256) (h3 : 0 ≤ z) (h4 : z < 256) : bits .or .u16 (x * 256) z = x * 256 + z := by
  rw [u16_or _ _ (by omega) (by omega) h3 (by omega)]
  obtain ⟨a, rfl⟩ := Int.eq_ofNat_of_zero_le h1
  obtain ⟨b, rfl⟩ := Int.eq_ofNat_of_zero_le h3
  have e : ((a : Int) * 256).toNat = 2 ^ 8 * a := by omega
  rw [e, Int.toNat_natCast, ← Nat.two_pow_add_eq_or_of_lt (by omega : b < 2 ^ 8)]
  omega

set_option maxHeartbeats 400000 in
theorem foldWords_ok (n : Int) (w : World) (h0 : 0 ≤ n) (h1 : n ≤ 9223372036854775807) :
    Calls Try.prog 52 #[.int .u64 n] w fun e w' => e = .returned (.int .u64 (fold n)) ∧ w' = w := by
  go_enter Try.func52, Try.ntmps52
  go_wp2
  go_loopw [0] (fun t wr => ∃ v : Int, 0 ≤ v ∧ v ≤ 9223372036854775807 ∧ t = .int .u64 v ∧ wr = w ∧ Hid (fold v = fold n)) (fun t _ => (intOf t).toNat)
  case atStart => exact ⟨n, h0, h1, rfl, rfl, rfl⟩
  case round =>
    obtain ⟨v, hv0, hv1, rfl, rfl, hf⟩ := hrel
    by_cases hlt : 65535 < v
    · have hs := Hid.mk (fold_step v hlt)
      go_wp2
      go_roundw
      case rel => exact ⟨v % 65536 + v / 65536, by omega, by omega, rfl, by trivial, hs.out.trans hf.out⟩
      case measure => simp [intOf]; omega
    · have hs := Hid.mk (fold_low v hv0 (by omega))
      go_wp2
      go_ret
      exact ⟨ret_int (a := v) (by rw [← hf.out, hs.out]), rfl⟩

set_option maxHeartbeats 400000 in
theorem l1Fold_ok (n : Int) (w : World) (h0 : 0 ≤ n) (h1 : n ≤ 9223372036854775807) :
    Calls Try.prog 57 #[.int .i64 n] w fun e w' => e = .returned (.int .i64 (fold n)) ∧ w' = w := by
  go_enter Try.func57, Try.ntmps57
  go_wp2
  go_loopw [0] (fun t wr => ∃ v : Int, 0 ≤ v ∧ v ≤ 9223372036854775807 ∧ t = .int .i64 v ∧ wr = w ∧ Hid (fold v = fold n)) (fun t _ => (intOf t).toNat)
  case atStart => exact ⟨n, h0, h1, rfl, rfl, rfl⟩
  case round =>
    obtain ⟨v, hv0, hv1, rfl, rfl, hf⟩ := hrel
    by_cases hlt : 65535 < v
    · have hs := Hid.mk (fold_step v hlt)
      go_wp2
      go_roundw
      case rel => exact ⟨v % 65536 + v / 65536, by omega, by omega, rfl, by trivial, hs.out.trans hf.out⟩
      case measure => simp [intOf]; omega
    · have hs := Hid.mk (fold_low v hv0 (by omega))
      go_wp2
      go_ret
      exact ⟨ret_int (a := v) (by rw [← hf.out, hs.out]), rfl⟩

/-- The word at a place, a byte 0 behind an odd last one. -/
def wordN (zs : List Int) (k : Nat) : Int := 256 * zs.getD (2 * k) 0 + zs.getD (2 * k + 1) 0

/-- The words' sum, folded at each. -/
def sumN (zs : List Int) : Nat → Int
  | 0 => 0
  | k + 1 => fold (sumN zs k + wordN zs k)

theorem sumN_bound (zs : List Int) (k : Nat) : 0 ≤ sumN zs k ∧ sumN zs k ≤ 65535 := by
  cases k with
  | zero => simp [sumN]
  | succ k => exact fold_bound _

theorem sumN_succ (zs : List Int) (k : Nat) : sumN zs (k + 1) = fold (sumN zs k + wordN zs k) := rfl

/-- What 'SumWords' answers. -/
def sumWords (zs : List Int) : Int := 65535 - sumN zs ((zs.length + 1) / 2)

theorem wrap_u16 (x : Int) (h : 0 ≤ x) (h2 : x < 65536) : IntKind.u16.wrap x = x := by
  rw [IntKind.wrap_u16]; omega

set_option maxHeartbeats 400000 in
theorem wordAt_ok (a : Option Addr) (n ca k : Nat) (zs : List Int) (w : World) (ha : Rd .u8 w a zs) (hb : Bytes zs) (hn : zs.length = n) (hx : n ≤ 281474976710656) (hk : 2 * k < n) :
    Calls Try.prog 53 #[.slice a n ca, .int .i64 (2 * (k : Int))] w fun e w' => e = .returned (.int .u16 (wordN zs k)) ∧ w' = w := by
  rcases ha with ha | ⟨b1, o1, rfl, hc⟩
  · simp [ha] at hn; omega
  have h1 := hc (2 * k) (by omega)
  have hW := Hid.mk (show wordN zs k = 256 * zs.getD (2 * k) 0 + zs.getD (2 * k + 1) 0 from rfl)
  obtain ⟨hz1, hz2⟩ := hb.at (2 * k)
  obtain ⟨hy1, hy2⟩ := hb.at (2 * k + 1)
  have h2 : 2 * k + 1 < n → w.cell? ⟨b1, o1 + (2 * k + 1), none⟩ = some (.int .u8 (zs.getD (2 * k + 1) 0)) := fun h => hc (2 * k + 1) (by omega)
  have h3 : ¬ 2 * k + 1 < n → zs.getD (2 * k + 1) 0 = 0 := fun h => by simp [List.getD, List.getElem?_eq_none (show zs.length ≤ 2 * k + 1 by omega)]
  clear hc hn
  generalize zs.getD (2 * k) 0 = z at *
  generalize zs.getD (2 * k + 1) 0 = y at *
  have r1 := wrap_u16 z hz1 (by omega)
  have r2 := wrap_u16 (z * 256) (by omega) (by omega)
  by_cases hlt : 2 * k + 1 < n
  · have h2 := h2 hlt
    have r3 := wrap_u16 y hy1 (by omega)
    have r4 := or256u16 z y hz1 hz2 hy1 hy2
    clear h3
    go_enter Try.func53, Try.ntmps53
    go_wp2
    go_ret
    exact ⟨ret_int (a := z * 256 + y) (by rw [hW.out]; omega), rfl⟩
  · have h3 := Hid.mk (h3 hlt)
    clear h2
    go_enter Try.func53, Try.ntmps53
    go_wp2
    go_ret
    exact ⟨ret_int (a := z * 256) (by rw [hW.out, h3.out]; omega), rfl⟩

theorem wordN_bound (zs : List Int) (hb : Bytes zs) (k : Nat) : 0 ≤ wordN zs k ∧ wordN zs k ≤ 65535 := by
  have h1 := hb.at (2 * k)
  have h2 := hb.at (2 * k + 1)
  unfold wordN
  omega

set_option maxHeartbeats 400000 in
theorem implSumWords_ok (a : Option Addr) (n ca : Nat) (zs : List Int) (w : World) (ha : Rd .u8 w a zs) (hb : Bytes zs) (hn : zs.length = n) (hx : n ≤ 281474976710656) :
    Calls Try.prog 38 #[.slice a n ca] w fun e w' => e = .returned (.int .i64 (sumWords zs)) ∧ Below w.heap.size w w' := by
  have hS := Hid.mk (show sumWords zs = 65535 - sumN zs ((n + 1) / 2) by unfold sumWords; rw [hn])
  go_enter Try.func38, Try.ntmps38
  go_wp2
  go_loopw [3, 4] (fun t i wr => ∃ k : Nat, k ≤ (n + 1) / 2 ∧ i = .int .i64 (2 * (k : Int)) ∧ t = .int .u64 (sumN zs k) ∧ wr = w) (fun _ i _ => n + 2 - (intOf i).toNat)
  case atStart => exact ⟨0, Nat.zero_le _, rfl, rfl, rfl⟩
  case round =>
    obtain ⟨k, hk, rfl, rfl, rfl⟩ := hrel
    obtain ⟨hs1, hs2⟩ := sumN_bound zs k
    obtain ⟨hw1, hw2⟩ := wordN_bound zs hb k
    by_cases hlt : 2 * k < n
    · have hk1 : 2 * (k : Int) < (n : Int) := by omega
      have hsucc := Hid.mk (sumN_succ zs k)
      go_wp2_with fail
      refine (wordAt_ok a n ca k zs _ ha hb hn hx hlt).mono ?_
      rintro e w1 ⟨rfl, rfl⟩
      go_wp2_with fail
      refine (foldWords_ok _ _ (by omega) (by omega)).mono ?_
      rintro e w2 ⟨rfl, rfl⟩
      go_wp2
      go_roundw
      case rel => exact ⟨k + 1, by omega, by go_num, by rw [hsucc.out], by trivial⟩
      case measure => simp [intOf]; omega
    · have hk2 : k = (n + 1) / 2 := by omega
      have hge : (n : Int) ≤ 2 * (k : Int) := by omega
      rw [← hk2] at hS
      clear hk2
      go_wp2
      go_ret
      exact ⟨ret_int (a := 65535 - sumN zs k) hS.out.symm, Below.refl _ _⟩

set_option maxHeartbeats 400000 in
theorem specSumWords_ok (a : Option Addr) (n ca : Nat) (zs : List Int) (w : World) (ha : Rd .u8 w a zs) (hb : Bytes zs) (hn : zs.length = n) (hx : n ≤ 281474976710656) :
    Calls Try.prog 43 #[.slice a n ca] w fun e w' => e = .returned (.int .i64 (sumWords zs)) ∧ Below w.heap.size w w' := by
  have hS := Hid.mk (show sumWords zs = 65535 - sumN zs ((n + 1) / 2) by unfold sumWords; rw [hn])
  go_enter Try.func43, Try.ntmps43
  go_wp2
  go_loopw [3, 4] (fun t i wr => ∃ k : Nat, k ≤ (n + 1) / 2 ∧ i = .int .i64 (2 * (k : Int)) ∧ t = .int .i64 (sumN zs k) ∧ wr = w) (fun _ i _ => n + 2 - (intOf i).toNat)
  case atStart => exact ⟨0, Nat.zero_le _, rfl, rfl, rfl⟩
  case round =>
    obtain ⟨k, hk, rfl, rfl, rfl⟩ := hrel
    obtain ⟨hs1, hs2⟩ := sumN_bound zs k
    by_cases hlt : 2 * k < n
    · have hk1 : 2 * (k : Int) < (n : Int) := by omega
      rcases ha with ha | ⟨b1, o1, rfl, hc⟩
      · simp [ha] at hn; omega
      have h1 := hc (2 * k) (by omega)
      have hsucc := Hid.mk (sumN_succ zs k)
      have hW := Hid.mk (show wordN zs k = 256 * zs.getD (2 * k) 0 + zs.getD (2 * k + 1) 0 from rfl)
      obtain ⟨hz1, hz2⟩ := hb.at (2 * k)
      obtain ⟨hy1, hy2⟩ := hb.at (2 * k + 1)
      have h2 : 2 * k + 1 < n → wr.cell? ⟨b1, o1 + (2 * k + 1), none⟩ = some (.int .u8 (zs.getD (2 * k + 1) 0)) := fun h => hc (2 * k + 1) (by omega)
      have h3 : ¬ 2 * k + 1 < n → zs.getD (2 * k + 1) 0 = 0 := fun h => by simp [List.getD, List.getElem?_eq_none (show zs.length ≤ 2 * k + 1 by omega)]
      clear hc hn
      generalize zs.getD (2 * k) 0 = z at *
      generalize zs.getD (2 * k + 1) 0 = y at *
      by_cases hlt2 : 2 * k + 1 < n
      · have h2 := h2 hlt2
        have hk2 : 2 * (k : Int) + 1 < (n : Int) := by omega
        clear h3
        go_wp2_with fail
        refine (l1Fold_ok _ _ (by omega) (by omega)).mono ?_
        rintro e w2 ⟨rfl, rfl⟩
        go_wp2
        go_roundw
        case rel => exact ⟨k + 1, by omega, by go_num, by rw [hsucc.out, hW.out]; congr 2; omega, by trivial⟩
        case measure => simp [intOf]; omega
      · have h3 := Hid.mk (h3 hlt2)
        have hk2 : (n : Int) ≤ 2 * (k : Int) + 1 := by omega
        clear h2
        go_wp2_with fail
        refine (l1Fold_ok _ _ (by omega) (by omega)).mono ?_
        rintro e w2 ⟨rfl, rfl⟩
        go_wp2
        go_roundw
        case rel => exact ⟨k + 1, by omega, by go_num, by rw [hsucc.out, hW.out, h3.out]; congr 2; omega, by trivial⟩
        case measure => simp [intOf]; omega
    · have hk2 : k = (n + 1) / 2 := by omega
      have hge : (n : Int) ≤ 2 * (k : Int) := by omega
      rw [← hk2] at hS
      clear hk2
      go_wp2
      go_ret
      exact ⟨ret_int (a := 65535 - sumN zs k) hS.out.symm, Below.refl _ _⟩

end Go.Proofs.Ythjaehcfakjemaa
