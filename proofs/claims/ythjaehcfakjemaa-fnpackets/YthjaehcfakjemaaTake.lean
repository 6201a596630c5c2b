/- 'TakeNumber', the model's and the program's, by contracts. -/
import Derived.Test.YthjaehcfakjemaaProg
import Derived.Test.YthjaehcfakjemaaBase
namespace Go.Proofs.Ythjaehcfakjemaa
open Go.RowKit

/-- The number of so many bytes at a place. -/
def takeN (zs : List Int) (p k : Nat) : Int := (List.range k).foldl (fun n i => n * 256 + zs.getD (p + i) 0) 0

theorem takeN_succ (zs : List Int) (p k : Nat) : takeN zs p (k + 1) = takeN zs p k * 256 + zs.getD (p + k) 0 := by
  simp [takeN, List.range_succ, List.foldl_append]

theorem takeN_bound (zs : List Int) (hb : Bytes zs) (p : Nat) : ∀ k, 0 ≤ takeN zs p k ∧ takeN zs p k < (256 : Int) ^ k
  | 0 => by simp [takeN]
  | k + 1 => by
    have h := takeN_bound zs hb p k
    have hz := hb.at (p + k)
    rw [takeN_succ, Int.pow_succ]
    omega

theorem pow256 (k : Nat) : ((256 ^ k : Nat) : Int) = (256 : Int) ^ k := by simp [Int.natCast_pow]

theorem pow256_7 (k : Nat) (hk : k ≤ 7) : (256 : Int) ^ k ≤ 72057594037927936 := by
  have h : 256 ^ k ≤ 256 ^ 7 := Nat.pow_le_pow_right (by omega) hk
  have e : 256 ^ 7 = 72057594037927936 := by rfl
  rw [e] at h
  rw [← pow256]
  omega

theorem pow256_6 (k : Nat) (hk : k ≤ 6) : (256 : Int) ^ k ≤ 281474976710656 := by
  have h : 256 ^ k ≤ 256 ^ 6 := Nat.pow_le_pow_right (by omega) hk
  have e : 256 ^ 6 = 281474976710656 := by rfl
  rw [e] at h
  rw [← pow256]
  omega

/-- .. of at most seven bytes: below 2^56. -/
theorem takeN_small (zs : List Int) (hb : Bytes zs) (p k : Nat) (hk : k ≤ 7) : 0 ≤ takeN zs p k ∧ takeN zs p k < 72057594037927936 := by
  have h := takeN_bound zs hb p k
  have h7 := pow256_7 k hk
  omega

theorem takeN_less (zs : List Int) (hb : Bytes zs) (p k : Nat) (hk : k ≤ 6) : 0 ≤ takeN zs p k ∧ takeN zs p k < 281474976710656 := by
  have h := takeN_bound zs hb p k
  have h7 := pow256_6 k hk
  omega

set_option maxHeartbeats 400000 in
theorem l1Take_ok (a : Option Addr) (n ca p m : Nat) (zs : List Int) (w : World) (ha : Rd .u8 w a zs) (hb : Bytes zs) (hn : zs.length = n) (hx : n ≤ maxLen) (hm : m ≤ 7) (hp : p + m ≤ n) :
    Calls Try.prog 25 #[.slice a n ca, .int .i64 p, .int .i64 m] w fun e w' => e = .returned (.int .i64 (takeN zs p m)) ∧ Below w.heap.size w w' := by
  unfold maxLen at hx
  go_enter Try.func25, Try.ntmps25
  go_wp2
  go_loopw [7, 8] (fun t i wr => ∃ k : Nat, k ≤ m ∧ i = .int .i64 k ∧ t = .int .i64 (takeN zs p k) ∧ wr = w) (fun _ i _ => m - (intOf i).toNat)
  case atStart => exact ⟨0, Nat.zero_le _, rfl, rfl, rfl⟩
  case round =>
    obtain ⟨k, hk, rfl, rfl, rfl⟩ := hrel
    by_cases hlt : k < m
    · rcases ha with ha | ⟨b1, o1, rfl, hca⟩
      · simp [ha] at hn; omega
      have h1 := hca (p + k) (by omega)
      obtain ⟨hz1, hz2⟩ := hb.at' (p + k)
      obtain ⟨hs1, hs2⟩ := takeN_less zs hb p k (by omega)
      have hk1 : (k : Int) < (m : Int) := by omega
      have hk2 : (p : Int) + (k : Int) < (n : Int) := by omega
      have e := Hid.mk (takeN_succ zs p k)
      clear hca
      go_wp2
      go_roundw
      case rel => exact ⟨k + 1, by omega, by go_num, by rw [e.out]; simp [List.getD], by trivial⟩
      case measure => simp [intOf]; omega
    · have hkn : k = m := by omega
      subst hkn
      go_wp2
      go_ret
      exact ⟨rfl, Below.refl _ _⟩

/-- The code and the number that 'TakeNumber' answers. -/
abbrev tkIn (zs : List Int) (p m : Int) : Prop := 1 ≤ m ∧ m ≤ 7 ∧ 0 ≤ p ∧ p ≤ (zs.length : Int) - m
def tkCode (zs : List Int) (p m : Int) : Int := if tkIn zs p m then 0 else 3
def tkVal (zs : List Int) (p m : Int) : Int := if tkIn zs p m then takeN zs p.toNat m.toNat else 0

set_option maxHeartbeats 400000 in
theorem implTakeNumber_ok (a : Option Addr) (n ca : Nat) (p m : Int) (zs : List Int) (w : World) (ha : Rd .u8 w a zs) (hb : Bytes zs) (hn : zs.length = n) (hx : n ≤ maxLen) (hca : n ≤ ca) :
    Calls Try.prog 58 #[.slice a n ca, .int .i64 p, .int .i64 m] w fun e w' => e = .returned (.agg #[.int .i64 (tkCode zs p m), .int .i64 (tkVal zs p m)]) ∧ Below w.heap.size w w' := by
  unfold maxLen at hx
  by_cases h1 : 1 ≤ m ∧ m ≤ 7
  · obtain ⟨h1, h2⟩ := h1
    by_cases h3 : 0 ≤ p ∧ p ≤ (n : Int) - m
    · obtain ⟨h3, h4⟩ := h3
      obtain ⟨p, rfl⟩ := Int.eq_ofNat_of_zero_le h3
      obtain ⟨m, rfl⟩ := Int.eq_ofNat_of_zero_le (by omega : 0 ≤ m)
      have ht : tkIn zs p m := ⟨by omega, by omega, by omega, by omega⟩
      have e1 := Hid.mk (show tkCode zs p m = 0 from if_pos ht)
      have e2 := Hid.mk (show tkVal zs p m = takeN zs p m from if_pos ht)
      clear ht
      rcases ha with ha | ⟨b1, o1, rfl, hcell⟩
      · simp [ha] at hn; omega
      have hd1 : decide ((p : Int) < 0) = false := by simp
      have hd2 : decide ((n : Int) - (m : Int) < (p : Int)) = false := by simp; omega
      go_enter Try.func58, Try.ntmps58
      go_wp2
      go_loopw [7, 33] (fun t i wr => ∃ k : Nat, k ≤ m ∧ i = .int .i64 k ∧ t = .int .u64 (takeN zs p k) ∧ wr = w.alloc (.cells #[.int .i64 0, .int .i64 0] 72)) (fun _ i _ => m - (intOf i).toNat)
      case atStart => exact ⟨0, Nat.zero_le _, rfl, rfl, rfl⟩
      case round =>
        obtain ⟨k, hk, rfl, rfl, rfl⟩ := hrel
        by_cases hlt : k < m
        · have h0 := hcell (p + k) (by omega)
          have hc := (belowA w (.cells #[.int .i64 0, .int .i64 0] 72)).cell (World.block_lt_of_cell? (a := ⟨b1, o1 + (p + k), none⟩) w h0)
          rw [h0, ← Nat.add_assoc] at hc
          obtain ⟨hz1, hz2⟩ := hb.at' (p + k)
          obtain ⟨hs1, hs2⟩ := takeN_less zs hb p k (by omega)
          have hk1 : (k : Int) < (m : Int) := by omega
          have e := Hid.mk (takeN_succ zs p k)
          clear hcell h0
          go_wp2
          go_roundw
          case rel => exact ⟨k + 1, by omega, by go_num, by rw [e.out, or256 _ _ hs1 (by omega) hz1 hz2]; simp [List.getD], by trivial⟩
          case measure => simp [intOf]; omega
        · have hkn : k = m := by omega
          subst hkn
          obtain ⟨hs1, hs2⟩ := takeN_small zs hb p k (by omega)
          go_wp2
          refine bodyPost_ret (v := .agg #[.int .i64 0, .int .i64 (takeN zs p k)]) (by simp [results, Try.results58, go_sem]) rfl ⟨by rw [e1.out, e2.out], ?_⟩
          exact belowA _ _
    · have ht : ¬ tkIn zs p m := fun h => h3 ⟨h.2.2.1, by have := h.2.2.2; omega⟩
      have e1 := Hid.mk (show tkCode zs p m = 3 from if_neg ht)
      have e2 := Hid.mk (show tkVal zs p m = 0 from if_neg ht)
      clear ht
      rcases (by simp only [decide_eq_true_iff, decide_eq_false_iff_not]; omega : decide (p < 0) = true ∨ (decide (p < 0) = false ∧ decide ((n : Int) - m < p) = true)) with h5 | ⟨h5, h6⟩
      all_goals
        clear h3
        go_enter Try.func58, Try.ntmps58
        go_wp2
        refine bodyPost_ret (v := .agg #[.int .i64 3, .int .i64 0]) (by simp [results, Try.results58, go_sem]) rfl ⟨by rw [e1.out, e2.out], ?_⟩
        exact belowA _ _
  · have ht : ¬ tkIn zs p m := fun h => h1 ⟨h.1, h.2.1⟩
    have e1 := Hid.mk (show tkCode zs p m = 3 from if_neg ht)
    have e2 := Hid.mk (show tkVal zs p m = 0 from if_neg ht)
    clear ht
    rcases (by simp only [decide_eq_false_iff_not]; omega : m < 1 ∨ (1 ≤ m ∧ decide (m ≤ 7) = false)) with h5 | ⟨h5, h6⟩
    all_goals
      clear h1
      go_enter Try.func58, Try.ntmps58
      go_wp2
      refine bodyPost_ret (v := .agg #[.int .i64 3, .int .i64 0]) (by simp [results, Try.results58, go_sem]) rfl ⟨by rw [e1.out, e2.out], ?_⟩
      exact belowA _ _

end Go.Proofs.Ythjaehcfakjemaa
