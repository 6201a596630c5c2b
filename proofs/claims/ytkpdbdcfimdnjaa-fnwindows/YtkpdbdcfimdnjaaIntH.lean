/- The laws' own helpers over whole numbers, by contract. -/
import Derived.Test.YtkpdbdcfimdnjaaIntA
import Derived.Test.YtkpdbdcfimdnjaaFill
namespace Go.Proofs.Ytkpdbdcfimdnjaa
open Go.RowKit

/-- What 'mark' lays: the numbers from q on, each brought to a byte. -/
def imarks (q : Int) (n : Nat) : List Int := (List.range n).map fun (i : Nat) => q + (i : Int)

theorem length_imarks (q : Int) (n : Nat) : (imarks q n).length = n := by simp [imarks]

theorem imarks_at (q : Int) (n k : Nat) (h : k < n) : (imarks q n).getD k 0 = q + (k : Int) := by simp [imarks, List.getD, h]

/-- A row of which the first 'k' bear their imarks. -/
def imarkFill (q : Int) (xs : List Int) (k : Nat) : List Int := imarks q k ++ xs.drop k

theorem imarkFill_zero (q : Int) (xs : List Int) : imarkFill q xs 0 = xs := by simp [imarkFill, imarks]

theorem imarkFill_all (q : Int) (xs : List Int) (n : Nat) (h : xs.length = n) : imarkFill q xs n = imarks q n := by simp [imarkFill, ← h]

theorem length_imarkFill (q : Int) (xs : List Int) (k n : Nat) (h : xs.length = n) (hk : k ≤ n) : (imarkFill q xs k).length = n := by simp [imarkFill, length_imarks]; omega

theorem imarkFill_set (q : Int) (xs : List Int) (k n : Nat) (h : xs.length = n) (hk : k < n) : (imarkFill q xs k).set k (q + (k : Int)) = imarkFill q xs (k + 1) := by
  unfold imarkFill
  rw [List.set_append_right _ _ (by rw [length_imarks]; exact Nat.le_refl _), length_imarks, Nat.sub_self, List.drop_eq_getElem_cons (by omega : k < xs.length), List.set_cons_zero]
  simp [imarks, List.range_succ]


set_option maxHeartbeats 400000 in
theorem markInt64S_ok (a : Option Addr) (n ca base : Nat) (xs : List Int) (q : Int) (w : World) (ha : Own .i64 2 w base a ca xs) (hn : xs.length = n) (h0 : 0 ≤ q) (hx : q + (n : Int) ≤ 9223372036854775807) :
    Calls Try.prog 35 #[.slice a n ca, .int .i64 q] w fun e w' => e = .returned (.int .i64 (q + (n : Int))) ∧ Own .i64 2 w' base a ca (imarks q n) ∧ w.grownBy w' (a.map Addr.block) := by
  have hA := Hid.mk ha
  have ha0 : w.ownsRow base 2 1 (.slice a n ca) n ((imarkFill q xs 0).map (Value.int .i64)) := by
    rw [imarkFill_zero]; exact ha.row hn
  go_enter Try.func35, Try.ntmps35
  go_wp2
  go_loopw [1, 5] (fun m i wr => ∃ k : Nat, k ≤ n ∧ i = .int .i64 k ∧ m = .int .i64 (q + (k : Int)) ∧ wr.ownsRow base 2 1 (.slice a n ca) n ((imarkFill q xs k).map (Value.int .i64)) ∧ w.grownBy wr (a.map Addr.block)) (fun _ i _ => n - (intOf i).toNat)
  case atStart => exact ⟨0, Nat.zero_le _, rfl, by simp, ha0, World.grownBy.refl _ _⟩
  case round =>
    obtain ⟨k, hk, rfl, rfl, hown, hb⟩ := hrel
    by_cases hlt : k < n
    · obtain ⟨g, rfl, hg⟩ := hA.out.some_of (by omega)
      have h2 : wr.frozen? ⟨g, k, none⟩ = false := hown.frozenAt k
      have h3 : wr.cell? ⟨g, k, none⟩ = some (.int .i64 ((imarkFill q xs k).getD k 0)) := by
        rw [hown.cellAt k (by omega)]
        simp [List.getD, length_imarkFill q xs k n hn hk, hlt]
      have hk1 : (k : Int) < (n : Int) := by omega
      have hs := hown.stored k (.int .i64 (q + (k : Int)))
      rw [set_map, imarkFill_set q xs k n hn hlt] at hs
      have HS := Hid.mk hs.1
      have HB := Hid.mk (grownBy_trans hb hs.2)
      clear hs hown hb ha0 ha
      go_wp2
      go_roundw
      case rel => exact ⟨k + 1, by omega, by go_num, by go_num, HS.out, HB.out⟩
      case measure => simp [intOf]; omega
    · have hkn : k = n := by omega
      subst hkn
      rw [imarkFill_all q xs k hn] at hown
      have HO := Hid.mk hown
      clear hown ha0 ha
      go_wp2
      go_ret
      exact ⟨rfl, Own.mk HO.out (length_imarks _ _), hb⟩

set_option maxHeartbeats 400000 in
theorem heldInt64S_ok (a : Option Addr) (n ca : Nat) (q : Int) (w : World) (ha : Rd .i64 w a (imarks q n)) (h0 : 0 ≤ q) (hx : q + (n : Int) ≤ 9223372036854775807) :
    Calls Try.prog 55 #[.slice a n ca, .int .i64 q] w fun e w' => e = .returned (.int .i64 (q + (n : Int))) ∧ Below w.heap.size w w' := by
  go_enter Try.func55, Try.ntmps55
  go_wp2
  go_loopw [1, 5] (fun m i wr => ∃ k : Nat, k ≤ n ∧ i = .int .i64 k ∧ m = .int .i64 (q + (k : Int)) ∧ wr = w) (fun _ i _ => n - (intOf i).toNat)
  case atStart => exact ⟨0, Nat.zero_le _, rfl, by simp, rfl⟩
  case round =>
    obtain ⟨k, hk, rfl, rfl, rfl⟩ := hrel
    by_cases hlt : k < n
    · rcases ha with ha | ⟨b1, o1, rfl, hca⟩
      · have := congrArg List.length ha; simp [imarks] at this; omega
      have h1 := hca k (by simpa [imarks] using hlt)
      rw [imarks_at q n k hlt] at h1
      have hk1 : (k : Int) < (n : Int) := by omega
      clear hca
      go_wp2
      go_roundw
      case rel => exact ⟨k + 1, by omega, by go_num, by go_num, by trivial⟩
      case measure => simp [intOf]; omega
    · have hkn : k = n := by omega
      subst hkn
      go_wp2
      go_ret
      exact ⟨rfl, Below.refl _ _⟩

set_option maxHeartbeats 1000000 in
theorem eqInt64S_ok (a b : Option Addr) (n ca cb : Nat) (xs : List Int) (w : World) (ha : Rd .i64 w a xs) (hb : Rd .i64 w b xs) (hn : xs.length = n) (hx : n ≤ maxLen) :
    Calls Try.prog 34 #[.slice a n ca, .slice b n cb] w fun e w' => e = .returned (.bool true) ∧ Below w.heap.size w w' := by
  unfold maxLen at hx
  go_enter Try.func34, Try.ntmps34
  go_wp2
  go_loopw [5] (fun i wr => ∃ k : Nat, k ≤ n ∧ i = .int .i64 k ∧ Below w.heap.size w wr) (fun i _ => n - (intOf i).toNat)
  case atStart => exact ⟨0, Nat.zero_le _, rfl, Below.refl _ _⟩
  case round =>
    obtain ⟨k, hk, rfl, hbel⟩ := hrel
    by_cases hlt : k < n
    · replace ha := ha.kept hbel
      replace hb := hb.kept hbel
      rcases ha with ha | ⟨b1, o1, rfl, hca⟩
      · simp [ha] at hn; omega
      rcases hb with hb | ⟨b2, o2, rfl, hcb⟩
      · simp [hb] at hn; omega
      have p0 := hca k (by omega)
      have p1 := hcb k (by omega)
      have hk1 : (k : Int) < (n : Int) := by omega
      clear hca hcb
      generalize xs.getD k 0 = z at *
      replace hbel := Hid.mk hbel
      go_wp2
      go_quiet (fail)
      go_wp2
      go_roundw
      case rel => exact ⟨k + 1, by omega, by go_num, belowN hbel.out _⟩
      case measure => simp [intOf]; omega
    · have hkn : k = n := by omega
      subst hkn
      go_wp2
      go_ret
      exact ⟨rfl, hbel⟩

theorem eqIntsResult_ok (k : Int) (a b : Option Addr) (n ca cb : Nat) (xs : List Int) (w : World) (ha : Rd .i64 w a xs) (hb : Rd .i64 w b xs) (hn : xs.length = n) (hx : n ≤ maxLen) :
    Calls Try.prog 33 #[.agg #[.int .i64 k, .slice a n ca], .agg #[.int .i64 k, .slice b n cb]] w fun e w' => e = .returned (.bool true) ∧ Below w.heap.size w w' := by
  go_enter Try.func33, Try.ntmps33
  go_wp2_with fail
  refine (eqInt64S_ok a b n ca cb xs _ (ha.kept (belowA2 _ _ _)) (hb.kept (belowA2 _ _ _)) hn hx).mono ?_
  rintro e w1 ⟨rfl, b1⟩
  go_wp2
  go_ret
  exact ⟨rfl, thenB (belowA2 _ _ _) b1⟩

set_option maxHeartbeats 400000 in
theorem markIntsResult_ok (k : Int) (a : Option Addr) (n ca base : Nat) (xs : List Int) (q : Int) (w : World) (ha : Own .i64 2 w base a ca xs) (hn : xs.length = n) (h0 : 0 ≤ q) (hx : q + (n : Int) ≤ 9223372036854775807) :
    Calls Try.prog 36 #[.agg #[.int .i64 k, .slice a n ca], .int .i64 q] w fun e w' => e = .returned (.int .i64 (q + (n : Int))) ∧ Own .i64 2 w' base a ca (imarks q n) ∧ w.grownBy w' (a.map Addr.block) := by
  go_enter Try.func36, Try.ntmps36
  go_wp2_with fail
  refine (markInt64S_ok a n ca base xs q _ (ha.kept (belowA _ _)) hn h0 hx).mono ?_
  rintro e w1 ⟨rfl, o1, g1⟩
  go_wp2
  go_ret
  exact ⟨rfl, o1, grownBy_trans (Below.grownBy (belowA _ _) _) g1⟩

set_option maxHeartbeats 400000 in
theorem heldIntsResult_ok (k : Int) (a : Option Addr) (n ca : Nat) (q : Int) (w : World) (ha : Rd .i64 w a (imarks q n)) (h0 : 0 ≤ q) (hx : q + (n : Int) ≤ 9223372036854775807) :
    Calls Try.prog 37 #[.agg #[.int .i64 k, .slice a n ca], .int .i64 q] w fun e w' => e = .returned (.int .i64 (q + (n : Int))) ∧ Below w.heap.size w w' := by
  go_enter Try.func37, Try.ntmps37
  go_wp2_with fail
  refine (heldInt64S_ok a n ca q _ (ha.kept (belowA _ _)) h0 hx).mono ?_
  rintro e w1 ⟨rfl, b1⟩
  have hq : 0 ≤ q + (n : Int) := by omega
  go_wp2
  go_ret
  exact ⟨rfl, thenB (belowA _ _) b1⟩

end Go.Proofs.Ytkpdbdcfimdnjaa
