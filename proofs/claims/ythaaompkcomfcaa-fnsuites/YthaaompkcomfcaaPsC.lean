/- Suites: the fault of one, two held against one another, a suite in a list: both sides. -/
import Derived.Test.YthaaompkcomfcaaPsA
import Derived.Test.YthaaompkcomfcaaVar
import Derived.Test.YthaaompkcomfcaaIntH
import Derived.Laws.StructEq
import Derived.KernelRfl
namespace Go.Proofs.Ythaaompkcomfcaa
open Go.RowKit

/-- The numbers that Bits may be. -/
def bitP (b : Int) : Bool := decide (b = 128) || decide (b = 192) || decide (b = 256)

theorem okSu_btw (x : Su) : okSu x = (btw x.c 1 4 && (bitP x.b && (btw x.m 1 3 && btw x.g 1 6))) := by
  unfold okSu btw bitP
  simp only [Bool.and_assoc]

theorem four_cases (a b c d : Bool) : (a = false) ∨ (a = true ∧ b = false) ∨ (a = true ∧ b = true ∧ c = false) ∨ (a = true ∧ b = true ∧ c = true ∧ d = false) ∨ (a = true ∧ b = true ∧ c = true ∧ d = true) := by
  cases a <;> cases b <;> cases c <;> cases d <;> simp

theorem bitP_cases (b : Int) : (bitP b = true ∧ b = 128) ∨ (bitP b = true ∧ b = 192) ∨ (bitP b = true ∧ b = 256) ∨ (bitP b = false ∧ (b != 128) = true ∧ (b != 192) = true ∧ (b != 256) = true) := by
  by_cases h1 : b = 128
  · left; simp [h1, bitP]
  · by_cases h2 : b = 192
    · right; left; simp [h2, bitP]
    · by_cases h3 : b = 256
      · right; right; left; simp [h3, bitP]
      · right; right; right; simp [h1, h2, h3, bitP]

theorem bits_rem (b : Int) : bitP b = (btw b 128 256 && (b.tmod 64 == 0)) := by
  rw [Bool.eq_iff_iff]
  simp only [bitP, Bool.or_eq_true, decide_eq_true_eq, Bool.and_eq_true, btw_iff, beq_iff_eq]
  constructor
  · rintro ((rfl | rfl) | rfl) <;> decide
  · rintro ⟨⟨h1, h2⟩, h3⟩
    rw [Int.tmod_eq_emod_of_nonneg (by omega)] at h3
    omega

set_option maxHeartbeats 1000000 in
theorem areBits_ok (b : Int) (w : World) :
    Calls Try.prog 57 #[.int .i64 b] w fun e w' => e = .returned (.bool (bitP b)) ∧ w' = w := by
  rw [bits_rem]
  cases h1 : btw b 128 256
  · go_enter Try.func57, Try.ntmps57
    go_wp2_with (first | (go_at_call 56; refine (isBetween_ok _ _ _ _).mono ?_; rintro e w1 ⟨rfl, rfl⟩) | go_in)
    go_ret
    exact ⟨rfl, rfl⟩
  · go_enter Try.func57, Try.ntmps57
    go_wp2_with (first | (go_at_call 56; refine (isBetween_ok _ _ _ _).mono ?_; rintro e w1 ⟨rfl, rfl⟩) | go_in)
    go_ret
    exact ⟨by simp, rfl⟩

set_option maxHeartbeats 2000000 in
theorem implSuiteFault_ok (x : Su) (w : World) :
    Calls Try.prog 23 #[.agg #[.int .i64 x.c, .int .i64 x.b, .int .i64 x.m, .int .i64 x.g]] w fun e w' => e = .returned (.int .i64 (sfC x)) ∧ Below w.heap.size w w' := by
  obtain ⟨c, b, m, g⟩ := x
  rcases four_cases (btw c 1 4) (bitP b) (btw m 1 3) (btw g 1 6) with h1 | ⟨h1, h2⟩ | ⟨h1, h2, h3⟩ | ⟨h1, h2, h3, h4⟩ | ⟨h1, h2, h3, h4⟩
  case inr.inr.inr.inr =>
    have hr := Hid.mk (sfC_yes (x := ⟨c, b, m, g⟩) (by rw [okSu_btw]; simp [h1, h2, h3, h4]))
    go_enter Try.func23, Try.ntmps23
    go_wp2_with (first | (go_at_call 56; refine (isBetween_ok _ _ _ _).mono ?_; rintro e w1 ⟨rfl, rfl⟩) | (go_at_call 57; refine (areBits_ok _ _).mono ?_; rintro e w1 ⟨rfl, rfl⟩) | go_in)
    go_ret
    rw [hr.out]
    exact ⟨rfl, belowA _ _⟩
  all_goals
    have hr := Hid.mk (sfC_no (x := ⟨c, b, m, g⟩) (by rw [okSu_btw]; simp [*]))
    go_enter Try.func23, Try.ntmps23
    go_wp2_with (first | (go_at_call 56; refine (isBetween_ok _ _ _ _).mono ?_; rintro e w1 ⟨rfl, rfl⟩) | (go_at_call 57; refine (areBits_ok _ _).mono ?_; rintro e w1 ⟨rfl, rfl⟩) | go_in)
    go_ret
    rw [hr.out]
    exact ⟨rfl, belowA _ _⟩

set_option maxHeartbeats 4000000 in
theorem specSuiteFault_ok (x : Su) (w : World) :
    Calls Try.prog 21 #[.agg #[.int .i64 x.c, .int .i64 x.b, .int .i64 x.m, .int .i64 x.g]] w fun e w' => e = .returned (.int .i64 (sfC x)) ∧ Below w.heap.size w w' := by
  obtain ⟨c, b, m, g⟩ := x
  cases h1 : btw c 1 4
  · have hr := Hid.mk (sfC_no (x := ⟨c, b, m, g⟩) (by rw [okSu_btw]; simp [h1]))
    go_enter Try.func21, Try.ntmps21
    go_wp2_with (first | (go_at_call 55; refine (l1In_ok _ _ _ _).mono ?_; rintro e w2 ⟨rfl, rfl⟩) | go_in)
    go_ret
    rw [hr.out]
    exact ⟨rfl, belowA _ _⟩
  · rcases bitP_cases b with ⟨h2, rfl⟩ | ⟨h2, rfl⟩ | ⟨h2, rfl⟩ | ⟨h2, k1, k2, k3⟩
    case inr.inr.inr =>
      have hr := Hid.mk (sfC_no (x := ⟨c, b, m, g⟩) (by rw [okSu_btw]; simp [h2]))
      go_enter Try.func21, Try.ntmps21
      go_wp2_with (first | (go_at_call 55; refine (l1In_ok _ _ _ _).mono ?_; rintro e w2 ⟨rfl, rfl⟩) | go_in)
      go_ret
      rw [hr.out]
      exact ⟨rfl, belowA _ _⟩
    · cases h3 : btw m 1 3
      · have hr := Hid.mk (sfC_no (x := ⟨c, 128, m, g⟩) (by rw [okSu_btw]; simp [h3]))
        go_enter Try.func21, Try.ntmps21
        go_wp2_with (first | (go_at_call 55; refine (l1In_ok _ _ _ _).mono ?_; rintro e w2 ⟨rfl, rfl⟩) | go_in)
        go_ret
        rw [hr.out]
        exact ⟨rfl, belowA _ _⟩
      · cases h4 : btw g 1 6
        · have hr := Hid.mk (sfC_no (x := ⟨c, 128, m, g⟩) (by rw [okSu_btw]; simp [h4]))
          go_enter Try.func21, Try.ntmps21
          go_wp2_with (first | (go_at_call 55; refine (l1In_ok _ _ _ _).mono ?_; rintro e w2 ⟨rfl, rfl⟩) | go_in)
          go_ret
          rw [hr.out]
          exact ⟨rfl, belowA _ _⟩
        · have hr := Hid.mk (sfC_yes (x := ⟨c, 128, m, g⟩) (by rw [okSu_btw]; simp [h1, h2, h3, h4]))
          go_enter Try.func21, Try.ntmps21
          go_wp2_with (first | (go_at_call 55; refine (l1In_ok _ _ _ _).mono ?_; rintro e w2 ⟨rfl, rfl⟩) | go_in)
          go_ret
          rw [hr.out]
          exact ⟨rfl, belowA _ _⟩
    · cases h3 : btw m 1 3
      · have hr := Hid.mk (sfC_no (x := ⟨c, 192, m, g⟩) (by rw [okSu_btw]; simp [h3]))
        go_enter Try.func21, Try.ntmps21
        go_wp2_with (first | (go_at_call 55; refine (l1In_ok _ _ _ _).mono ?_; rintro e w2 ⟨rfl, rfl⟩) | go_in)
        go_ret
        rw [hr.out]
        exact ⟨rfl, belowA _ _⟩
      · cases h4 : btw g 1 6
        · have hr := Hid.mk (sfC_no (x := ⟨c, 192, m, g⟩) (by rw [okSu_btw]; simp [h4]))
          go_enter Try.func21, Try.ntmps21
          go_wp2_with (first | (go_at_call 55; refine (l1In_ok _ _ _ _).mono ?_; rintro e w2 ⟨rfl, rfl⟩) | go_in)
          go_ret
          rw [hr.out]
          exact ⟨rfl, belowA _ _⟩
        · have hr := Hid.mk (sfC_yes (x := ⟨c, 192, m, g⟩) (by rw [okSu_btw]; simp [h1, h2, h3, h4]))
          go_enter Try.func21, Try.ntmps21
          go_wp2_with (first | (go_at_call 55; refine (l1In_ok _ _ _ _).mono ?_; rintro e w2 ⟨rfl, rfl⟩) | go_in)
          go_ret
          rw [hr.out]
          exact ⟨rfl, belowA _ _⟩
    · cases h3 : btw m 1 3
      · have hr := Hid.mk (sfC_no (x := ⟨c, 256, m, g⟩) (by rw [okSu_btw]; simp [h3]))
        go_enter Try.func21, Try.ntmps21
        go_wp2_with (first | (go_at_call 55; refine (l1In_ok _ _ _ _).mono ?_; rintro e w2 ⟨rfl, rfl⟩) | go_in)
        go_ret
        rw [hr.out]
        exact ⟨rfl, belowA _ _⟩
      · cases h4 : btw g 1 6
        · have hr := Hid.mk (sfC_no (x := ⟨c, 256, m, g⟩) (by rw [okSu_btw]; simp [h4]))
          go_enter Try.func21, Try.ntmps21
          go_wp2_with (first | (go_at_call 55; refine (l1In_ok _ _ _ _).mono ?_; rintro e w2 ⟨rfl, rfl⟩) | go_in)
          go_ret
          rw [hr.out]
          exact ⟨rfl, belowA _ _⟩
        · have hr := Hid.mk (sfC_yes (x := ⟨c, 256, m, g⟩) (by rw [okSu_btw]; simp [h1, h2, h3, h4]))
          go_enter Try.func21, Try.ntmps21
          go_wp2_with (first | (go_at_call 55; refine (l1In_ok _ _ _ _).mono ?_; rintro e w2 ⟨rfl, rfl⟩) | go_in)
          go_ret
          rw [hr.out]
          exact ⟨rfl, belowA _ _⟩

end Go.Proofs.Ythaaompkcomfcaa
