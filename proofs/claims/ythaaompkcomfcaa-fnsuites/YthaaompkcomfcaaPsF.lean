/- How strong a suite is: the rank in floats, and what is weaker: both sides. -/
import Derived.Test.YthaaompkcomfcaaPsB
import Derived.Test.YthaaompkcomfcaaPsD
import Derived.Laws.Externs
import Derived.Deep.RegionHeld3
namespace Go.Proofs.Ythaaompkcomfcaa
open Go.RowKit

theorem fromBits_run (w : World) : (callFunc 72 #[.int .u64 9221120237041090561]).run Try.prog w = .ok (.value (.float .f64 9221120237041090561)) w := by
  rw [run_callFunc_extern (e := Extern.MathFloatBits.float64frombits) Try.func72 (by kernel_rfl) (by kernel_rfl) (by kernel_rfl) (by kernel_rfl)]
  rfl

theorem nan_ok (w : World) : Calls Try.prog 66 #[] w fun e w' => e = .returned (.float .f64 9221120237041090561) ∧ w' = w := by
  have hd := fromBits_run
  go_enter Try.func66, Try.ntmps66
  go_wp2
  go_ret
  exact ⟨rfl, rfl⟩

theorem build_four (a b c d : Int) (w : World) : (Instr.build 79 #[(0, .int .i64 a), (1, .int .i64 b), (2, .int .i64 c), (3, .int .i64 d)]).run Try.prog w = .ok (.agg #[.int .i64 a, .int .i64 b, .int .i64 c, .int .i64 d]) w := run_build w 79 _ _ (by kernel_rfl)

theorem four_at0 (a b c d : Int) (w : World) : (Instr.index 79 (.agg #[.int .i64 a, .int .i64 b, .int .i64 c, .int .i64 d]) (.int .i64 0)).run Try.prog w = .ok (.int .i64 a) w := by kernel_rfl

theorem four_at1 (a b c d : Int) (w : World) : (Instr.index 79 (.agg #[.int .i64 a, .int .i64 b, .int .i64 c, .int .i64 d]) (.int .i64 1)).run Try.prog w = .ok (.int .i64 b) w := by kernel_rfl

theorem four_at2 (a b c d : Int) (w : World) : (Instr.index 79 (.agg #[.int .i64 a, .int .i64 b, .int .i64 c, .int .i64 d]) (.int .i64 2)).run Try.prog w = .ok (.int .i64 c) w := by kernel_rfl

theorem four_at3 (a b c d : Int) (w : World) : (Instr.index 79 (.agg #[.int .i64 a, .int .i64 b, .int .i64 c, .int .i64 d]) (.int .i64 3)).run Try.prog w = .ok (.int .i64 d) w := by kernel_rfl

theorem fl_conv (n : Int) (w : World) : (convert 2 68 (.int .i64 n)).run Try.prog w = .ok (.float .f64 (flB n)) w :=
  run_convert_int_float w 2 68 .i64 .f64 n (by rw [Try.underlying2]; rfl) Try.underlying68

/-- The values that the rank goes through. -/
theorem rank_path {x : Su} (h : okSu x = true) : ∃ q1 q2 q3 m1 m2 m3 m4 : Nat,
    (∀ w : World, (binOp .mul 68 (.float .f64 0) (.float .f64 4643228808005025792)).run Try.prog w = .ok (.float .f64 m1) w) ∧
    (∀ w : World, (binOp .add 68 (.float .f64 m1) (.float .f64 (flB x.b))).run Try.prog w = .ok (.float .f64 q1) w) ∧
    (∀ w : World, (binOp .mul 68 (.float .f64 q1) (.float .f64 4643228808005025792)).run Try.prog w = .ok (.float .f64 m2) w) ∧
    (∀ w : World, (binOp .add 68 (.float .f64 m2) (.float .f64 (flB x.g))).run Try.prog w = .ok (.float .f64 q2) w) ∧
    (∀ w : World, (binOp .mul 68 (.float .f64 q2) (.float .f64 4643228808005025792)).run Try.prog w = .ok (.float .f64 m3) w) ∧
    (∀ w : World, (binOp .add 68 (.float .f64 m3) (.float .f64 (flB x.m))).run Try.prog w = .ok (.float .f64 q3) w) ∧
    (∀ w : World, (binOp .mul 68 (.float .f64 q3) (.float .f64 4643228808005025792)).run Try.prog w = .ok (.float .f64 m4) w) ∧
    (∀ w : World, (binOp .add 68 (.float .f64 m4) (.float .f64 (flB x.c))).run Try.prog w = .ok (.float .f64 (rkB x)) w) := by
  obtain ⟨h1, h2, h3, h4, _⟩ := steps_ok h
  have e : rkB x = flB (rkF x) := if_pos h
  have a1 := stepB_add h1
  have b1 := stepB_mul h1
  rw [Int.zero_mul, Int.zero_add] at a1
  rw [fl_zero] at b1
  rw [e]
  exact ⟨_, _, _, _, _, _, _, fun w => run_float_arith w .mul _ .f64 _ _ _ b1, fun w => run_float_arith w .add _ .f64 _ _ _ (by rw [Int.zero_mul]; exact a1), fun w => run_float_arith w .mul _ .f64 _ _ _ (stepB_mul h2), fun w => run_float_arith w .add _ .f64 _ _ _ (stepB_add h2), fun w => run_float_arith w .mul _ .f64 _ _ _ (stepB_mul h3), fun w => run_float_arith w .add _ .f64 _ _ _ (stepB_add h3), fun w => run_float_arith w .mul _ .f64 _ _ _ (stepB_mul h4), fun w => run_float_arith w .add _ .f64 _ _ _ (stepB_add h4)⟩

set_option maxHeartbeats 2000000 in
theorem rankOf_ok (x : Su) (w : World) :
    Calls Try.prog 53 #[.agg #[.int .i64 x.c, .int .i64 x.b, .int .i64 x.m, .int .i64 x.g]] w fun e w' => e = .returned (.float .f64 (rkB x)) ∧ Below w.heap.size w w' := by
  have CF := Hid.mk (fun w => implSuiteFault_ok x w)
  by_cases ho : okSu x = true
  · simp only [sfC_yes ho] at CF
    obtain ⟨q1, q2, q3, m1, m2, m3, m4, f1, g1, f2, g2, f3, g3, f4, g4⟩ := rank_path ho
    have bf := build_four x.b x.g x.m x.c
    have i0 := four_at0 x.b x.g x.m x.c
    have i1 := four_at1 x.b x.g x.m x.c
    have i2 := four_at2 x.b x.g x.m x.c
    have i3 := four_at3 x.b x.g x.m x.c
    have c0 := fl_conv x.b
    have c1 := fl_conv x.g
    have c2 := fl_conv x.m
    have c3 := fl_conv x.c
    generalize flB x.b = n0 at *
    generalize flB x.g = n1 at *
    generalize flB x.m = n2 at *
    generalize flB x.c = n3 at *
    generalize rkB x = q4 at *
    clear ho
    go_enter Try.func53, Try.ntmps53
    go_wp2_with fail
    refine (CF.out _).mono ?_
    rintro e w1 ⟨rfl, b1⟩
    have VX := (V.new w [.int .i64 x.c, .int .i64 x.b, .int .i64 x.m, .int .i64 x.g] 28).kept b1
    have B := thenB (belowA w _) b1
    clear b1 CF
    obtain ⟨s_VX, f_VX, z_VX⟩ := VX.open
    go_wp2
    go_loopw [3, 19] (fun r i wr => ((i = .int .i64 0 ∧ r = .float .f64 0) ∨ (i = .int .i64 1 ∧ r = .float .f64 q1) ∨ (i = .int .i64 2 ∧ r = .float .f64 q2) ∨ (i = .int .i64 3 ∧ r = .float .f64 q3) ∨ (i = .int .i64 4 ∧ r = .float .f64 q4)) ∧ wr = w1) (fun _ i _ => 4 - (intOf i).toNat)
    case atStart => exact ⟨.inl ⟨rfl, rfl⟩, rfl⟩
    case round =>
      obtain ⟨hrel, rfl⟩ := hrel
      rcases hrel with ⟨rfl, rfl⟩ | ⟨rfl, rfl⟩ | ⟨rfl, rfl⟩ | ⟨rfl, rfl⟩ | ⟨rfl, rfl⟩
      · go_wp2
        go_roundw
        case rel => exact ⟨.inr (.inl ⟨rfl, rfl⟩), by trivial⟩
        case measure => simp [intOf]
      · go_wp2
        go_roundw
        case rel => exact ⟨.inr (.inr (.inl ⟨rfl, rfl⟩)), by trivial⟩
        case measure => simp [intOf]
      · go_wp2
        go_roundw
        case rel => exact ⟨.inr (.inr (.inr (.inl ⟨rfl, rfl⟩))), by trivial⟩
        case measure => simp [intOf]
      · go_wp2
        go_roundw
        case rel => exact ⟨.inr (.inr (.inr (.inr ⟨rfl, rfl⟩))), by trivial⟩
        case measure => simp [intOf]
      · go_wp2
        go_ret
        exact ⟨rfl, B⟩
  · simp only [sfC_no (Bool.not_eq_true _ ▸ ho)] at CF
    have e : rkB x = 9221120237041090561 := if_neg ho
    rw [e]
    clear e ho
    go_enter Try.func53, Try.ntmps53
    go_wp2_with fail
    refine (CF.out _).mono ?_
    rintro e w1 ⟨rfl, b1⟩
    have B := thenB (belowA w _) b1
    clear b1 CF
    go_wp2_with fail
    refine (nan_ok _).mono ?_
    rintro e w2 ⟨rfl, rfl⟩
    go_wp2
    go_ret
    exact ⟨rfl, B⟩

set_option maxHeartbeats 1000000 in
theorem lesser_ok (a b : Su) (w : World) :
    Calls Try.prog 52 #[.agg #[.int .i64 a.c, .int .i64 a.b, .int .i64 a.m, .int .i64 a.g], .agg #[.int .i64 b.c, .int .i64 b.b, .int .i64 b.m, .int .i64 b.g]] w fun e w' => e = .returned (.agg #[.int .i64 (min a.c b.c), .int .i64 (min a.b b.b), .int .i64 (min a.m b.m), .int .i64 (min a.g b.g)]) ∧ Below w.heap.size w w' := by
  go_enter Try.func52, Try.ntmps52
  go_wp2
  · rw [show min a.c b.c = b.c by omega, show min a.b b.b = b.b by omega, show min a.m b.m = b.m by omega, show min a.g b.g = b.g by omega]
    refine bodyPost_ret (v := .agg #[.int .i64 b.c, .int .i64 b.b, .int .i64 b.m, .int .i64 b.g]) (by simp [results, Try.results52, go_sem]) rfl ⟨rfl, belowA3 _ _ _ _⟩
  · rw [show min a.c b.c = b.c by omega, show min a.b b.b = b.b by omega, show min a.m b.m = b.m by omega, show min a.g b.g = a.g by omega]
    refine bodyPost_ret (v := .agg #[.int .i64 b.c, .int .i64 b.b, .int .i64 b.m, .int .i64 a.g]) (by simp [results, Try.results52, go_sem]) rfl ⟨rfl, belowA3 _ _ _ _⟩
  · rw [show min a.c b.c = b.c by omega, show min a.b b.b = b.b by omega, show min a.m b.m = a.m by omega, show min a.g b.g = b.g by omega]
    refine bodyPost_ret (v := .agg #[.int .i64 b.c, .int .i64 b.b, .int .i64 a.m, .int .i64 b.g]) (by simp [results, Try.results52, go_sem]) rfl ⟨rfl, belowA3 _ _ _ _⟩
  · rw [show min a.c b.c = b.c by omega, show min a.b b.b = b.b by omega, show min a.m b.m = a.m by omega, show min a.g b.g = a.g by omega]
    refine bodyPost_ret (v := .agg #[.int .i64 b.c, .int .i64 b.b, .int .i64 a.m, .int .i64 a.g]) (by simp [results, Try.results52, go_sem]) rfl ⟨rfl, belowA3 _ _ _ _⟩
  · rw [show min a.c b.c = b.c by omega, show min a.b b.b = a.b by omega, show min a.m b.m = b.m by omega, show min a.g b.g = b.g by omega]
    refine bodyPost_ret (v := .agg #[.int .i64 b.c, .int .i64 a.b, .int .i64 b.m, .int .i64 b.g]) (by simp [results, Try.results52, go_sem]) rfl ⟨rfl, belowA3 _ _ _ _⟩
  · rw [show min a.c b.c = b.c by omega, show min a.b b.b = a.b by omega, show min a.m b.m = b.m by omega, show min a.g b.g = a.g by omega]
    refine bodyPost_ret (v := .agg #[.int .i64 b.c, .int .i64 a.b, .int .i64 b.m, .int .i64 a.g]) (by simp [results, Try.results52, go_sem]) rfl ⟨rfl, belowA3 _ _ _ _⟩
  · rw [show min a.c b.c = b.c by omega, show min a.b b.b = a.b by omega, show min a.m b.m = a.m by omega, show min a.g b.g = b.g by omega]
    refine bodyPost_ret (v := .agg #[.int .i64 b.c, .int .i64 a.b, .int .i64 a.m, .int .i64 b.g]) (by simp [results, Try.results52, go_sem]) rfl ⟨rfl, belowA3 _ _ _ _⟩
  · rw [show min a.c b.c = b.c by omega, show min a.b b.b = a.b by omega, show min a.m b.m = a.m by omega, show min a.g b.g = a.g by omega]
    refine bodyPost_ret (v := .agg #[.int .i64 b.c, .int .i64 a.b, .int .i64 a.m, .int .i64 a.g]) (by simp [results, Try.results52, go_sem]) rfl ⟨rfl, belowA3 _ _ _ _⟩
  · rw [show min a.c b.c = a.c by omega, show min a.b b.b = b.b by omega, show min a.m b.m = b.m by omega, show min a.g b.g = b.g by omega]
    refine bodyPost_ret (v := .agg #[.int .i64 a.c, .int .i64 b.b, .int .i64 b.m, .int .i64 b.g]) (by simp [results, Try.results52, go_sem]) rfl ⟨rfl, belowA3 _ _ _ _⟩
  · rw [show min a.c b.c = a.c by omega, show min a.b b.b = b.b by omega, show min a.m b.m = b.m by omega, show min a.g b.g = a.g by omega]
    refine bodyPost_ret (v := .agg #[.int .i64 a.c, .int .i64 b.b, .int .i64 b.m, .int .i64 a.g]) (by simp [results, Try.results52, go_sem]) rfl ⟨rfl, belowA3 _ _ _ _⟩
  · rw [show min a.c b.c = a.c by omega, show min a.b b.b = b.b by omega, show min a.m b.m = a.m by omega, show min a.g b.g = b.g by omega]
    refine bodyPost_ret (v := .agg #[.int .i64 a.c, .int .i64 b.b, .int .i64 a.m, .int .i64 b.g]) (by simp [results, Try.results52, go_sem]) rfl ⟨rfl, belowA3 _ _ _ _⟩
  · rw [show min a.c b.c = a.c by omega, show min a.b b.b = b.b by omega, show min a.m b.m = a.m by omega, show min a.g b.g = a.g by omega]
    refine bodyPost_ret (v := .agg #[.int .i64 a.c, .int .i64 b.b, .int .i64 a.m, .int .i64 a.g]) (by simp [results, Try.results52, go_sem]) rfl ⟨rfl, belowA3 _ _ _ _⟩
  · rw [show min a.c b.c = a.c by omega, show min a.b b.b = a.b by omega, show min a.m b.m = b.m by omega, show min a.g b.g = b.g by omega]
    refine bodyPost_ret (v := .agg #[.int .i64 a.c, .int .i64 a.b, .int .i64 b.m, .int .i64 b.g]) (by simp [results, Try.results52, go_sem]) rfl ⟨rfl, belowA3 _ _ _ _⟩
  · rw [show min a.c b.c = a.c by omega, show min a.b b.b = a.b by omega, show min a.m b.m = b.m by omega, show min a.g b.g = a.g by omega]
    refine bodyPost_ret (v := .agg #[.int .i64 a.c, .int .i64 a.b, .int .i64 b.m, .int .i64 a.g]) (by simp [results, Try.results52, go_sem]) rfl ⟨rfl, belowA3 _ _ _ _⟩
  · rw [show min a.c b.c = a.c by omega, show min a.b b.b = a.b by omega, show min a.m b.m = a.m by omega, show min a.g b.g = b.g by omega]
    refine bodyPost_ret (v := .agg #[.int .i64 a.c, .int .i64 a.b, .int .i64 a.m, .int .i64 b.g]) (by simp [results, Try.results52, go_sem]) rfl ⟨rfl, belowA3 _ _ _ _⟩
  · rw [show min a.c b.c = a.c by omega, show min a.b b.b = a.b by omega, show min a.m b.m = a.m by omega, show min a.g b.g = a.g by omega]
    refine bodyPost_ret (v := .agg #[.int .i64 a.c, .int .i64 a.b, .int .i64 a.m, .int .i64 a.g]) (by simp [results, Try.results52, go_sem]) rfl ⟨rfl, belowA3 _ _ _ _⟩

set_option maxHeartbeats 1000000 in
theorem isNaN_ok (x : Nat) (o : Bool) (h : (FloatKind.f64.format.order x x != some Ordering.eq) = o) (w : World) :
    Calls Try.prog 71 #[.float .f64 x] w fun e w' => e = .returned (.bool o) ∧ w' = w := by
  have H := Hid.mk h
  clear h
  go_enter Try.func71, Try.ntmps71
  go_wp2
  go_ret
  exact ⟨ret_bool H.out, rfl⟩

/-- What 'cmp.Compare' gives of two numbers. -/
def cmpI (a b : Int) : Int := if a < b then -1 else if b < a then 1 else 0

set_option maxHeartbeats 2000000 in
theorem compare_ok (x y : Su) (hx : okSu x = true) (hy : okSu y = true) (w : World) :
    Calls Try.prog 65 #[.float .f64 (rkB x), .float .f64 (rkB y)] w fun e w' => e = .returned (.int .i64 (cmpI (rkF x) (rkF y))) ∧ w' = w := by
  have nx : (FloatKind.f64.format.order (rkB x) (rkB x) != some Ordering.eq) = false := by rw [rk_order hx hx]; exact cmp_ne _
  have ny : (FloatKind.f64.format.order (rkB y) (rkB y) != some Ordering.eq) = false := by rw [rk_order hy hy]; exact cmp_ne _
  have lt : (FloatKind.f64.format.order (rkB x) (rkB y) == some Ordering.lt) = decide (rkF x < rkF y) := by rw [rk_order hx hy]; exact cmp_lt _ _
  have gt : (FloatKind.f64.format.order (rkB x) (rkB y) == some Ordering.gt) = decide (rkF y < rkF x) := by rw [rk_order hx hy]; exact cmp_gt _ _
  generalize rkB x = p at *
  generalize rkB y = q at *
  generalize rkF x = i at *
  generalize rkF y = j at *
  clear hx hy
  unfold cmpI
  by_cases h1 : i < j
  · rw [if_pos h1]
    simp only [decide_eq_true h1] at lt
    have h2 : ¬ j < i := by omega
    simp only [decide_eq_false h2] at gt
    clear h1 h2
    go_enter Try.func65, Try.ntmps65
    go_wp2_with (first | (go_at_call 71; refine (isNaN_ok _ false (by first | exact nx | exact ny) _).mono ?_; rintro e w2 ⟨rfl, rfl⟩) | go_in)
    go_ret
    exact ⟨rfl, rfl⟩
  · rw [if_neg h1]
    simp only [decide_eq_false h1] at lt
    by_cases h2 : j < i
    · rw [if_pos h2]
      simp only [decide_eq_true h2] at gt
      clear h1 h2
      go_enter Try.func65, Try.ntmps65
      go_wp2_with (first | (go_at_call 71; refine (isNaN_ok _ false (by first | exact nx | exact ny) _).mono ?_; rintro e w2 ⟨rfl, rfl⟩) | go_in)
      go_ret
      exact ⟨rfl, rfl⟩
    · rw [if_neg h2]
      simp only [decide_eq_false h2] at gt
      clear h1 h2
      go_enter Try.func65, Try.ntmps65
      go_wp2_with (first | (go_at_call 71; refine (isNaN_ok _ false (by first | exact nx | exact ny) _).mono ?_; rintro e w2 ⟨rfl, rfl⟩) | go_in)
      go_ret
      exact ⟨rfl, rfl⟩

end Go.Proofs.Ythaaompkcomfcaa
