/- Suites held against one another; a suite in a list: both sides. -/
import Derived.Test.YthaaompkcomfcaaPsC
namespace Go.Proofs.Ythaaompkcomfcaa
open Go.RowKit

theorem eqSu (d : Nat) (x y : Su) (w : World) : (Op.equalIn (d + 2) 28 (.agg #[.int .i64 x.c, .int .i64 x.b, .int .i64 x.m, .int .i64 x.g]) (.agg #[.int .i64 y.c, .int .i64 y.b, .int .i64 y.m, .int .i64 y.g])).run Try.prog w = .ok (decide (x = y)) w := by
  have u3 := Try.underlying2
  have a3 := Try.isAgg2
  have z3 := Try.sizeOf2
  have hS : Try.prog.underlying 28 = some (.struct (Try.prog.fieldsOf 28)) := by kernel_rfl
  obtain ⟨c1, b1, m1, g1⟩ := x
  obtain ⟨c2, b2, m2, g2⟩ := y
  rw [run_equalIn_struct w (d + 1) 28 _ _ hS (by kernel_rfl)]
  simp only [Program.fieldsOf, Try.underlying28]
  go_simp
  by_cases h1 : c1 = c2 <;> by_cases h2 : b1 = b2 <;> by_cases h3 : m1 = m2 <;> by_cases h4 : g1 = g2 <;> simp [h1, h2, h3, h4]

theorem eql_suite (x y : Su) (w : World) : (binOp .eql 28 (.agg #[.int .i64 x.c, .int .i64 x.b, .int .i64 x.m, .int .i64 x.g]) (.agg #[.int .i64 y.c, .int .i64 y.b, .int .i64 y.m, .int .i64 y.g])).run Try.prog w = .ok (.bool (decide (x = y))) w := by
  rw [run_eql_struct, show (10000 : Nat) = 9998 + 2 from rfl, eqSu]
  rfl

theorem neq_suite (x y : Su) (w : World) : (binOp .neq 28 (.agg #[.int .i64 x.c, .int .i64 x.b, .int .i64 x.m, .int .i64 x.g]) (.agg #[.int .i64 y.c, .int .i64 y.b, .int .i64 y.m, .int .i64 y.g])).run Try.prog w = .ok (.bool (!decide (x = y))) w := by
  rw [run_neq_struct, show (10000 : Nat) = 9998 + 2 from rfl, eqSu]
  rfl

set_option maxHeartbeats 1000000 in
theorem l8Has_ok (a : Option Addr) (n ca : Nat) (zs : List Su) (v : Su) (w : World) (ha : RdSuite w a zs) (hn : zs.length = n) (hx : n ≤ maxLen) :
    Calls Try.prog 49 #[.slice a n ca, .agg #[.int .i64 v.c, .int .i64 v.b, .int .i64 v.m, .int .i64 v.g]] w fun e w' => e = .returned (.bool (hasSu zs v)) ∧ Below w.heap.size w w' := by
  unfold maxLen at hx
  have VB := V.new w [.int .i64 v.c, .int .i64 v.b, .int .i64 v.m, .int .i64 v.g] 28
  have BV := belowA w (.cells #[.int .i64 v.c, .int .i64 v.b, .int .i64 v.m, .int .i64 v.g] 28)
  replace ha := ha.kept BV
  replace BV := Hid.mk BV
  go_enter Try.func49, Try.ntmps49
  go_wp2
  generalize w.alloc (.cells #[.int .i64 v.c, .int .i64 v.b, .int .i64 v.m, .int .i64 v.g] 28) = wb at *
  go_loopw [5] (fun i wr => ∃ k : Nat, k ≤ n ∧ i = .int .i64 k ∧ hasSu (zs.drop k) v = hasSu zs v ∧ Below wb.heap.size wb wr) (fun i _ => n - (intOf i).toNat)
  case atStart => exact ⟨0, Nat.zero_le _, rfl, rfl, Below.refl _ _⟩
  case round =>
    obtain ⟨k, hk, rfl, hdr, B⟩ := hrel
    by_cases hlt : k < n
    · obtain ⟨z, hz⟩ : ∃ z, zs.getD k zSuite = z := ⟨_, rfl⟩
      have hk1 : (k : Int) < (n : Int) := by omega
      have hs := hasSu_drop zs v k (by omega) hz
      rw [hdr] at hs
      replace ha := ha.kept B
      replace VB := VB.kept B
      obtain ⟨s_VB, f_VB, z_VB⟩ := VB.open
      rcases ha with ha | ⟨b1, o1, rfl, hca⟩
      · simp [ha] at hn; omega
      obtain ⟨p0, p1, p2, p3⟩ := RdSuite.cells hca k (by omega) z hz
      clear hca hz hdr
      by_cases hg : z = v
      · have q : ∀ w : World, (binOp .eql 28 (.agg #[.int .i64 z.c, .int .i64 z.b, .int .i64 z.m, .int .i64 z.g]) (.agg #[.int .i64 v.c, .int .i64 v.b, .int .i64 v.m, .int .i64 v.g])).run Try.prog w = .ok (.bool true) w := fun w => by rw [eql_suite]; simp [hg]
        simp only [hg, decide_true, Bool.true_or] at hs
        have HS := Hid.mk hs
        clear hs hg
        go_wp2
        go_quiet (fail)
        go_wp2
        go_ret
        exact ⟨ret_bool HS.out.symm, thenB BV.out (belowN B _)⟩
      · have q : ∀ w : World, (binOp .eql 28 (.agg #[.int .i64 z.c, .int .i64 z.b, .int .i64 z.m, .int .i64 z.g]) (.agg #[.int .i64 v.c, .int .i64 v.b, .int .i64 v.m, .int .i64 v.g])).run Try.prog w = .ok (.bool false) w := fun w => by rw [eql_suite]; simp [hg]
        simp only [hg, decide_false, Bool.false_or] at hs
        have HS := Hid.mk hs
        clear hs hg
        go_wp2
        go_quiet (fail)
        go_wp2
        go_roundw
        case rel => exact ⟨k + 1, by omega, by go_num, HS.out.symm, belowN B _⟩
        case measure => simp [intOf]; omega
    · have hkn : k = n := by omega
      subst hkn
      rw [List.drop_of_length_le (by omega)] at hdr
      have HS := Hid.mk hdr
      clear hdr
      go_wp2
      go_ret
      exact ⟨ret_bool HS.out, thenB BV.out B⟩

set_option maxHeartbeats 1000000 in
theorem suIndex_ok (a : Option Addr) (n ca : Nat) (zs : List Su) (v : Su) (w : World) (ha : RdSuite w a zs) (hn : zs.length = n) (hx : n ≤ maxLen) :
    Calls Try.prog 64 #[.slice a n ca, .agg #[.int .i64 v.c, .int .i64 v.b, .int .i64 v.m, .int .i64 v.g]] w fun e w' => e = .returned (.int .i64 (atSu zs v 0)) ∧ Below w.heap.size w w' := by
  unfold maxLen at hx
  have VB := V.new w [.int .i64 v.c, .int .i64 v.b, .int .i64 v.m, .int .i64 v.g] 28
  have BV := belowA w (.cells #[.int .i64 v.c, .int .i64 v.b, .int .i64 v.m, .int .i64 v.g] 28)
  replace ha := ha.kept BV
  replace BV := Hid.mk BV
  go_enter Try.func64, Try.ntmps64
  go_wp2
  generalize w.alloc (.cells #[.int .i64 v.c, .int .i64 v.b, .int .i64 v.m, .int .i64 v.g] 28) = wb at *
  go_loopw [8] (fun i wr => ∃ k : Nat, k ≤ n ∧ i = .int .i64 k ∧ atSu (zs.drop k) v k = atSu zs v 0 ∧ Below wb.heap.size wb wr) (fun i _ => n - (intOf i).toNat)
  case atStart => exact ⟨0, Nat.zero_le _, rfl, rfl, Below.refl _ _⟩
  case round =>
    obtain ⟨k, hk, rfl, hdr, B⟩ := hrel
    by_cases hlt : k < n
    · obtain ⟨z, hz⟩ : ∃ z, zs.getD k zSuite = z := ⟨_, rfl⟩
      have hk1 : (k : Int) < (n : Int) := by omega
      have hs := atSu_drop zs v k (by omega) hz
      rw [hdr] at hs
      replace ha := ha.kept B
      replace VB := VB.kept B
      obtain ⟨s_VB, f_VB, z_VB⟩ := VB.open
      rcases ha with ha | ⟨b1, o1, rfl, hca⟩
      · simp [ha] at hn; omega
      obtain ⟨p0, p1, p2, p3⟩ := RdSuite.cells hca k (by omega) z hz
      clear hca hz hdr
      by_cases hg : z = v
      · have q : ∀ w : World, (binOp .eql 28 (.agg #[.int .i64 v.c, .int .i64 v.b, .int .i64 v.m, .int .i64 v.g]) (.agg #[.int .i64 z.c, .int .i64 z.b, .int .i64 z.m, .int .i64 z.g])).run Try.prog w = .ok (.bool true) w := fun w => by rw [eql_suite]; simp [hg]
        rw [if_pos hg] at hs
        have HS := Hid.mk hs
        clear hs hg
        go_wp2
        go_quiet (fail)
        go_wp2
        go_ret
        exact ⟨ret_int HS.out.symm, thenB BV.out (belowN B _)⟩
      · have q : ∀ w : World, (binOp .eql 28 (.agg #[.int .i64 v.c, .int .i64 v.b, .int .i64 v.m, .int .i64 v.g]) (.agg #[.int .i64 z.c, .int .i64 z.b, .int .i64 z.m, .int .i64 z.g])).run Try.prog w = .ok (.bool false) w := fun w => by rw [eql_suite]; simp [Ne.symm hg]
        rw [if_neg hg] at hs
        have HS := Hid.mk hs
        clear hs hg
        go_wp2
        go_quiet (fail)
        go_wp2
        go_roundw
        case rel => exact ⟨k + 1, by omega, by go_num, HS.out.symm, belowN B _⟩
        case measure => simp [intOf]; omega
    · have hkn : k = n := by omega
      subst hkn
      rw [List.drop_of_length_le (by omega)] at hdr
      have HS := Hid.mk hdr
      clear hdr
      go_wp2
      go_ret
      exact ⟨ret_int HS.out, thenB BV.out B⟩

set_option maxHeartbeats 1000000 in
theorem suContains_ok (a : Option Addr) (n ca : Nat) (zs : List Su) (v : Su) (w : World) (ha : RdSuite w a zs) (hn : zs.length = n) (hx : n ≤ maxLen) :
    Calls Try.prog 47 #[.slice a n ca, .agg #[.int .i64 v.c, .int .i64 v.b, .int .i64 v.m, .int .i64 v.g]] w fun e w' => e = .returned (.bool (hasSu zs v)) ∧ Below w.heap.size w w' := by
  have BV := belowA w (.cells #[.int .i64 v.c, .int .i64 v.b, .int .i64 v.m, .int .i64 v.g] 28)
  have CI := Hid.mk (suIndex_ok a n ca zs v _ (ha.kept BV) hn hx)
  have hd := atSu_has zs v 0 (Int.le_refl _)
  generalize atSu zs v 0 = i at *
  rw [← hd]
  clear hd
  replace BV := Hid.mk BV
  go_enter Try.func47, Try.ntmps47
  go_wp2_with fail
  refine CI.out.mono ?_
  rintro e w1 ⟨rfl, b1⟩
  go_wp2
  go_ret
  exact ⟨rfl, thenB BV.out b1⟩

end Go.Proofs.Ythaaompkcomfcaa
