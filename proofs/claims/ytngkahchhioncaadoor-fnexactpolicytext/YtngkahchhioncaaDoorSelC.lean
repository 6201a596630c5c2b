/- Arrays of ranges: built, compared. -/
import Derived.Test.YtngkahchhioncaaDoorSelB
import Derived.Laws.StructEq
import Derived.KernelRfl
namespace Go.Proofs.YtngkahchhioncaaDoor
open Go.RowKit

/-- A world in which nothing old has turned. -/
theorem eqPair (d : Nat) (a b c e : Int) (w : World) : (Op.equalIn (d + 2) 90 (.agg #[.int .i64 a, .int .i64 b]) (.agg #[.int .i64 c, .int .i64 e])).run Tryd.prog w = .ok (a == c && b == e) w := by
  have u3 := Tryd.underlying2
  have a3 := Tryd.isAgg2
  have z3 := Tryd.sizeOf2
  rw [Op.equalIn]
  simp only [Sem.run_bind, run_underlying Tryd.underlying90, Result.andThen_ok]
  simp only [Std.Legacy.Range.forIn_eq_forIn_range', Std.Legacy.Range.size, Nat.sub_zero, Nat.add_sub_cancel, Nat.div_one, List.range'_succ, List.range'_zero, List.forIn_cons, List.forIn_nil]
  go_simp
  by_cases h1 : a = c <;> by_cases h2 : b = e <;> simp [h1, h2]

theorem pair_no (a b c d : Int) : (a = b → ¬ c = d) ↔ (((a == b) && (c == d)) = false) := by
  by_cases h1 : a = b <;> by_cases h2 : c = d <;> simp [h1, h2]

theorem eqSpans (d : Nat) (a0 a1 a2 a3 a4 a5 a6 a7 b0 b1 b2 b3 b4 b5 b6 b7 : Int) (w : World) : (Op.equalIn (d + 3) 92 (.agg #[.int .i64 a0, .int .i64 a1, .int .i64 a2, .int .i64 a3, .int .i64 a4, .int .i64 a5, .int .i64 a6, .int .i64 a7]) (.agg #[.int .i64 b0, .int .i64 b1, .int .i64 b2, .int .i64 b3, .int .i64 b4, .int .i64 b5, .int .i64 b6, .int .i64 b7])).run Tryd.prog w = .ok (((a0 == b0) && (a1 == b1)) && (((a2 == b2) && (a3 == b3)) && (((a4 == b4) && (a5 == b5)) && ((a6 == b6) && (a7 == b7))))) w := by
  have ga := Tryd.isAgg90
  have gz := Tryd.sizeOf90
  have q := eqPair d
  rw [Op.equalIn]
  simp only [Sem.run_bind, run_underlying Tryd.underlying92, Result.andThen_ok]
  simp only [Std.Legacy.Range.forIn_eq_forIn_range', Std.Legacy.Range.size, Nat.sub_zero, Nat.add_sub_cancel, Nat.div_one, List.range'_succ, List.range'_zero, List.forIn_cons, List.forIn_nil]
  go_simp
  simp only [pair_no]
  generalize ((a0 == b0) && (a1 == b1)) = p0
  generalize ((a2 == b2) && (a3 == b3)) = p1
  generalize ((a4 == b4) && (a5 == b5)) = p2
  generalize ((a6 == b6) && (a7 == b7)) = p3
  cases p0 <;> cases p1 <;> cases p2 <;> cases p3 <;> simp

theorem eql_spans (a0 a1 a2 a3 a4 a5 a6 a7 b0 b1 b2 b3 b4 b5 b6 b7 : Int) (w : World) : (binOp .eql 92 (.agg #[.int .i64 a0, .int .i64 a1, .int .i64 a2, .int .i64 a3, .int .i64 a4, .int .i64 a5, .int .i64 a6, .int .i64 a7]) (.agg #[.int .i64 b0, .int .i64 b1, .int .i64 b2, .int .i64 b3, .int .i64 b4, .int .i64 b5, .int .i64 b6, .int .i64 b7])).run Tryd.prog w = .ok (.bool (((a0 == b0) && (a1 == b1)) && (((a2 == b2) && (a3 == b3)) && (((a4 == b4) && (a5 == b5)) && ((a6 == b6) && (a7 == b7)))))) w := by
  rw [run_eql_struct, show (10000 : Nat) = 9997 + 3 from rfl, eqSpans]
  rfl

theorem neq_spans (a0 a1 a2 a3 a4 a5 a6 a7 b0 b1 b2 b3 b4 b5 b6 b7 : Int) (w : World) : (binOp .neq 92 (.agg #[.int .i64 a0, .int .i64 a1, .int .i64 a2, .int .i64 a3, .int .i64 a4, .int .i64 a5, .int .i64 a6, .int .i64 a7]) (.agg #[.int .i64 b0, .int .i64 b1, .int .i64 b2, .int .i64 b3, .int .i64 b4, .int .i64 b5, .int .i64 b6, .int .i64 b7])).run Tryd.prog w = .ok (.bool (!(((a0 == b0) && (a1 == b1)) && (((a2 == b2) && (a3 == b3)) && (((a4 == b4) && (a5 == b5)) && ((a6 == b6) && (a7 == b7))))))) w := by
  rw [run_neq_struct, show (10000 : Nat) = 9997 + 3 from rfl, eqSpans]
  rfl

theorem eqRng (d : Nat) (a b c e : Int) (w : World) : (Op.equalIn (d + 2) 30 (.agg #[.int .i64 a, .int .i64 b]) (.agg #[.int .i64 c, .int .i64 e])).run Tryd.prog w = .ok (a == c && b == e) w := by
  have u3 := Tryd.underlying2
  have a3 := Tryd.isAgg2
  have z3 := Tryd.sizeOf2
  have hS : Tryd.prog.underlying 30 = some (.struct (Tryd.prog.fieldsOf 30)) := by kernel_rfl
  rw [run_equalIn_agg w (d + 1) 30 _ _ hS (by kernel_rfl)]
  simp only [Program.fieldsOf, Tryd.underlying30]
  go_simp
  by_cases h1 : a = c <;> by_cases h2 : b = e <;> simp [h1, h2]

theorem neq_rng (a b c e : Int) (w : World) : (binOp .neq 30 (.agg #[.int .i64 a, .int .i64 b]) (.agg #[.int .i64 c, .int .i64 e])).run Tryd.prog w = .ok (.bool (!(a == c && b == e))) w := by
  rw [run_neq_struct, show (10000 : Nat) = 9998 + 2 from rfl, eqRng]
  rfl

theorem build_pair (a b : Int) (w : World) : (Instr.build 90 #[(0, .int .i64 a), (1, .int .i64 b)]).run Tryd.prog w = .ok (.agg #[.int .i64 a, .int .i64 b]) w := run_build w 90 _ _ (by kernel_rfl)

theorem build_spans (a0 a1 a2 a3 a4 a5 a6 a7 : Int) (w : World) : (Instr.build 92 #[(0, .agg #[.int .i64 a0, .int .i64 a1]), (1, .agg #[.int .i64 a2, .int .i64 a3]), (2, .agg #[.int .i64 a4, .int .i64 a5]), (3, .agg #[.int .i64 a6, .int .i64 a7])]).run Tryd.prog w = .ok (.agg #[.int .i64 a0, .int .i64 a1, .int .i64 a2, .int .i64 a3, .int .i64 a4, .int .i64 a5, .int .i64 a6, .int .i64 a7]) w := run_build w 92 _ _ (by kernel_rfl)

set_option maxHeartbeats 1000000 in
theorem spansOf_ok (x : S9) (w : World) :
    Calls Tryd.prog 60 #[.agg #[.int .i64 x.a, .int .i64 x.b, .int .i64 x.c, .int .i64 x.d, .int .i64 x.e, .int .i64 x.f, .int .i64 x.g, .int .i64 x.h, .int .i64 x.r]] w fun e w' => e = .returned (.agg #[.int .i64 x.a, .int .i64 x.b, .int .i64 x.c, .int .i64 x.d, .int .i64 x.e, .int .i64 x.f, .int .i64 x.g, .int .i64 x.h]) ∧ Below w.heap.size w w' := by
  have q1 := build_pair
  have q2 := build_spans
  go_enter Tryd.func60, Tryd.ntmps60
  go_wp2
  refine bodyPost_ret (v := .agg #[.int .i64 x.a, .int .i64 x.b, .int .i64 x.c, .int .i64 x.d, .int .i64 x.e, .int .i64 x.f, .int .i64 x.g, .int .i64 x.h]) (by simp [results, Tryd.results60, go_sem]) rfl ⟨rfl, ?_⟩
  repeat' (first | exact Below.refl _ _ | refine Below.alloc ?_ (by simp) _ | refine Below.setCell ?_ (by simp) _ | refine Below.drew ?_)

set_option maxHeartbeats 1000000 in
theorem wholeSpans_ok (w : World) :
    Calls Tryd.prog 104 #[] w fun e w' => e = .returned (.agg #[.int .i64 0, .int .i64 4294967295, .int .i64 0, .int .i64 4294967295, .int .i64 0, .int .i64 65535, .int .i64 0, .int .i64 65535]) ∧ Below w.heap.size w w' := by
  have q1 := build_pair
  have q2 := build_spans
  go_enter Tryd.func104, Tryd.ntmps104
  go_wp2
  refine bodyPost_ret (v := .agg #[.int .i64 0, .int .i64 4294967295, .int .i64 0, .int .i64 4294967295, .int .i64 0, .int .i64 65535, .int .i64 0, .int .i64 65535]) (by simp [results, Tryd.results104, go_sem]) rfl ⟨rfl, ?_⟩
  repeat' (first | exact Below.refl _ _ | refine Below.alloc ?_ (by simp) _ | refine Below.setCell ?_ (by simp) _ | refine Below.drew ?_)

end Go.Proofs.YtngkahchhioncaaDoor
