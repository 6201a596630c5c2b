/- What the laws on windows read of tuples and results; results held against one another. -/
import Derived.Test.YtkpdbdcfimdnjaaWnK
import Derived.Test.YtkpdbdcfimdnjaaWnH
import Derived.Test.YtkpdbdcfimdnjaaMinM
import Derived.Laws.StructEq
namespace Go.Proofs.Ytkpdbdcfimdnjaa
open Go.RowKit

theorem extractW0 (u v : Value) (w : World) : (Instr.extract (.tuple #[u, v]) 0).run Try.prog w = .ok u w := by kernel_rfl

theorem extractW1 (u v : Value) (w : World) : (Instr.extract (.tuple #[u, v]) 1).run Try.prog w = .ok v w := by kernel_rfl

theorem fieldWR0 (a b c d : Value) (w : World) : (Instr.field 35 (.agg #[a, b, c, d]) 0).run Try.prog w = .ok a w := by kernel_rfl

theorem fieldIR0 (a b : Value) (w : World) : (Instr.field 42 (.agg #[a, b]) 0).run Try.prog w = .ok a w := by kernel_rfl

theorem eqWn (d : Nat) (a b : Int) (w : World) : (Op.equalIn (d + 2) 25 (.agg #[.int .i64 a, .int .i64 b]) (.agg #[.int .i64 a, .int .i64 b])).run Try.prog w = .ok true w := by
  have u3 := Try.underlying2
  have a3 := Try.isAgg2
  have z3 := Try.sizeOf2
  have hS : Try.prog.underlying 25 = some (.struct (Try.prog.fieldsOf 25)) := by kernel_rfl
  rw [run_equalIn_struct w (d + 1) 25 _ _ hS (by kernel_rfl)]
  simp only [Program.fieldsOf, Try.underlying25]
  go_simp
  try simp

theorem eqWR (d : Nat) (a b c e : Int) (w : World) : (Op.equalIn (d + 3) 35 (.agg #[.int .i64 a, .int .i64 b, .int .i64 c, .int .i64 e]) (.agg #[.int .i64 a, .int .i64 b, .int .i64 c, .int .i64 e])).run Try.prog w = .ok true w := by
  have u3 := Try.underlying2
  have a3 := Try.isAgg2
  have z3 := Try.sizeOf2
  have a4 := Try.isAgg25
  have z4 := Try.sizeOf25
  have hW := eqWn d c e
  have hS : Try.prog.underlying 35 = some (.struct (Try.prog.fieldsOf 35)) := by kernel_rfl
  rw [run_equalIn_struct w (d + 2) 35 _ _ hS (by kernel_rfl)]
  simp only [Program.fieldsOf, Try.underlying35]
  go_simp
  try simp


theorem eql_wr (a b c d : Int) (w : World) : (binOp .eql 35 (.agg #[.int .i64 a, .int .i64 b, .int .i64 c, .int .i64 d]) (.agg #[.int .i64 a, .int .i64 b, .int .i64 c, .int .i64 d])).run Try.prog w = .ok (.bool true) w := by
  rw [run_eql_struct, show (10000 : Nat) = 9997 + 3 from rfl, eqWR]
  rfl

end Go.Proofs.Ytkpdbdcfimdnjaa
