/- Builds of selectors and their results. -/
import Derived.Test.YtngkahchhioncaaDoorSelI
namespace Go.Proofs.YtngkahchhioncaaDoor
open Go.RowKit

theorem build_resA (k : Int) (w : World) : (Instr.build 108 #[(0, .int .i64 k)]).run Tryd.prog w = .ok (.agg #[.int .i64 k, .int .i64 0, .int .i64 0, .int .i64 0, .int .i64 0, .int .i64 0, .int .i64 0, .int .i64 0, .int .i64 0, .int .i64 0]) w := run_build w 108 _ _ (by kernel_rfl)

theorem build_resB (x : S9) (w : World) : (Instr.build 108 #[(1, .agg #[.int .i64 x.a, .int .i64 x.b, .int .i64 x.c, .int .i64 x.d, .int .i64 x.e, .int .i64 x.f, .int .i64 x.g, .int .i64 x.h, .int .i64 x.r])]).run Tryd.prog w = .ok (.agg #[.int .i64 0, .int .i64 x.a, .int .i64 x.b, .int .i64 x.c, .int .i64 x.d, .int .i64 x.e, .int .i64 x.f, .int .i64 x.g, .int .i64 x.h, .int .i64 x.r]) w := run_build w 108 _ _ (by kernel_rfl)

theorem build_rng1 (w : World) : (Instr.build 30 #[(1, .int .i64 4294967295)]).run Tryd.prog w = .ok (.agg #[.int .i64 0, .int .i64 4294967295]) w := run_build w 30 _ _ (by kernel_rfl)

end Go.Proofs.YtngkahchhioncaaDoor
