/- A book of terms: one is put. -/
import Derived.Test.YtdggihikkegjjaaTmH
namespace Go.Proofs.Ytdggihikkegjjaa
open Go.RowKit

theorem build_irc (k : Int) (w : World) : (Instr.build 47 #[(0, .int .i64 k)]).run Try.prog w = .ok (.agg #[.int .i64 k, .int .i64 0]) w := run_build w 47 _ _ (by kernel_rfl)

theorem build_irv (k : Int) (w : World) : (Instr.build 47 #[(1, .int .i64 k)]).run Try.prog w = .ok (.agg #[.int .i64 0, .int .i64 k]) w := run_build w 47 _ _ (by kernel_rfl)

/-- What a table is behind a put. -/
@[irreducible] def putL (xs : List T4) (t : T4) : List T4 := if (put xs t).c = 0 then (put xs t).l else xs

end Go.Proofs.Ytdggihikkegjjaa
