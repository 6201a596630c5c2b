/- A book of terms: the answer. -/
import Derived.Test.YteeoodbmgheikaaTmI
namespace Go.Proofs.Yteeoodbmgheikaa
open Go.RowKit

theorem build_tr0' (k : Int) (w : World) : (Instr.build 113 #[(0, .int .i64 k)]).run Try.prog w = .ok (.agg #[.int .i64 k, .int .i64 0, .slice none 0 0]) w := run_build w 113 _ _ (by kernel_rfl)

theorem build_tr12 (k : Int) (c : Option Addr) (n d : Nat) (w : World) : (Instr.build 113 #[(1, .int .i64 k), (2, .slice c n d)]).run Try.prog w = .ok (.agg #[.int .i64 0, .int .i64 k, .slice c n d]) w := run_build w 113 _ _ (by kernel_rfl)

end Go.Proofs.Yteeoodbmgheikaa
