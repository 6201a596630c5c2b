/- Lists of selectors narrowed: the program by contract. -/
import Derived.Test.YtngkahchhioncaaDoorNrC
import Derived.Test.YtngkahchhioncaaDoorMtF
namespace Go.Proofs.YtngkahchhioncaaDoor
open Go.RowKit

theorem build_ss0 (k : Int) (w : World) : (Instr.build 81 #[(0, .int .i64 k)]).run Tryd.prog w = .ok (.agg #[.int .i64 k, .slice none 0 0]) w := run_build w 81 _ _ (by kernel_rfl)

theorem build_ss1 (a : Option Addr) (n c : Nat) (w : World) : (Instr.build 81 #[(1, .slice a n c)]).run Tryd.prog w = .ok (.agg #[.int .i64 0, .slice a n c]) w := run_build w 81 _ _ (by kernel_rfl)

theorem build_ss2 (k : Int) (a : Option Addr) (n c : Nat) (w : World) : (Instr.build 81 #[(0, .int .i64 k), (1, .slice a n c)]).run Tryd.prog w = .ok (.agg #[.int .i64 k, .slice a n c]) w := run_build w 81 _ _ (by kernel_rfl)

theorem extract1S (u v : Value) (w : World) : (Instr.extract (.tuple #[u, v]) 1).run Tryd.prog w = .ok v w := by kernel_rfl

theorem OwnL.below {w : World} {base : Nat} {a : Option Addr} {cap : Nat} {xs : List S9} (h : OwnL w base a cap xs) {p : Addr} (hp : p.block < base) (u : Value) : OwnL (w.setCell p u) base a cap xs :=
  ownsRow_setCell_below h hp u

end Go.Proofs.YtngkahchhioncaaDoor
