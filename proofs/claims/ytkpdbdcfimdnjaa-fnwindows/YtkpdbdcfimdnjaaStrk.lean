/- A struct stored at one stroke, as one operation; cells of another block. -/
import Derived.Test.YtkpdbdcfimdnjaaFill
namespace Go.Proofs.Ytkpdbdcfimdnjaa
open Go.RowKit

theorem wp_strokeG {op : Oper} {a : Act} {w : World} {K : Act → World → Prop} {Q : Exit → Act → World → Prop} (w6 : World) (ty : TypeId) (x y : Operand) (ho : op.op = .store ty x y)
    (b o : Nat) (cells : Array Value) (hx : a.eval x = .pointer (some ⟨b, o, none⟩)) (hy : a.eval y = .agg cells)
    (ht : w.there b o cells.size) (hi : (Try.prog.info? ty).map (·.size) = some cells.size) (h1 : cells.all (·.oneCell') = true) (hw : w.setCells b o cells.toList = w6)
    (h : K (a.put op.dst undef) w6) : op.wp Try.prog a w K Q :=
  wp_store_mid ty x y ho b o cells hx hy ht hi h1 (hw ▸ h)

end Go.Proofs.Ytkpdbdcfimdnjaa
