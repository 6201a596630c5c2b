/- A book of terms: one is put. -/
import Derived.Test.YteeoodbmgheikaaTmH
namespace Go.Proofs.Yteeoodbmgheikaa
open Go.RowKit

/-- What a table is behind a put. -/
@[irreducible] def putL (xs : List T4) (t : T4) : List T4 := if (put xs t).c = 0 then (put xs t).l else xs

end Go.Proofs.Yteeoodbmgheikaa
