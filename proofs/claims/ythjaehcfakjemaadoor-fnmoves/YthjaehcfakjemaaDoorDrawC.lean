/- A chance that is drawn. -/
import Derived.Test.YthjaehcfakjemaaDoorFmn
namespace Go.Proofs.YthjaehcfakjemaaDoor
open Go.RowKit

end Go.Proofs.YthjaehcfakjemaaDoor
