/- A book of terms: the answer. -/
import Derived.Test.YtdggihikkegjjaaTmI
namespace Go.Proofs.Ytdggihikkegjjaa
open Go.RowKit

end Go.Proofs.Ytdggihikkegjjaa
