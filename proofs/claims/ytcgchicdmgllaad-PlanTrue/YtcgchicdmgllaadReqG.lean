/- Contracts of the reference's MeetsOf and OverOf, whatever they are handed. -/
import Derived.Test.YtcgchicdmgllaadReqF
namespace Go.Proofs.Ytcgchicdmgllaad
open Go.RowKit

end Go.Proofs.Ytcgchicdmgllaad
