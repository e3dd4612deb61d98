/- A region that draws its order: as text Any; one operation, which all others come ahead of, may change old memory (text AnyI, outside of rounds). -/
import Derived.Test.YtckpdfkobdgjeaaDoorKAnyI
namespace Go.Proofs.YtckpdfkobdgjeaaDoor
open Go.RowKit
end Go.Proofs.YtckpdfkobdgjeaaDoor
