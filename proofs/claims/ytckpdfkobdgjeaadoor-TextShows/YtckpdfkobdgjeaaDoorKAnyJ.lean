/- A region that draws its order, in a round of a loop over a function, that changes no old memory. -/
import Derived.Test.YtckpdfkobdgjeaaDoorKAnyI
namespace Go.Proofs.YtckpdfkobdgjeaaDoor
open Go.RowKit
end Go.Proofs.YtckpdfkobdgjeaaDoor
