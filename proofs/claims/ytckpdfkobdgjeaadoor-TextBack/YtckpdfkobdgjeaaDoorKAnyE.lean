/- A region that draws its order, as text AnyD; a slot may be read by operations that come ahead of the one that writes it. -/
import Derived.Test.YtckpdfkobdgjeaaDoorKAnyD
namespace Go.Proofs.YtckpdfkobdgjeaaDoor
open Go.RowKit
end Go.Proofs.YtckpdfkobdgjeaaDoor
