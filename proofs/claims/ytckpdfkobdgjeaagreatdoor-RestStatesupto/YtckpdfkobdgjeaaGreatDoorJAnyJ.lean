/- (All of it lies in text Any now.) -/
import Derived.Test.YtckpdfkobdgjeaaGreatDoorJAny
namespace Go.Proofs.YtckpdfkobdgjeaaGreatDoor
end Go.Proofs.YtckpdfkobdgjeaaGreatDoor
