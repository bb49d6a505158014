import Derived.Test.YtebilgnmnambnaaGreatDoorPart34

namespace Go.Proofs.YtebilgnmnambnaaGreatDoor.Mo
open Go.RowKit Fu Tn Go.Lib
end Go.Proofs.YtebilgnmnambnaaGreatDoor.Mo
