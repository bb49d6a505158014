import Derived.Test.YtfalncbcomlelaaGreatDoorPart41

namespace Go.Proofs.YtfalncbcomlelaaGreatDoor.Mo
open Go.RowKit Fu Tn Go.Lib
end Go.Proofs.YtfalncbcomlelaaGreatDoor.Mo
