import Derived.Test.YtfalncbcomlelaaGreatDoorGh
namespace Go.Proofs.YtfalncbcomlelaaGreatDoor.L
open Go.RowKit Tl

end Go.Proofs.YtfalncbcomlelaaGreatDoor.L
