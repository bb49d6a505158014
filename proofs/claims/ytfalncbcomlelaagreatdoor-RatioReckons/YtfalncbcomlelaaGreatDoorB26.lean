import Derived.Test.YtfalncbcomlelaaGreatDoorB25
namespace Go.Proofs.YtfalncbcomlelaaGreatDoor.L
open Go.RowKit Tl

end Go.Proofs.YtfalncbcomlelaaGreatDoor.L
