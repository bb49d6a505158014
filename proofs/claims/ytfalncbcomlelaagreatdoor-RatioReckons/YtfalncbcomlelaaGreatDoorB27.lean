import Derived.Test.YtfalncbcomlelaaGreatDoorB26
namespace Go.Proofs.YtfalncbcomlelaaGreatDoor.L
open Go.RowKit Tl

end Go.Proofs.YtfalncbcomlelaaGreatDoor.L
