import Derived.Test.YtfalncbcomlelaaGreatDoorEr6
import Derived.Test.YtfalncbcomlelaaGreatDoorLong2
namespace Go.Proofs.YtfalncbcomlelaaGreatDoor.Mo
open Go.RowKit Dc Tn

end Go.Proofs.YtfalncbcomlelaaGreatDoor.Mo
