import Derived.Test.YtfalncbcomlelaaGreatDoorEr5
import Derived.Test.YtfalncbcomlelaaGreatDoorEr4
namespace Go.Proofs.YtfalncbcomlelaaGreatDoor.Mo
open Go.RowKit Dc Tn

end Go.Proofs.YtfalncbcomlelaaGreatDoor.Mo
