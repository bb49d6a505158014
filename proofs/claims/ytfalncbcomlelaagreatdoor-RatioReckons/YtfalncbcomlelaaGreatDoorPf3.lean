import Derived.Test.YtfalncbcomlelaaGreatDoorPf2
import Derived.Test.YtfalncbcomlelaaGreatDoorPfs
namespace Go.Proofs.YtfalncbcomlelaaGreatDoor.Mo
open Go.RowKit Fu Tn Go.Lib

end Go.Proofs.YtfalncbcomlelaaGreatDoor.Mo
