import Derived.Test.YtfalncbcomlelaaGreatDoorPf1
namespace Go.Proofs.YtfalncbcomlelaaGreatDoor.Mo
open Go.RowKit Tn Dc

end Go.Proofs.YtfalncbcomlelaaGreatDoor.Mo
