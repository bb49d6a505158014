import Derived.Test.YtfalncbcomlelaaGreatDoorDigits
namespace Go.Proofs.YtfalncbcomlelaaGreatDoor
open Go.RowKit Tn

end Go.Proofs.YtfalncbcomlelaaGreatDoor
