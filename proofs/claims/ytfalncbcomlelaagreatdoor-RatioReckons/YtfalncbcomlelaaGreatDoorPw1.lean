import Derived.Test.YtfalncbcomlelaaGreatDoorEr14
namespace Go.Proofs.YtfalncbcomlelaaGreatDoor.Mo
open Go.RowKit Fu Tn Go.Lib Wt

end Go.Proofs.YtfalncbcomlelaaGreatDoor.Mo
