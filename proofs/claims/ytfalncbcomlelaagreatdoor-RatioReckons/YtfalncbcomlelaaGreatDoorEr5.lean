import Derived.Test.YtfalncbcomlelaaGreatDoorEr3
namespace Go.Proofs.YtfalncbcomlelaaGreatDoor.Mo
open Go.RowKit Dc Tn

theorem undrew {W w1 : World} (b : Below W.drew.heap.size W.drew w1) : Below W.heap.size W w1 := (show Below W.heap.size W W.drew from (Below.refl _ _).drew).trans b
end Go.Proofs.YtfalncbcomlelaaGreatDoor.Mo
