import Derived.Test.YtfalncbcomlelaaGreatDoorB24
import Derived.Test.YtfalncbcomlelaaGreatDoorOi1
namespace Go.Proofs.YtfalncbcomlelaaGreatDoor.L
open Go.RowKit Tl

theorem quo_le {a q b r : Int} (h : a = q * b + r) (r0 : 0 ≤ r) (q0 : 0 ≤ q) (b0 : 0 < b) : q ≤ a := le_of_quo h r0 q0 b0
end Go.Proofs.YtfalncbcomlelaaGreatDoor.L
