import Derived.Test.YtohdbpnkenoclabDoorDy5
namespace Go.Proofs.YtohdbpnkenoclabDoor.Dy
open Go.RowKit Tn
end Go.Proofs.YtohdbpnkenoclabDoor.Dy
