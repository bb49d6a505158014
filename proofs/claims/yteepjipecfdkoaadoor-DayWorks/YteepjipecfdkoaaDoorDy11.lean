import Derived.Test.YteepjipecfdkoaaDoorDy10
namespace Go.Proofs.YteepjipecfdkoaaDoor.Dy
open Go.RowKit Tn
end Go.Proofs.YteepjipecfdkoaaDoor.Dy
