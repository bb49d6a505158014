import Derived.Test.YthadighbhdekdaaDoorDy10
namespace Go.Proofs.YthadighbhdekdaaDoor.Dy
open Go.RowKit Tn
end Go.Proofs.YthadighbhdekdaaDoor.Dy
