import Derived.Test.YteepjipecfdkoaaDoorDd1
namespace Go.Proofs.YteepjipecfdkoaaDoor.Dy
open Go.RowKit Tn
/-- The k-th due. -/
def du (y m d E : Int) (k : Nat) : Int × Int × Int := ((mo y m + E * k) / 12 + 1, (mo y m + E * k) % 12 + 1, min d (mk (mo y m + E * k)))
end Go.Proofs.YteepjipecfdkoaaDoor.Dy
