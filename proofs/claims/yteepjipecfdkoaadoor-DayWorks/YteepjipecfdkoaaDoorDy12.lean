import Derived.Test.YteepjipecfdkoaaDoorDy10
namespace Go.Proofs.YteepjipecfdkoaaDoor.Dy
open Go.RowKit Tn
/-- What Days tells. -/
def dys (y m d n : Int) : Value := if good y m d then .tuple #[dt (fy (num y m d + n)) (fm (num y m d + n)) (fd (num y m d + n)), .int .i64 (rg (nr (num y m d + n)))] else .tuple #[dt 0 0 0, .int .i64 70]
end Go.Proofs.YteepjipecfdkoaaDoor.Dy
