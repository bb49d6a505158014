import Derived.Test.YteepjipecfdkoaaDoorDy11
import Derived.Test.YteepjipecfdkoaaDoorDy12
namespace Go.Proofs.YteepjipecfdkoaaDoor.Dy
open Go.RowKit Tn
/-- What Months tells. -/
def mns (y m d n : Int) : Value :=
  if good y m d then (if 0 ≤ mo y m + n ∧ mo y m + n ≤ 119987 then .tuple #[dt ((mo y m + n) / 12 + 1) ((mo y m + n) % 12 + 1) (min d (mk (mo y m + n))), .int .i64 0] else .tuple #[dt 0 0 0, .int .i64 1]) else .tuple #[dt 0 0 0, .int .i64 70]
theorem good_on {d a : Int} (hd : 1 ≤ d) (ha : 0 ≤ a) : good (a / 12 + 1) (a % 12 + 1) (min d (mk a)) = decide (a ≤ 119987) := by
  have := mk_bd a
  have e : ml (lp (a / 12 + 1)) (a % 12 + 1) = mk a := rfl
  rw [Bool.eq_iff_iff, good_iff, decide_eq_true_iff, e]
  omega
theorem good_0 : good 0 0 0 = false := by decide
end Go.Proofs.YteepjipecfdkoaaDoor.Dy
