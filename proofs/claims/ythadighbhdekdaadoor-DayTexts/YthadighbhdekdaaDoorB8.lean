import Derived.Test.YthadighbhdekdaaDoorB7
namespace Go.Proofs.YthadighbhdekdaaDoor.L
open Go.RowKit Tl

theorem val_mod2 (xs : List Int) : val xs % 2 = nth xs 0 % 2 := by
  cases xs with
  | nil => rfl
  | cons x xs =>
    show (x + 1073741824 * val xs) % 2 = x % 2
    omega
end Go.Proofs.YthadighbhdekdaaDoor.L
