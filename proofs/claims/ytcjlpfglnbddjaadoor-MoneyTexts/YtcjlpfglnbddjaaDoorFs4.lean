import Derived.Test.YtcjlpfglnbddjaaDoorFs3
namespace Go.Proofs.YtcjlpfglnbddjaaDoor
open Go.RowKit Tn

theorem none_nan (n : Nat) : (decide (fdW n = 2047) && decide (frW n ≠ 0)) = nan64 n := by
  unfold nan64 fdW frW rg64
  rw [Bool.eq_iff_iff, Bool.and_eq_true, decide_eq_true_iff, decide_eq_true_iff, decide_eq_true_iff]
  omega
/-- The place as the reference tells it. -/
def place64 (n : Nat) : Int := if ng64 n = true then -(rg64 n : Int) else rg64 n
end Go.Proofs.YtcjlpfglnbddjaaDoor
