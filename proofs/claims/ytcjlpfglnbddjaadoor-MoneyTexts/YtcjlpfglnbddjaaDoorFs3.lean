import Derived.Test.YtcjlpfglnbddjaaDoorFs2
namespace Go.Proofs.YtcjlpfglnbddjaaDoor
open Go.RowKit Tn

/-- The sign bit turned. -/
def flip64 (n : Nat) : Nat := n ^^^ 9223372036854775808
theorem flip_lt (n : Nat) (h : n < 18446744073709551616) : flip64 n < 18446744073709551616 := Nat.xor_lt_two_pow (n := 64) (by omega) (by decide)
theorem neg_run (n : Nat) (w : World) : (Op.unary .neg (.float .f64 n)).run Tryd.prog w = .ok (.float .f64 (flip64 n)) w := rfl
theorem up_lt (n : Nat) (h : n < 18446744073709551616) : up64 n < 18446744073709551616 := by
  unfold up64
  repeat' split
  · omega
  · omega
  · omega
  · omega
  · rename_i a
    have : ¬ (n / 9223372036854775808 % 2 = 1) := by intro e; exact a (by unfold ng64; simp [e])
    omega
/-- -1, 0 or 1. -/
def ord3 (a b : Int) : Int := if a < b then -1 else if b < a then 1 else 0
/-- How many steps lie between. -/
def steps64 (n m : Nat) : Int := if ng64 n = ng64 m then max (rg64 n : Int) (rg64 m) - min (rg64 n : Int) (rg64 m) else (rg64 n : Int) + rg64 m
end Go.Proofs.YtcjlpfglnbddjaaDoor
