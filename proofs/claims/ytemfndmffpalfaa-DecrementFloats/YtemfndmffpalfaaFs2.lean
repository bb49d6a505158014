import Derived.Test.YtemfndmffpalfaaFl10
import Derived.Test.YtemfndmffpalfaaFs1
namespace Go.Proofs.Ytemfndmffpalfaa
open Go.RowKit Tn

set_option maxRecDepth 100000 in
theorem IsNaN_any (n : Nat) (w : World) : Calls Try.prog 8 #[.float .f64 n] w fun x w' => x = .returned (.bool (nan64 n)) ∧ w' = w := by
  have h := order_self n
  generalize nan64 n = t at h
  go_enter Try.func8, Try.ntmps8
  go_wp2
  go_ret
  exact ⟨rfl, rfl⟩
set_option maxRecDepth 100000 in
theorem IsInf_up (n : Nat) (h : nan64 n = false) (w : World) : Calls Try.prog 9 #[.float .f64 n, .int .i64 1] w fun x w' => x = .returned (.bool (decide (n % 18446744073709551616 = 9218868437227405312))) ∧ w' = w := by
  have h := order_max n h
  generalize decide (n % 18446744073709551616 = 9218868437227405312) = t at h
  go_enter Try.func9, Try.ntmps9
  go_wp2
  go_ret
  exact ⟨rfl, rfl⟩
theorem sign_wrap (n : Nat) (hn : n < 18446744073709551616) : decide (IntKind.i64.wrap (n : Int) < 0) = ng64 n := by
  unfold ng64
  rw [Bool.eq_iff_iff, decide_eq_true_iff, beq_iff_eq]
  simp [IntKind.wrap, IntKind.bits, IntKind.signed]
  omega
theorem andNot_sign (n : Nat) (hn : n < 18446744073709551616) : bits .andNot .u64 (n : Int) 9223372036854775808 = (rg64 n : Int) := by
  unfold rg64
  by_cases h : 9223372036854775808 ≤ n
  · have e := bits_andNot_pow n 9223372036854775808 63 (by decide) (by decide) h (by omega)
    rw [show ((9223372036854775808 : Nat) : Int) = 9223372036854775808 from rfl] at e
    rw [e]; omega
  · have a1 : (BitVec.ofInt 64 (n : Int)).toNat = n := by
      rw [BitVec.ofInt_natCast, BitVec.toNat_ofNat]; exact Nat.mod_eq_of_lt (by omega)
    have a2 : ~~~ BitVec.ofInt 64 (9223372036854775808 : Int) = BitVec.ofNat 64 9223372036854775807 := by decide
    show IntKind.u64.wrap ((BitVec.ofInt 64 (n : Int) &&& ~~~ BitVec.ofInt 64 (9223372036854775808 : Int)).toNat : Int) = _
    rw [a2, BitVec.toNat_and, a1, show (BitVec.ofNat 64 9223372036854775807).toNat = 2 ^ 63 - 1 from by decide, Nat.and_two_pow_sub_one_eq_mod, IntKind.wrap_u64]
    omega
/-- The place in the total order. -/
def rank64 (n : Nat) : Int := if nan64 n = true then 9223372036854775807 else if ng64 n = true then -1 - (rg64 n : Int) else rg64 n
theorem rg64_lt (n : Nat) : rg64 n < 9223372036854775808 := Nat.mod_lt _ (by decide)
/-- What stands above. -/
def up64 (n : Nat) : Nat := if nan64 n = true then n else if n = 9218868437227405312 then n else if rg64 n = 0 then 1 else if ng64 n = true then n - 1 else n + 1
end Go.Proofs.Ytemfndmffpalfaa
