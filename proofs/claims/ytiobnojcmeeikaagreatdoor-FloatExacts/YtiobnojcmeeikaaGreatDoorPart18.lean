import Derived.Test.YtiobnojcmeeikaaGreatDoorPart17
import Derived.Laws.Bits64b
import Derived.Laws.ShiftsVarLaws
import Derived.WalkKit

namespace Go.Proofs.YtiobnojcmeeikaaGreatDoor
open Go.RowKit Tn

end Go.Proofs.YtiobnojcmeeikaaGreatDoor

namespace Tn
open Go

theorem and63 (n k c : Nat) (hc : c = 2 ^ k) : (n &&& c ≠ 0) ↔ n / c % 2 = 1 := by
  subst hc
  have h := and_two_pow_eq_zero (n : Int) k (by omega)
  rw [toNat_two_pow, Int.toNat_natCast] at h
  have e : ((n : Int) / 2 ^ k % 2 = 1) ↔ n / 2 ^ k % 2 = 1 := by
    have e2 : ((n / 2 ^ k % 2 : Nat) : Int) = (n : Int) / 2 ^ k % 2 := by simp
    omega
  rw [ne_eq, h, e, Decidable.not_not]
theorem or_low (f k c : Nat) (hc : c = 2 ^ k) (hf : f < c) : f ||| c = f + c := by
  subst hc
  have := Nat.two_pow_add_eq_or_of_lt hf 1
  rw [Nat.mul_one] at this
  rw [Nat.or_comm]; omega
/-- The sign of a float, by its bits. -/
def sgW (n : Nat) : Bool := decide (n / 9223372036854775808 % 2 = 1)
/-- The exponent's bits. -/
def fdW (n : Nat) : Nat := n / 4503599627370496 % 2048
/-- The fraction's bits. -/
def frW (n : Nat) : Nat := n % 4503599627370496
/-- The parts of a float, by its bits: its kind, whether it is below nought, m and e. -/
def splW (n : Nat) : Int × Bool × Int × Int :=
  if fdW n = 2047 then (if frW n = 0 then (3, sgW n, 0, 0) else (4, false, 0, 0))
  else if fdW n = 0 then (if frW n = 0 then (0, sgW n, 0, 0) else (1, sgW n, (frW n : Int), -1074))
  else (2, sgW n, (frW n : Int) + 4503599627370496, (fdW n : Int) - 1 - 1074)
theorem hgW (n : Nat) (h : n < 18446744073709551616) : (bits .and .u64 (n : Int) 9223372036854775808 != 0) = sgW n := by
  have e := bits_and_u64_nat n 9223372036854775808 h (by decide)
  rw [show ((9223372036854775808 : Nat) : Int) = 9223372036854775808 from rfl] at e
  rw [e]
  have a := and63 n 63 9223372036854775808 (by decide)
  unfold sgW
  rw [Bool.eq_iff_iff, decide_eq_true_iff, ← a, bne_iff_ne]
  omega
theorem hg2W (n : Nat) (h : n < 18446744073709551616) : (bits .and .u64 ((n : Int) / 9223372036854775808) 1 == 1) = sgW n := by
  have e := bits_and_u64_nat (n / 9223372036854775808) 1 (by omega) (by decide)
  rw [show (((n / 9223372036854775808 : Nat)) : Int) = (n : Int) / 9223372036854775808 from by simp, show ((1 : Nat) : Int) = 1 from rfl, Nat.and_one_is_mod] at e
  rw [e]
  unfold sgW
  rw [Bool.eq_iff_iff, decide_eq_true_iff, beq_iff_eq]
  omega
theorem hdW (n : Nat) (h : n < 18446744073709551616) : bits .and .u64 ((n : Int) / 4503599627370496) 2047 = (fdW n : Int) := by
  have e := bits_and_u64_nat (n / 4503599627370496) 2047 (by omega) (by decide)
  rw [show (((n / 4503599627370496 : Nat)) : Int) = (n : Int) / 4503599627370496 from by simp, show ((2047 : Nat) : Int) = 2047 from rfl, show (2047 : Nat) = 2 ^ 11 - 1 from rfl, Nat.and_two_pow_sub_one_eq_mod] at e
  exact e
theorem hfW (n : Nat) (h : n < 18446744073709551616) : bits .and .u64 (n : Int) 4503599627370495 = (frW n : Int) := by
  have e := bits_and_u64_nat n 4503599627370495 h (by decide)
  rw [show ((4503599627370495 : Nat) : Int) = 4503599627370495 from rfl, show (4503599627370495 : Nat) = 2 ^ 52 - 1 from rfl, Nat.and_two_pow_sub_one_eq_mod] at e
  exact e
theorem horW (f : Nat) (h : f < 4503599627370496) : bits .or .u64 (f : Int) 4503599627370496 = (f : Int) + 4503599627370496 := by
  have e := bits_or_u64_nat f 4503599627370496 (by omega) (by decide)
  rw [show ((4503599627370496 : Nat) : Int) = 4503599627370496 from rfl, or_low f 52 4503599627370496 (by decide) h] at e
  rw [e]; omega
/-- The sign of a small float, by its bits. -/
def sgS (n : Nat) : Bool := decide (n / 2147483648 % 2 = 1)
/-- The exponent's bits. -/
def fdS (n : Nat) : Nat := n / 8388608 % 256
/-- The fraction's bits. -/
def frS (n : Nat) : Nat := n % 8388608
/-- The parts of a small float, by its bits: its kind, whether it is below nought, m and e. -/
def splS (n : Nat) : Int × Bool × Int × Int :=
  if fdS n = 255 then (if frS n = 0 then (3, sgS n, 0, 0) else (4, false, 0, 0))
  else if fdS n = 0 then (if frS n = 0 then (0, sgS n, 0, 0) else (1, sgS n, (frS n : Int), -149))
  else (2, sgS n, (frS n : Int) + 8388608, (fdS n : Int) - 1 - 149)
theorem hgS (n : Nat) (h : n < 18446744073709551616) : (bits .and .u64 (n : Int) 2147483648 != 0) = sgS n := by
  have e := bits_and_u64_nat n 2147483648 h (by decide)
  rw [show ((2147483648 : Nat) : Int) = 2147483648 from rfl] at e
  rw [e]
  have a := and63 n 31 2147483648 (by decide)
  unfold sgS
  rw [Bool.eq_iff_iff, decide_eq_true_iff, ← a, bne_iff_ne]
  omega
theorem hg2S (n : Nat) (h : n < 18446744073709551616) : (bits .and .u64 ((n : Int) / 2147483648) 1 == 1) = sgS n := by
  have e := bits_and_u64_nat (n / 2147483648) 1 (by omega) (by decide)
  rw [show (((n / 2147483648 : Nat)) : Int) = (n : Int) / 2147483648 from by simp, show ((1 : Nat) : Int) = 1 from rfl, Nat.and_one_is_mod] at e
  rw [e]
  unfold sgS
  rw [Bool.eq_iff_iff, decide_eq_true_iff, beq_iff_eq]
  omega
theorem hdS (n : Nat) (h : n < 18446744073709551616) : bits .and .u64 ((n : Int) / 8388608) 255 = (fdS n : Int) := by
  have e := bits_and_u64_nat (n / 8388608) 255 (by omega) (by decide)
  rw [show (((n / 8388608 : Nat)) : Int) = (n : Int) / 8388608 from by simp, show ((255 : Nat) : Int) = 255 from rfl, show (255 : Nat) = 2 ^ 8 - 1 from rfl, Nat.and_two_pow_sub_one_eq_mod] at e
  exact e
theorem hfS (n : Nat) (h : n < 18446744073709551616) : bits .and .u64 (n : Int) 8388607 = (frS n : Int) := by
  have e := bits_and_u64_nat n 8388607 h (by decide)
  rw [show ((8388607 : Nat) : Int) = 8388607 from rfl, show (8388607 : Nat) = 2 ^ 23 - 1 from rfl, Nat.and_two_pow_sub_one_eq_mod] at e
  exact e
theorem horS (f : Nat) (h : f < 8388608) : bits .or .u64 (f : Int) 8388608 = (f : Int) + 8388608 := by
  have e := bits_or_u64_nat f 8388608 (by omega) (by decide)
  rw [show ((8388608 : Nat) : Int) = 8388608 from rfl, or_low f 23 8388608 (by decide) h] at e
  rw [e]; omega
end Tn

namespace Go.Proofs.YtiobnojcmeeikaaGreatDoor
open Go.RowKit Tn

theorem w64 (x : Int) (h0 : -9223372036854775808 ≤ x) (h1 : x < 9223372036854775808) : IntKind.i64.wrap x = x := by
  simp [IntKind.wrap, IntKind.bits, IntKind.signed]; omega
theorem wu64 (x : Int) (h0 : 0 ≤ x) (h1 : x < 18446744073709551616) : IntKind.u64.wrap x = x := by
  rw [IntKind.wrap_u64]; omega
/-- Parts as a value. -/
abbrev prt4 (p : Int × Bool × Int × Int) : Value := prt p.1 p.2.1 p.2.2.1 p.2.2.2
theorem split_w (n : Nat) (hn : n < 18446744073709551616) (w : World) :
    Calls Tryz.prog 21 #[fmtW, .int .u64 n] w fun e w' => e = .returned (prt4 (splW n)) ∧ Below w.heap.size w w' := by
  have h1 : fdW n < 2048 := Nat.mod_lt _ (by decide)
  have h2 : frW n < 4503599627370496 := Nat.mod_lt _ (by decide)
  unfold splW
  split
  · split
    · exact split_w_inf n (fdW n) (frW n) (sgW n) (hgW n hn) (hdW n hn) (hfW n hn) (by omega) (by simp; omega) w
    · exact split_w_none n (fdW n) (frW n) (sgW n) (hgW n hn) (hdW n hn) (hfW n hn) (by omega) (by simp; omega) w
  · split
    · split
      · exact split_w_nought n (fdW n) (frW n) (sgW n) (hgW n hn) (hdW n hn) (hfW n hn) (by omega) (by simp; omega) w
      · exact split_w_small n (fdW n) (frW n) (sgW n) (hgW n hn) (hdW n hn) (hfW n hn) (by omega) (by simp; omega) w
    · have H := split_w_normal n (fdW n) (frW n) _ (sgW n) (hgW n hn) (hdW n hn) (hfW n hn) (by simp; omega) (by simp; omega) (horW _ h2) (w64 _ (by omega) (by omega)) (w64 _ (by omega) (by omega)) (w64 _ (by omega) (by omega)) w
      rw [show (fdW n : Int) - 1 + -1074 = (fdW n : Int) - 1 - 1074 from by omega] at H
      exact H
theorem Split_w (n : Nat) (hn : n < 18446744073709551616) (w : World) :
    Calls Tryz.prog 26 #[szW, .int .u64 n] w fun e w' => e = .returned (prt4 (splW n)) ∧ Below w.heap.size w w' := by
  have h1 : fdW n < 2048 := Nat.mod_lt _ (by decide)
  have h2 : frW n < 4503599627370496 := Nat.mod_lt _ (by decide)
  unfold splW
  split
  · split
    · exact Split_w_inf n (fdW n) (frW n) (sgW n) (hg2W n hn) (hdW n hn) (hfW n hn) (by omega) (by simp; omega) w
    · exact Split_w_none n (fdW n) (frW n) (sgW n) (hg2W n hn) (hdW n hn) (hfW n hn) (by omega) (by simp; omega) w
  · split
    · split
      · exact Split_w_nought n (fdW n) (frW n) (sgW n) (hg2W n hn) (hdW n hn) (hfW n hn) (by omega) (by simp; omega) w
      · exact Split_w_small n (fdW n) (frW n) (sgW n) (hg2W n hn) (hdW n hn) (hfW n hn) (by omega) (by simp; omega) w
    · have H := Split_w_normal n (fdW n) (frW n) _ (sgW n) (hg2W n hn) (hdW n hn) (hfW n hn) (by simp; omega) (by simp; omega) (wu64 _ (by omega) (by omega)) (w64 _ (by omega) (by omega)) (w64 _ (by omega) (by omega)) (w64 _ (by omega) (by omega)) w
      rw [show -1074 + (fdW n : Int) - 1 = (fdW n : Int) - 1 - 1074 from by omega] at H
      exact H
theorem split_s (n : Nat) (hn : n < 18446744073709551616) (w : World) :
    Calls Tryz.prog 21 #[fmtS, .int .u64 n] w fun e w' => e = .returned (prt4 (splS n)) ∧ Below w.heap.size w w' := by
  have h1 : fdS n < 256 := Nat.mod_lt _ (by decide)
  have h2 : frS n < 8388608 := Nat.mod_lt _ (by decide)
  unfold splS
  split
  · split
    · exact split_s_inf n (fdS n) (frS n) (sgS n) (hgS n hn) (hdS n hn) (hfS n hn) (by omega) (by simp; omega) w
    · exact split_s_none n (fdS n) (frS n) (sgS n) (hgS n hn) (hdS n hn) (hfS n hn) (by omega) (by simp; omega) w
  · split
    · split
      · exact split_s_nought n (fdS n) (frS n) (sgS n) (hgS n hn) (hdS n hn) (hfS n hn) (by omega) (by simp; omega) w
      · exact split_s_small n (fdS n) (frS n) (sgS n) (hgS n hn) (hdS n hn) (hfS n hn) (by omega) (by simp; omega) w
    · have H := split_s_normal n (fdS n) (frS n) _ (sgS n) (hgS n hn) (hdS n hn) (hfS n hn) (by simp; omega) (by simp; omega) (horS _ h2) (w64 _ (by omega) (by omega)) (w64 _ (by omega) (by omega)) (w64 _ (by omega) (by omega)) w
      rw [show (fdS n : Int) - 1 + -149 = (fdS n : Int) - 1 - 149 from by omega] at H
      exact H
theorem Split_s (n : Nat) (hn : n < 18446744073709551616) (w : World) :
    Calls Tryz.prog 26 #[szS, .int .u64 n] w fun e w' => e = .returned (prt4 (splS n)) ∧ Below w.heap.size w w' := by
  have h1 : fdS n < 256 := Nat.mod_lt _ (by decide)
  have h2 : frS n < 8388608 := Nat.mod_lt _ (by decide)
  unfold splS
  split
  · split
    · exact Split_s_inf n (fdS n) (frS n) (sgS n) (hg2S n hn) (hdS n hn) (hfS n hn) (by omega) (by simp; omega) w
    · exact Split_s_none n (fdS n) (frS n) (sgS n) (hg2S n hn) (hdS n hn) (hfS n hn) (by omega) (by simp; omega) w
  · split
    · split
      · exact Split_s_nought n (fdS n) (frS n) (sgS n) (hg2S n hn) (hdS n hn) (hfS n hn) (by omega) (by simp; omega) w
      · exact Split_s_small n (fdS n) (frS n) (sgS n) (hg2S n hn) (hdS n hn) (hfS n hn) (by omega) (by simp; omega) w
    · have H := Split_s_normal n (fdS n) (frS n) _ (sgS n) (hg2S n hn) (hdS n hn) (hfS n hn) (by simp; omega) (by simp; omega) (wu64 _ (by omega) (by omega)) (w64 _ (by omega) (by omega)) (w64 _ (by omega) (by omega)) (w64 _ (by omega) (by omega)) w
      rw [show -149 + (fdS n : Int) - 1 = (fdS n : Int) - 1 - 149 from by omega] at H
      exact H
end Go.Proofs.YtiobnojcmeeikaaGreatDoor

namespace Go.Proofs.YtiobnojcmeeikaaGreatDoor
open Go.RowKit Tn

end Go.Proofs.YtiobnojcmeeikaaGreatDoor
