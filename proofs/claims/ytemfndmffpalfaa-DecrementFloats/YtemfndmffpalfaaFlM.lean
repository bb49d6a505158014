import Derived.Laws.Bits64b
import Derived.Laws.ShiftsVarLaws
import Derived.WalkKit
namespace Tn
open Go

theorem and63 (n k c : Nat) (hc : c = 2 ^ k) : (n &&& c ≠ 0) ↔ n / c % 2 = 1 := by
  subst hc
  have h := and_two_pow_eq_zero (n : Int) k (by omega)
  rw [toNat_two_pow, Int.toNat_natCast] at h
  have e : ((n : Int) / 2 ^ k % 2 = 1) ↔ n / 2 ^ k % 2 = 1 := by
    have e2 : ((n / 2 ^ k % 2 : Nat) : Int) = (n : Int) / 2 ^ k % 2 := by simp
    omega
  rw [ne_eq, h, e, Decidable.not_not]
theorem or_low (f k c : Nat) (hc : c = 2 ^ k) (hf : f < c) : f ||| c = f + c := by
  subst hc
  have := Nat.two_pow_add_eq_or_of_lt hf 1
  rw [Nat.mul_one] at this
  rw [Nat.or_comm]; omega
theorem or_high (a f k c : Nat) (hc : c = 2 ^ k) (hf : f < c) : c * a ||| f = c * a + f := by
  subst hc
  exact (Nat.two_pow_add_eq_or_of_lt hf a).symm
theorem bits_or_bd (x y : Int) : 0 ≤ bits .or .u64 x y ∧ bits .or .u64 x y < 18446744073709551616 := by
  unfold bits
  rw [IntKind.wrap_u64]
  omega
theorem bits_andNot_pow (m c k : Nat) (hc : c = 2 ^ k) (hk : k < 64) (h0 : c ≤ m) (h1 : m < 2 * c) : bits .andNot .u64 (m : Int) (c : Int) = ((m - c : Nat) : Int) := by
  have hp : c ≤ 2 ^ 63 := by rw [hc]; exact Nat.pow_le_pow_right (by omega) (by omega)
  have a1 : (BitVec.ofInt 64 (m : Int)).toNat = m := by
    rw [BitVec.ofInt_natCast, BitVec.toNat_ofNat]; exact Nat.mod_eq_of_lt (by omega)
  have a2 : (BitVec.ofInt 64 (c : Int)).toNat = c := by
    rw [BitVec.ofInt_natCast, BitVec.toNat_ofNat]; exact Nat.mod_eq_of_lt (by omega)
  show IntKind.u64.wrap ((BitVec.ofInt 64 (m : Int) &&& ~~~ BitVec.ofInt 64 (c : Int)).toNat : Int) = _
  have key : (BitVec.ofInt 64 (m : Int) &&& ~~~ BitVec.ofInt 64 (c : Int)).toNat = m - c := by
    apply Nat.eq_of_testBit_eq
    intro i
    rw [BitVec.toNat_and, Nat.testBit_and, BitVec.testBit_toNat, BitVec.testBit_toNat, BitVec.getLsbD_not]
    rw [← BitVec.testBit_toNat, ← BitVec.testBit_toNat, a1, a2, hc, Nat.testBit_two_pow]
    have e : m = 2 ^ k * 1 + (m - c) := by omega
    have hf : m - c < 2 ^ k := by omega
    rw [e, Nat.testBit_two_pow_mul_add _ hf]
    rw [show 2 ^ k * 1 + (m - c) - 2 ^ k = m - c from by omega]
    by_cases hi : i < k
    · simp [hi, show ¬ k = i from by omega, show i < 64 from by omega]
    · rw [if_neg hi]
      have z : (m - c).testBit i = false := Nat.testBit_lt_two_pow (Nat.lt_of_lt_of_le hf (Nat.pow_le_pow_right (by omega) (by omega)))
      rw [z]
      by_cases hik : k = i
      · simp [hik]
      · have z1 : Nat.testBit 1 (i - k) = false := by
          rw [show (1 : Nat) = 2 ^ 0 from rfl, Nat.testBit_two_pow]; simp; omega
        simp [z1]
  rw [key, IntKind.wrap_u64]
  omega
/-- The sign of a float, by its bits. -/
def sgW (n : Nat) : Bool := decide (n / 9223372036854775808 % 2 = 1)
/-- The exponent's bits. -/
def fdW (n : Nat) : Nat := n / 4503599627370496 % 2048
/-- The fraction's bits. -/
def frW (n : Nat) : Nat := n % 4503599627370496
/-- The parts of a float, by its bits: its kind, whether it is below nought, m and e. -/
def splW (n : Nat) : Int × Bool × Int × Int :=
  if fdW n = 2047 then (if frW n = 0 then (3, sgW n, 0, 0) else (4, false, 0, 0))
  else if fdW n = 0 then (if frW n = 0 then (0, sgW n, 0, 0) else (1, sgW n, (frW n : Int), -1074))
  else (2, sgW n, (frW n : Int) + 4503599627370496, (fdW n : Int) - 1 - 1074)
/-- There is a float of these parts. -/
def OkW (p : Int × Bool × Int × Int) : Prop :=
  (p.1 = 0 ∧ p.2.2.1 = 0 ∧ p.2.2.2 = 0) ∨ (p.1 = 1 ∧ 0 < p.2.2.1 ∧ p.2.2.1 < 4503599627370496 ∧ p.2.2.2 = -1074) ∨
  (p.1 = 2 ∧ 4503599627370496 ≤ p.2.2.1 ∧ p.2.2.1 < 9007199254740992 ∧ -1074 ≤ p.2.2.2 ∧ p.2.2.2 ≤ 971) ∨
  (p.1 = 3 ∧ p.2.2.1 = 0 ∧ p.2.2.2 = 0) ∨ (p.1 = 4 ∧ p.2.1 = false ∧ p.2.2.1 = 0 ∧ p.2.2.2 = 0)
/-- Its bits. -/
def pckW (p : Int × Bool × Int × Int) : Int :=
  (if p.1 = 1 then p.2.2.1 else if p.1 = 2 then (p.2.2.2 + 1075) * 4503599627370496 + (p.2.2.1 - 4503599627370496) else if p.1 = 3 then 9218868437227405312 else if p.1 = 4 then 9221120237041090560 else 0) + (if p.2.1 = true then 9223372036854775808 else 0)
theorem splW_ok (n : Nat) : OkW (splW n) := by
  have h1 : fdW n < 2048 := Nat.mod_lt _ (by decide)
  have h2 : frW n < 4503599627370496 := Nat.mod_lt _ (by decide)
  unfold splW OkW
  split
  · split <;> simp
  · split
    · split
      · simp
      · simp; omega
    · simp; omega
theorem pckW_bd {p : Int × Bool × Int × Int} (h : OkW p) : 0 ≤ pckW p ∧ pckW p < 18446744073709551616 := by
  obtain ⟨k, g, m, e⟩ := p
  unfold OkW at h
  unfold pckW
  simp only at h ⊢
  cases g <;> rcases h with ⟨rfl, h⟩ | ⟨rfl, h⟩ | ⟨rfl, h⟩ | ⟨rfl, h⟩ | ⟨rfl, h⟩ <;> simp at h ⊢ <;> omega
theorem splW_pck {p : Int × Bool × Int × Int} (h : OkW p) : splW (pckW p).toNat = p := by
  have hb := pckW_bd h
  obtain ⟨N, hN⟩ := Int.eq_ofNat_of_zero_le hb.1
  rw [hN, Int.toNat_natCast]
  obtain ⟨k, g, m, e⟩ := p
  unfold OkW at h
  unfold pckW at hN
  simp only at h hN
  cases g <;> rcases h with ⟨rfl, h⟩ | ⟨rfl, h⟩ | ⟨rfl, h⟩ | ⟨rfl, h⟩ | ⟨rfl, h⟩ <;> simp at h hN
  all_goals
    have s : sgW N = false ∨ sgW N = true := by cases sgW N <;> simp
    rcases s with s | s <;> have s' := s <;> unfold sgW at s' <;> simp only [decide_eq_false_iff_not, decide_eq_true_eq] at s'
  all_goals
    first
    | (exfalso; omega)
    | (unfold splW
       rw [s]
       unfold fdW frW
       repeat' split
       all_goals first
         | (exfalso; omega)
         | (simp only [Prod.mk.injEq, true_and]; omega))
theorem hgW (n : Nat) (h : n < 18446744073709551616) : (bits .and .u64 (n : Int) 9223372036854775808 != 0) = sgW n := by
  have e := bits_and_u64_nat n 9223372036854775808 h (by decide)
  rw [show ((9223372036854775808 : Nat) : Int) = 9223372036854775808 from rfl] at e
  rw [e]
  have a := and63 n 63 9223372036854775808 (by decide)
  unfold sgW
  rw [Bool.eq_iff_iff, decide_eq_true_iff, ← a, bne_iff_ne]
  omega
theorem hg2W (n : Nat) (h : n < 18446744073709551616) : (bits .and .u64 ((n : Int) / 9223372036854775808) 1 == 1) = sgW n := by
  have e := bits_and_u64_nat (n / 9223372036854775808) 1 (by omega) (by decide)
  rw [show (((n / 9223372036854775808 : Nat)) : Int) = (n : Int) / 9223372036854775808 from by simp, show ((1 : Nat) : Int) = 1 from rfl, Nat.and_one_is_mod] at e
  rw [e]
  unfold sgW
  rw [Bool.eq_iff_iff, decide_eq_true_iff, beq_iff_eq]
  omega
theorem hdW (n : Nat) (h : n < 18446744073709551616) : bits .and .u64 ((n : Int) / 4503599627370496) 2047 = (fdW n : Int) := by
  have e := bits_and_u64_nat (n / 4503599627370496) 2047 (by omega) (by decide)
  rw [show (((n / 4503599627370496 : Nat)) : Int) = (n : Int) / 4503599627370496 from by simp, show ((2047 : Nat) : Int) = 2047 from rfl, show (2047 : Nat) = 2 ^ 11 - 1 from rfl, Nat.and_two_pow_sub_one_eq_mod] at e
  exact e
theorem hfW (n : Nat) (h : n < 18446744073709551616) : bits .and .u64 (n : Int) 4503599627370495 = (frW n : Int) := by
  have e := bits_and_u64_nat n 4503599627370495 h (by decide)
  rw [show ((4503599627370495 : Nat) : Int) = 4503599627370495 from rfl, show (4503599627370495 : Nat) = 2 ^ 52 - 1 from rfl, Nat.and_two_pow_sub_one_eq_mod] at e
  exact e
theorem horW (f : Nat) (h : f < 4503599627370496) : bits .or .u64 (f : Int) 4503599627370496 = (f : Int) + 4503599627370496 := by
  have e := bits_or_u64_nat f 4503599627370496 (by omega) (by decide)
  rw [show ((4503599627370496 : Nat) : Int) = 4503599627370496 from rfl, or_low f 52 4503599627370496 (by decide) h] at e
  rw [e]; omega
theorem hsgW (f : Nat) (h : f < 9223372036854775808) : bits .or .u64 (f : Int) 9223372036854775808 = (f : Int) + 9223372036854775808 := by
  have e := bits_or_u64_nat f 9223372036854775808 (by omega) (by decide)
  rw [show ((9223372036854775808 : Nat) : Int) = 9223372036854775808 from rfl, or_low f 63 9223372036854775808 (by decide) h] at e
  rw [e]; omega
/-- The bits of a normal one, put together. -/
theorem hpkW (d f : Nat) (hd : d < 2048) (h : f < 4503599627370496) : bits .or .u64 ((d : Int) * 4503599627370496) (f : Int) = (d : Int) * 4503599627370496 + (f : Int) := by
  have e := bits_or_u64_nat (4503599627370496 * d) f (by omega) (by omega)
  rw [or_high d f 52 4503599627370496 (by decide) h] at e
  rw [show (d : Int) * 4503599627370496 = ((4503599627370496 * d : Nat) : Int) from by omega, e]
  omega
/-- The sign of a small float, by its bits. -/
def sgS (n : Nat) : Bool := decide (n / 2147483648 % 2 = 1)
/-- The exponent's bits. -/
def fdS (n : Nat) : Nat := n / 8388608 % 256
/-- The fraction's bits. -/
def frS (n : Nat) : Nat := n % 8388608
/-- The parts of a small float, by its bits: its kind, whether it is below nought, m and e. -/
def splS (n : Nat) : Int × Bool × Int × Int :=
  if fdS n = 255 then (if frS n = 0 then (3, sgS n, 0, 0) else (4, false, 0, 0))
  else if fdS n = 0 then (if frS n = 0 then (0, sgS n, 0, 0) else (1, sgS n, (frS n : Int), -149))
  else (2, sgS n, (frS n : Int) + 8388608, (fdS n : Int) - 1 - 149)
/-- There is a small float of these parts. -/
def OkS (p : Int × Bool × Int × Int) : Prop :=
  (p.1 = 0 ∧ p.2.2.1 = 0 ∧ p.2.2.2 = 0) ∨ (p.1 = 1 ∧ 0 < p.2.2.1 ∧ p.2.2.1 < 8388608 ∧ p.2.2.2 = -149) ∨
  (p.1 = 2 ∧ 8388608 ≤ p.2.2.1 ∧ p.2.2.1 < 16777216 ∧ -149 ≤ p.2.2.2 ∧ p.2.2.2 ≤ 104) ∨
  (p.1 = 3 ∧ p.2.2.1 = 0 ∧ p.2.2.2 = 0) ∨ (p.1 = 4 ∧ p.2.1 = false ∧ p.2.2.1 = 0 ∧ p.2.2.2 = 0)
/-- Its bits. -/
def pckS (p : Int × Bool × Int × Int) : Int :=
  (if p.1 = 1 then p.2.2.1 else if p.1 = 2 then (p.2.2.2 + 150) * 8388608 + (p.2.2.1 - 8388608) else if p.1 = 3 then 2139095040 else if p.1 = 4 then 2143289344 else 0) + (if p.2.1 = true then 2147483648 else 0)
theorem splS_ok (n : Nat) : OkS (splS n) := by
  have h1 : fdS n < 256 := Nat.mod_lt _ (by decide)
  have h2 : frS n < 8388608 := Nat.mod_lt _ (by decide)
  unfold splS OkS
  split
  · split <;> simp
  · split
    · split
      · simp
      · simp; omega
    · simp; omega
theorem pckS_bd {p : Int × Bool × Int × Int} (h : OkS p) : 0 ≤ pckS p ∧ pckS p < 4294967296 := by
  obtain ⟨k, g, m, e⟩ := p
  unfold OkS at h
  unfold pckS
  simp only at h ⊢
  cases g <;> rcases h with ⟨rfl, h⟩ | ⟨rfl, h⟩ | ⟨rfl, h⟩ | ⟨rfl, h⟩ | ⟨rfl, h⟩ <;> simp at h ⊢ <;> omega
theorem splS_pck {p : Int × Bool × Int × Int} (h : OkS p) : splS (pckS p).toNat = p := by
  have hb := pckS_bd h
  obtain ⟨N, hN⟩ := Int.eq_ofNat_of_zero_le hb.1
  rw [hN, Int.toNat_natCast]
  obtain ⟨k, g, m, e⟩ := p
  unfold OkS at h
  unfold pckS at hN
  simp only at h hN
  cases g <;> rcases h with ⟨rfl, h⟩ | ⟨rfl, h⟩ | ⟨rfl, h⟩ | ⟨rfl, h⟩ | ⟨rfl, h⟩ <;> simp at h hN
  all_goals
    have s : sgS N = false ∨ sgS N = true := by cases sgS N <;> simp
    rcases s with s | s <;> have s' := s <;> unfold sgS at s' <;> simp only [decide_eq_false_iff_not, decide_eq_true_eq] at s'
  all_goals
    first
    | (exfalso; omega)
    | (unfold splS
       rw [s]
       unfold fdS frS
       repeat' split
       all_goals first
         | (exfalso; omega)
         | (simp only [Prod.mk.injEq, true_and]; omega))
theorem hgS (n : Nat) (h : n < 18446744073709551616) : (bits .and .u64 (n : Int) 2147483648 != 0) = sgS n := by
  have e := bits_and_u64_nat n 2147483648 h (by decide)
  rw [show ((2147483648 : Nat) : Int) = 2147483648 from rfl] at e
  rw [e]
  have a := and63 n 31 2147483648 (by decide)
  unfold sgS
  rw [Bool.eq_iff_iff, decide_eq_true_iff, ← a, bne_iff_ne]
  omega
theorem hg2S (n : Nat) (h : n < 18446744073709551616) : (bits .and .u64 ((n : Int) / 2147483648) 1 == 1) = sgS n := by
  have e := bits_and_u64_nat (n / 2147483648) 1 (by omega) (by decide)
  rw [show (((n / 2147483648 : Nat)) : Int) = (n : Int) / 2147483648 from by simp, show ((1 : Nat) : Int) = 1 from rfl, Nat.and_one_is_mod] at e
  rw [e]
  unfold sgS
  rw [Bool.eq_iff_iff, decide_eq_true_iff, beq_iff_eq]
  omega
theorem hdS (n : Nat) (h : n < 18446744073709551616) : bits .and .u64 ((n : Int) / 8388608) 255 = (fdS n : Int) := by
  have e := bits_and_u64_nat (n / 8388608) 255 (by omega) (by decide)
  rw [show (((n / 8388608 : Nat)) : Int) = (n : Int) / 8388608 from by simp, show ((255 : Nat) : Int) = 255 from rfl, show (255 : Nat) = 2 ^ 8 - 1 from rfl, Nat.and_two_pow_sub_one_eq_mod] at e
  exact e
theorem hfS (n : Nat) (h : n < 18446744073709551616) : bits .and .u64 (n : Int) 8388607 = (frS n : Int) := by
  have e := bits_and_u64_nat n 8388607 h (by decide)
  rw [show ((8388607 : Nat) : Int) = 8388607 from rfl, show (8388607 : Nat) = 2 ^ 23 - 1 from rfl, Nat.and_two_pow_sub_one_eq_mod] at e
  exact e
theorem horS (f : Nat) (h : f < 8388608) : bits .or .u64 (f : Int) 8388608 = (f : Int) + 8388608 := by
  have e := bits_or_u64_nat f 8388608 (by omega) (by decide)
  rw [show ((8388608 : Nat) : Int) = 8388608 from rfl, or_low f 23 8388608 (by decide) h] at e
  rw [e]; omega
theorem hsgS (f : Nat) (h : f < 2147483648) : bits .or .u64 (f : Int) 2147483648 = (f : Int) + 2147483648 := by
  have e := bits_or_u64_nat f 2147483648 (by omega) (by decide)
  rw [show ((2147483648 : Nat) : Int) = 2147483648 from rfl, or_low f 31 2147483648 (by decide) h] at e
  rw [e]; omega
/-- The bits of a normal one, put together. -/
theorem hpkS (d f : Nat) (hd : d < 256) (h : f < 8388608) : bits .or .u64 ((d : Int) * 8388608) (f : Int) = (d : Int) * 8388608 + (f : Int) := by
  have e := bits_or_u64_nat (8388608 * d) f (by omega) (by omega)
  rw [or_high d f 23 8388608 (by decide) h] at e
  rw [show (d : Int) * 8388608 = ((8388608 * d : Nat) : Int) from by omega, e]
  omega
end Tn
