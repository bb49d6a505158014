import Derived.WalkKit
import Derived.WalkLawsBesides
namespace Tn
open Go

theorem fmt64 : FloatKind.f64.format = Ieee.double := rfl
/-- The sign bit, as a test. -/
def ng64 (n : Nat) : Bool := n / 9223372036854775808 % 2 == 1
/-- The bits below it. -/
def rg64 (n : Nat) : Nat := n % 9223372036854775808
theorem read64 (n : Nat) : Ieee.double.read n = if rg64 n < 4503599627370496 then .number (ng64 n) (rg64 n) (-1074)
    else if rg64 n < 9218868437227405312 then .number (ng64 n) (4503599627370496 + rg64 n % 4503599627370496) (-1074 + ((rg64 n / 4503599627370496 - 1 : Nat) : Int))
    else if rg64 n = 9218868437227405312 then .infinity (ng64 n) else .nan (ng64 n) (rg64 n - 9218868437227405312) := rfl
/-- It is none. -/
def nan64 (n : Nat) : Bool := decide (9218868437227405312 < rg64 n)
theorem order_self (n : Nat) : (FloatKind.f64.format.order n n != some .eq) = nan64 n := by
  rw [fmt64]
  unfold Ieee.Format.order nan64
  rw [read64]
  split
  · have e : decide (9218868437227405312 < rg64 n) = false := by rw [decide_eq_false_iff_not]; omega
    rw [e]; simp [Ieee.Datum.order]
  · split
    · have e : decide (9218868437227405312 < rg64 n) = false := by rw [decide_eq_false_iff_not]; omega
      rw [e]; simp [Ieee.Datum.order]
    · split
      · have e : decide (9218868437227405312 < rg64 n) = false := by rw [decide_eq_false_iff_not]; omega
        rw [e]; simp [Ieee.Datum.order]
      · have e : decide (9218868437227405312 < rg64 n) = true := by rw [decide_eq_true_eq]; omega
        rw [e]; simp [Ieee.Datum.order]
theorem cmp_int (a b : Int) : compare a b = if a < b then .lt else if a = b then .eq else .gt := rfl
theorem cmp_zero (s : Bool) (m k : Nat) : compare (Ieee.signed s m k) (Ieee.signed false 0 0) = if m = 0 then .eq else if s = true then .lt else .gt := by
  have hp : 0 < m → 0 < m <<< k := by intro h; rw [Nat.shiftLeft_eq]; exact Nat.mul_pos h (Nat.two_pow_pos k)
  unfold Ieee.signed
  by_cases hm : m = 0
  · subst hm; cases s <;> simp [Nat.zero_shiftLeft]
  · have := hp (by omega)
    generalize m <<< k = x at this
    rw [cmp_int, Nat.zero_shiftLeft]
    cases s
    · rw [if_neg (by simp), if_neg (by simp; omega), if_neg hm, if_neg (by simp)]
    · rw [if_pos (by simp; omega), if_neg hm, if_pos rfl]
theorem order_0 (n : Nat) (h : nan64 n = false) : FloatKind.f64.format.order n 0 = some (if rg64 n = 0 then .eq else if ng64 n = true then .lt else .gt) := by
  rw [fmt64]
  unfold Ieee.Format.order
  simp only [nan64, decide_eq_false_iff_not] at h
  rw [show Ieee.double.read 0 = .number false 0 (-1074) from rfl, read64 n]
  split
  · simp only [Ieee.Datum.order]
    rw [show min (-1074 : Int) (-1074) = -1074 from rfl, show ((-1074 : Int) - -1074).toNat = 0 from rfl, cmp_zero]
  · split
    · simp only [Ieee.Datum.order]
      rw [show ∀ x : Nat, min (-1074 + (x : Int)) (-1074) = -1074 from fun x => by omega, show ((-1074 : Int) - -1074).toNat = 0 from rfl, cmp_zero]
      simp only [show ¬ (4503599627370496 + rg64 n % 4503599627370496 = 0) from by omega, show ¬ (rg64 n = 0) from by omega, if_false]
    · split
      · simp only [Ieee.Datum.order, show ¬ (rg64 n = 0) from by omega, if_false]
      · exfalso; omega
theorem order_max (n : Nat) (h : nan64 n = false) : (FloatKind.f64.format.order n 9218868437227405311 == some .gt) = decide (n % 18446744073709551616 = 9218868437227405312) := by
  rw [fmt64]
  unfold Ieee.Format.order
  simp only [nan64, decide_eq_false_iff_not] at h
  rw [show Ieee.double.read 9218868437227405311 = .number false 9007199254740991 971 from rfl, read64 n]
  have key : ∀ (s : Bool) (m : Nat) (i : Int), m ≤ 9007199254740991 → i ≤ 971 → compare (Ieee.signed s m (i - min i 971).toNat) (Ieee.signed false 9007199254740991 (971 - min i 971).toNat) ≠ .gt := by
    intro s m i hm hi
    rw [show min i 971 = i from by omega, show (i - i).toNat = 0 from by omega]
    have hp : 9007199254740991 ≤ 9007199254740991 <<< (971 - i).toNat := by rw [Nat.shiftLeft_eq]; exact Nat.le_mul_of_pos_right _ (Nat.two_pow_pos _)
    unfold Ieee.signed
    generalize 9007199254740991 <<< (971 - i).toNat = y at hp
    rw [Nat.shiftLeft_zero, cmp_int, if_neg (show ¬ (false = true) by simp)]
    cases s
    · rw [if_neg (show ¬ (false = true) by simp)]
      split
      · simp
      · split
        · simp
        · exfalso; omega
    · rw [if_pos rfl]
      split
      · simp
      · split
        · simp
        · exfalso; omega
  have sn : rg64 n = n % 9223372036854775808 := rfl
  split
  · have e : decide (n % 18446744073709551616 = 9218868437227405312) = false := by rw [decide_eq_false_iff_not]; omega
    rw [e]
    have k := key (ng64 n) (rg64 n) (-1074) (by omega) (by omega)
    simpa [Ieee.Datum.order] using k
  · split
    · have e : decide (n % 18446744073709551616 = 9218868437227405312) = false := by rw [decide_eq_false_iff_not]; omega
      rw [e]
      have k := key (ng64 n) (4503599627370496 + rg64 n % 4503599627370496) (-1074 + ((rg64 n / 4503599627370496 - 1 : Nat) : Int)) (by omega) (by omega)
      simpa [Ieee.Datum.order] using k
    · split
      · simp only [Ieee.Datum.order]
        have g : ng64 n = (n / 9223372036854775808 % 2 == 1) := rfl
        cases hg : ng64 n
        · rw [hg] at g
          have e : decide (n % 18446744073709551616 = 9218868437227405312) = true := by
            rw [decide_eq_true_eq]
            have := g.symm
            simp at this
            omega
          rw [e]; rfl
        · rw [hg] at g
          have e : decide (n % 18446744073709551616 = 9218868437227405312) = false := by
            rw [decide_eq_false_iff_not]
            have := g.symm
            simp at this
            omega
          rw [e]; rfl
      · exfalso; omega
end Tn
