import Derived.Test.YtcjlpfglnbddjaaDoorLg1
import Derived.Deep.DeepCutAuto
import Derived.Deep.CutBlock
namespace Go.Proofs.YtcjlpfglnbddjaaDoor.L
open Go.RowKit Tl

/-- m steps of 2 to the e go into N by D, and r is left. -/
structure Fl (N D e m r : Int) : Prop where
  eq : N * 2 ^ (-e).toNat = m * (D * 2 ^ e.toNat) + r
  r0 : 0 ≤ r
  r1 : r < D * 2 ^ e.toNat
theorem lt_pow {m : Int} {a b : Nat} (h : m * 2 ^ a < 2 ^ b) (hb : b ≤ a + 53) : m < 9007199254740992 := by
  have p := two_pow_pos a
  have q := two_pow_le hb
  rw [Int.pow_add, show (2 : Int) ^ 53 = 9007199254740992 from by decide, Int.mul_comm] at q
  exact Int.lt_of_mul_lt_mul_right (show m * 2 ^ a < 9007199254740992 * 2 ^ a by omega) (Int.le_of_lt p)
theorem ge_pow {m : Int} {a b : Nat} (h : 2 ^ b < (m + 1) * 2 ^ a) (hb : a + 52 ≤ b) : 4503599627370496 ≤ m := by
  have p := two_pow_pos a
  have q := two_pow_le hb
  rw [Int.pow_add, show (2 : Int) ^ 52 = 4503599627370496 from by decide, Int.mul_comm] at q
  have := Int.lt_of_mul_lt_mul_right (show 4503599627370496 * 2 ^ a < (m + 1) * 2 ^ a by omega) (Int.le_of_lt p)
  omega
theorem Fl.lt {N D e m r : Int} (h : Fl N D e m r) (hN : 0 < N) (hD : 0 < D) (m0 : 0 ≤ m) (he : (bl N : Int) - bl D - 52 ≤ e) : m < 9007199254740992 := by
  have bN := bl_pos hN
  have bD := bl_pos hD
  have h1 : m * (D * 2 ^ e.toNat) < 2 ^ (bl N + (-e).toNat) := by
    have a := Int.mul_lt_mul_of_pos_right bN.1 (two_pow_pos (-e).toNat)
    rw [← Int.pow_add] at a
    have := h.eq; have := h.r0; omega
  have h2 : m * 2 ^ (bl D - 1 + e.toNat) ≤ m * (D * 2 ^ e.toNat) := by
    refine Int.mul_le_mul_of_nonneg_left ?_ m0
    rw [Int.pow_add]
    exact Int.mul_le_mul_of_nonneg_right bD.2.2 (Int.le_of_lt (two_pow_pos _))
  exact lt_pow (Int.lt_of_le_of_lt h2 h1) (by omega)
theorem Fl.ge {N D e m r : Int} (h : Fl N D e m r) (hN : 0 < N) (hD : 0 < D) (m0 : 0 ≤ m) (he : e ≤ (bl N : Int) - bl D - 53) : 4503599627370496 ≤ m := by
  have bN := bl_pos hN
  have bD := bl_pos hD
  have h1 : 2 ^ (bl N - 1 + (-e).toNat) < (m + 1) * (D * 2 ^ e.toNat) := by
    have a := Int.mul_le_mul_of_nonneg_right bN.2.2 (Int.le_of_lt (two_pow_pos (-e).toNat))
    rw [← Int.pow_add] at a
    have := h.eq; have := h.r1
    have e1 : (m + 1) * (D * 2 ^ e.toNat) = m * (D * 2 ^ e.toNat) + D * 2 ^ e.toNat := by grind
    omega
  have h2 : (m + 1) * (D * 2 ^ e.toNat) ≤ (m + 1) * 2 ^ (bl D + e.toNat) := by
    refine Int.mul_le_mul_of_nonneg_left ?_ (by omega)
    rw [Int.pow_add]
    exact Int.mul_le_mul_of_nonneg_right (Int.le_of_lt bD.1) (Int.le_of_lt (two_pow_pos _))
  exact ge_pow (Int.lt_of_lt_of_le h1 h2) (by omega)
theorem half1 {X q m r m' r' : Int} (q0 : 0 < q) (h : X = m * q + r) (r0 : 0 ≤ r) (h' : X = m' * (q * 2) + r') (r1 : r' < q * 2) (hm : 9007199254740992 ≤ m) : 4503599627370496 ≤ m' := by
  have g1 := Int.mul_le_mul_of_nonneg_right hm (Int.le_of_lt q0)
  have e1 : m' * (q * 2) + q * 2 = (m' + 1) * 2 * q := by grind
  have := Int.lt_of_mul_lt_mul_right (show 9007199254740992 * q < (m' + 1) * 2 * q by omega) (Int.le_of_lt q0)
  omega
theorem half2 {X q m r m' r' : Int} (q0 : 0 < q) (h : X * 2 = m * q + r) (r0 : 0 ≤ r) (h' : X = m' * q + r') (r1 : r' < q) (hm : 9007199254740992 ≤ m) : 4503599627370496 ≤ m' := by
  have g1 := Int.mul_le_mul_of_nonneg_right hm (Int.le_of_lt q0)
  have e1 : (m' + 1) * 2 * q = m' * q * 2 + q * 2 := by grind
  have := Int.lt_of_mul_lt_mul_right (show 9007199254740992 * q < (m' + 1) * 2 * q by omega) (Int.le_of_lt q0)
  omega
/-- One place further up. -/
theorem Fl.half {N D e m r m' r' : Int} (h : Fl N D e m r) (h' : Fl N D (e + 1) m' r') (hD : 0 < D) (hm : 9007199254740992 ≤ m) : 4503599627370496 ≤ m' := by
  have e1 := h.eq
  have e2 := h'.eq
  have b := h'.r1
  by_cases he : 0 ≤ e
  · rw [show (-e).toNat = 0 from by omega] at e1
    rw [show (-(e + 1)).toNat = 0 from by omega, show (e + 1).toNat = e.toNat + 1 from by omega, Int.pow_succ, ← Int.mul_assoc D] at e2
    rw [show (e + 1).toNat = e.toNat + 1 from by omega, Int.pow_succ, ← Int.mul_assoc] at b
    exact half1 (Int.mul_pos hD (two_pow_pos _)) e1 h.r0 e2 b hm
  · rw [show (-e).toNat = (-(e + 1)).toNat + 1 from by omega, Int.pow_succ, ← Int.mul_assoc, show e.toNat = 0 from by omega] at e1
    rw [show (e + 1).toNat = 0 from by omega] at e2 b
    exact half2 (show 0 < D * 2 ^ 0 by simpa using hD) e1 h.r0 e2 b hm
theorem big_bl {m : Int} (h : 53 < bl m) : 9007199254740992 ≤ m := by
  by_cases c : 0 < m
  · have b := bl_pos c
    have := two_pow_le (show 53 ≤ bl m - 1 by omega)
    have e : (2 : Int) ^ 53 = 9007199254740992 := by decide
    omega
  · unfold bl at h; rw [if_pos (by omega)] at h; omega
theorem not_big {m : Int} (h0 : 0 ≤ m) (h : ¬ 53 < bl m) : m < 9007199254740992 := by
  by_cases c : 0 < m
  · have b := bl_pos c
    have := two_pow_le (show bl m ≤ 53 by omega)
    have e : (2 : Int) ^ 53 = 9007199254740992 := by decide
    omega
  · omega
end Go.Proofs.YtcjlpfglnbddjaaDoor.L
