import Derived.Test.YtfalncbcomlelaaGreatDoorSmall
import Derived.Test.YtfalncbcomlelaaGreatDoorM2
namespace Go.Proofs.YtfalncbcomlelaaGreatDoor
open Go.RowKit Tn

theorem wrap_u64 (x : Int) : IntKind.u64.wrap x = x % 18446744073709551616 := by simp [IntKind.wrap, IntKind.bits, IntKind.signed]
theorem and32 (x : Int) (h0 : 0 ≤ x) (h1 : x < 18446744073709551616) : bits .and .u64 x 4294967295 = x % 4294967296 := by
  rw [u64_and x 4294967295 h0 h1 (by decide) (by decide)]
  obtain ⟨n, rfl⟩ := Int.eq_ofNat_of_zero_le h0
  have := Nat.and_two_pow_sub_one_eq_mod n 32
  simp only [Int.toNat_natCast]
  have e : (4294967295 : Int).toNat = 2 ^ 32 - 1 := rfl
  rw [e, this]; rfl
theorem two_pos (s : Nat) : (0 : Int) < 2 ^ s := Int.pow_pos (by decide)
theorem or_shift (s : Nat) (a b : Int) (a0 : 0 ≤ a) (a1 : a * 2 ^ s < 18446744073709551616) (b0 : 0 ≤ b) (b1 : b < 2 ^ s) (b2 : b < 18446744073709551616) : bits .or .u64 (a * 2 ^ s) b = a * 2 ^ s + b := by
  have p := two_pos s
  rw [u64_or _ _ (Int.mul_nonneg a0 (Int.le_of_lt p)) a1 b0 b2]
  obtain ⟨m, rfl⟩ := Int.eq_ofNat_of_zero_le a0
  obtain ⟨n, rfl⟩ := Int.eq_ofNat_of_zero_le b0
  have h : n < 2 ^ s := by
    have h3 : ((n : Nat) : Int) < ((2 ^ s : Nat) : Int) := by rw [Int.natCast_pow]; exact b1
    exact Int.ofNat_lt.1 h3
  have e := Nat.two_pow_add_eq_or_of_lt h m
  have e1 : ((m : Int) * 2 ^ s).toNat = 2 ^ s * m := by
    have : (m : Int) * 2 ^ s = ((2 ^ s * m : Nat) : Int) := by rw [Int.natCast_mul, Int.natCast_pow, Int.mul_comm]; rfl
    rw [this]; rfl
  rw [e1, Int.toNat_natCast, ← e, Int.natCast_add, Int.natCast_mul, Int.natCast_pow, Int.mul_comm]; rfl
theorem pow_split {s : Nat} (h : s ≤ 64) : (2 : Int) ^ s * 2 ^ (64 - s) = 18446744073709551616 := by
  rw [← Int.pow_add, Nat.add_sub_cancel' h]; rfl
/-- What is shifted out of a word at its top. -/
theorem shift_out (lo : Int) (s : Nat) (h : s ≤ 64) : lo * 2 ^ s / 18446744073709551616 = lo / 2 ^ (64 - s) := by
  rw [← pow_split h, Int.mul_comm lo, Int.mul_ediv_mul_of_pos _ _ (two_pos s)]
theorem shift_out_lt (lo : Int) (s : Nat) (h : s ≤ 64) (l0 : 0 ≤ lo) (l1 : lo < 18446744073709551616) : 0 ≤ lo / 2 ^ (64 - s) ∧ lo / 2 ^ (64 - s) < 2 ^ s := by
  refine ⟨Int.ediv_nonneg l0 (Int.le_of_lt (two_pos _)), ?_⟩
  refine Int.ediv_lt_of_lt_mul (two_pos _) ?_
  rw [pow_split h]; exact l1
/-- The divisor, shifted so that its first bit is set. -/
theorem norm_bd (y : Int) (s : Nat) (y0 : 0 < y) (y1 : y < 18446744073709551616) (hs : (s : Int) = 64 - (Lib.bitLen y.toNat : Int)) : s ≤ 63 ∧ 9223372036854775808 ≤ y * 2 ^ s ∧ y * 2 ^ s < 18446744073709551616 := by
  have hb := bitLen_bd y y0 y1
  have h1 : s = 64 - Lib.bitLen y.toNat := by omega
  have p := two_pos s
  refine ⟨by omega, ?_, ?_⟩
  · have := Int.mul_le_mul_of_nonneg_right hb.2.2.1 (Int.le_of_lt p)
    rw [← Int.pow_add, show Lib.bitLen y.toNat - 1 + s = 63 from by omega] at this
    exact this
  · have := Int.mul_lt_mul_of_pos_right hb.2.2.2 p
    rw [← Int.pow_add, show Lib.bitLen y.toNat + s = 64 from by omega] at this
    exact this

/-- One digit of the quotient: its guess g by the first digit, and what that leaves. -/
structure Est (b v1 v0 uh u0 g r : Int) : Prop where
  sum : g * v1 + r = uh
  ge : (uh * b + u0) / (v1 * b + v0) ≤ g
  r0 : 0 ≤ r
  r1 : r < b
  g0 : 0 ≤ g
  g1 : g ≤ b + 1
theorem Est.start {b v1 v0 uh u0 : Int} (hb : b = 4294967296) (h1 : 2147483648 ≤ v1) (h1' : v1 < b) (hv0 : 0 ≤ v0) (hv0' : v0 < b) (hu : 0 ≤ u0) (hu0 : u0 < b) (hh : 0 ≤ uh) (hlt : uh < v1 * b + v0) : Est b v1 v0 uh u0 (uh / v1) (uh - uh / v1 * v1) := by
  have hv : 0 < v1 * b + v0 := by have := Int.mul_nonneg (show 0 ≤ v1 by omega) (show 0 ≤ b by omega); have := Int.mul_le_mul_of_nonneg_right (show 1 ≤ v1 by omega) (show 0 ≤ b by omega); omega
  have e := Int.emod_add_mul_ediv uh v1
  have m0 := Int.emod_nonneg uh (show v1 ≠ 0 by omega)
  have m1 := Int.emod_lt_of_pos uh (show 0 < v1 by omega)
  have c : uh / v1 * v1 = v1 * (uh / v1) := Int.mul_comm _ _
  refine ⟨by omega, ?_, by omega, by omega, Int.ediv_nonneg hh (by omega), ?_⟩
  · refine est_start (by omega) (by omega) hv0 hu0 (Int.ediv_nonneg (by have := Int.mul_nonneg hh (show 0 ≤ b by omega); omega) (by omega)) ?_
    exact quo_le hv
  · have h3 : uh / v1 < b + 2 := by
      refine Int.ediv_lt_of_lt_mul (by omega) ?_
      have : (b + 2) * v1 = v1 * b + 2 * v1 := by grind
      omega
    omega
theorem Est.down {b v1 v0 uh u0 g r : Int} (h : Est b v1 v0 uh u0 g r) (hb : b = 4294967296) (h1 : 2147483648 ≤ v1) (h1' : v1 < b) (hv0 : 0 ≤ v0) (hu0 : 0 ≤ u0) (hh : uh < v1 * b + v0) (hlt' : u0 < b) (hc : b ≤ g ∨ b * r + u0 < g * v0) :
    (uh * b + u0) / (v1 * b + v0) ≤ g - 1 ∧ (g - 1) * v1 + (r + v1) = uh ∧ 1 ≤ g := by
  have hv : 0 < v1 * b + v0 := by have := Int.mul_le_mul_of_nonneg_right (show 1 ≤ v1 by omega) (show 0 ≤ b by omega); omega
  have hge : (uh * b + u0) / (v1 * b + v0) ≤ g - 1 := by
    rcases hc with hc | hc
    · have : (uh * b + u0) / (v1 * b + v0) < b := by
        refine Int.ediv_lt_of_lt_mul hv ?_
        have := Int.mul_le_mul_of_nonneg_right (show uh + 1 ≤ v1 * b + v0 by omega) (show 0 ≤ b by omega)
        grind
      omega
    · exact est_down hv h.sum (quo_le hv) hc
  have hq : 0 ≤ (uh * b + u0) / (v1 * b + v0) := by
    have hu : 0 ≤ uh := by have := h.sum; have := Int.mul_nonneg h.g0 (show 0 ≤ v1 by omega); have := h.r0; omega
    exact Int.ediv_nonneg (by have := Int.mul_nonneg hu (show 0 ≤ b by omega); omega) (by omega)
  refine ⟨hge, by have := h.sum; grind, by omega⟩
theorem Est.next {b v1 v0 uh u0 g r : Int} (h : Est b v1 v0 uh u0 g r) (hd : (uh * b + u0) / (v1 * b + v0) ≤ g - 1 ∧ (g - 1) * v1 + (r + v1) = uh ∧ 1 ≤ g) (h1 : 0 ≤ v1) (hr : r + v1 < b) : Est b v1 v0 uh u0 (g - 1) (r + v1) :=
  ⟨hd.2.1, hd.1, by have := h.r0; omega, hr, by omega, by have := h.g1; omega⟩
theorem Est.isBrk {b v1 v0 uh u0 g r : Int} (h : Est b v1 v0 uh u0 g r) (hd : (uh * b + u0) / (v1 * b + v0) ≤ g - 1 ∧ (g - 1) * v1 + (r + v1) = uh ∧ 1 ≤ g) (hb : b = 4294967296) (h1 : 2147483648 ≤ v1) (hv0 : 0 ≤ v0) (hv0' : v0 < b) (hu0 : 0 ≤ u0) (hr : b ≤ r + v1) : g - 1 = (uh * b + u0) / (v1 * b + v0) := by
  have hv : 0 < v1 * b + v0 := by have := Int.mul_le_mul_of_nonneg_right (show 1 ≤ v1 by omega) (show 0 ≤ b by omega); omega
  refine quo_of hv rfl hd.1 (est_fits hd.2.1 ?_)
  have a1 := Int.mul_le_mul_of_nonneg_left (show v0 ≤ b - 1 by omega) (show 0 ≤ g - 1 by omega)
  have a2 := Int.mul_le_mul_of_nonneg_right (show g - 1 ≤ b by have := h.g1; omega) (show 0 ≤ b - 1 by omega)
  have a3 := Int.mul_le_mul_of_nonneg_left hr (show 0 ≤ b by omega)
  have : b * (b - 1) = b * b - b := by grind
  omega
theorem Est.done {b v1 v0 uh u0 g r : Int} (h : Est b v1 v0 uh u0 g r) (hb : 0 < b) (h1 : 0 < v1) (hv0 : 0 ≤ v0) (hc : g * v0 ≤ b * r + u0) : g = (uh * b + u0) / (v1 * b + v0) := by
  have hv : 0 < v1 * b + v0 := by have := Int.mul_le_mul_of_nonneg_right (show 1 ≤ v1 by omega) (show 0 ≤ b by omega); omega
  exact quo_of hv rfl h.ge (est_fits h.sum hc)
end Go.Proofs.YtfalncbcomlelaaGreatDoor
