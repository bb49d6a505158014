
namespace Tn
theorem est_start {b v1 v0 uh u0 q : Int} (hb : 0 < b) (h1 : 0 < v1) (hv0 : 0 ≤ v0) (hu0 : u0 < b) (hq : 0 ≤ q) (h : q * (v1 * b + v0) ≤ uh * b + u0) : q ≤ uh / v1 := by
  have e1 : q * (v1 * b + v0) = q * v1 * b + q * v0 := by grind
  have h2 : 0 ≤ q * v0 := Int.mul_nonneg hq hv0
  have h3 : q * v1 * b < (uh + 1) * b := by
    have : (uh + 1) * b = uh * b + b := by grind
    omega
  have h4 : q * v1 < uh + 1 := Int.lt_of_mul_lt_mul_right h3 (Int.le_of_lt hb)
  exact (Int.le_ediv_iff_mul_le h1).2 (by omega)
theorem est_down {b v1 v0 uh u0 q g r : Int} (hv : 0 < v1 * b + v0) (hr : g * v1 + r = uh) (h : q * (v1 * b + v0) ≤ uh * b + u0) (hc : b * r + u0 < g * v0) : q ≤ g - 1 := by
  have e : g * (v1 * b + v0) = g * v1 * b + g * v0 := by grind
  have e2 : uh * b = g * v1 * b + r * b := by rw [← hr]; grind
  have e3 : r * b = b * r := Int.mul_comm _ _
  have h1 : q * (v1 * b + v0) < g * (v1 * b + v0) := by omega
  have := Int.lt_of_mul_lt_mul_right h1 (Int.le_of_lt hv)
  omega
theorem est_fits {b v1 v0 uh u0 g r : Int} (hr : g * v1 + r = uh) (hc : g * v0 ≤ b * r + u0) : g * (v1 * b + v0) ≤ uh * b + u0 := by
  have e : g * (v1 * b + v0) = g * v1 * b + g * v0 := by grind
  have e2 : uh * b = g * v1 * b + r * b := by rw [← hr]; grind
  have e3 : r * b = b * r := Int.mul_comm _ _
  omega
theorem quo_of {U v g q : Int} (hv : 0 < v) (h1 : q = U / v) (h2 : q ≤ g) (h3 : g * v ≤ U) : g = q := by
  have := (Int.le_ediv_iff_mul_le hv).2 h3
  omega
theorem quo_le {U v : Int} (hv : 0 < v) : (U / v) * v ≤ U := (Int.le_ediv_iff_mul_le hv).1 (Int.le_refl _)
end Tn
