import Derived.Test.YthadighbhdekdaaDoorB4
namespace Go.Proofs.YthadighbhdekdaaDoor.L
open Go.RowKit Tl

theorem take_zero (n k : Nat) : val ((List.replicate n (0 : Int)).take k) = 0 := by
  rw [List.take_replicate]
  generalize min k n = m
  induction m with
  | zero => rfl
  | succ m ih => rw [List.replicate_succ]; simp [val, ih]
theorem wrap_self (x : Int) (h0 : -9223372036854775808 ≤ x) (h1 : x < 9223372036854775808) : IntKind.i64.wrap x = x := by
  simp [IntKind.wrap, IntKind.bits, IntKind.signed]; omega
theorem shl_step {X xs : List Int} {q k r : Nat} {cy P S : Int} (hX : Wd X) (hk : k + q < X.length) (hP : P = nth xs k * 2 ^ r) (hS : S = cy + P) (b0 : 0 ≤ nth xs k) (b1 : nth xs k < 1073741824) (c0 : 0 ≤ cy) (c1 : cy < 2 ^ r) (hp0 : (0 : Int) < 2 ^ r)
    (hv : val (X.take (q + k)) + pw (q + k) * cy = pw q * 2 ^ r * val (xs.take k)) :
    Wd (X.set (k + q) (S % 1073741824)) ∧ val ((X.set (k + q) (S % 1073741824)).take (q + (k + 1))) + pw (q + (k + 1)) * (S / 1073741824) = pw q * 2 ^ r * val (xs.take (k + 1)) ∧ 0 ≤ S / 1073741824 ∧ S / 1073741824 < 2 ^ r := by
  have P0 : 0 ≤ P := by rw [hP]; exact Int.mul_nonneg b0 (Int.le_of_lt hp0)
  have P1 : P ≤ 1073741823 * 2 ^ r := by rw [hP]; exact Int.mul_le_mul_of_nonneg_right (by omega) (Int.le_of_lt hp0)
  refine ⟨hX.set _ (by omega) (by omega), ?_, by omega, by omega⟩
  rw [show q + (k + 1) = k + q + 1 from by omega, (Part.refl hX (k + q)).val hk, val_more xs k]
  have e : S = S % 1073741824 + 1073741824 * (S / 1073741824) := by omega
  rw [show q + k = k + q from by omega] at hv
  have e2 : pw (k + q) = pw q * pw k := by rw [Nat.add_comm, pw_add]
  simp only [pw]
  generalize S % 1073741824 = a at *
  generalize S / 1073741824 = b at *
  generalize (2 : Int) ^ r = t at *
  rw [e2] at hv ⊢
  grind
theorem shl_end {X xs : List Int} {n q r : Nat} {cy : Int} (hX : Wd X) (hl : X.length = xs.length + q + 1) (c0 : 0 ≤ cy) (c1 : cy < 2 ^ r) (hp : (2 : Int) ^ r ≤ 536870912) (hq : (n : Int) / 30 = q) (hr : (n : Int) % 30 = r)
    (hv : val (X.take (q + xs.length)) + pw (q + xs.length) * cy = pw q * 2 ^ r * val (xs.take xs.length)) :
    Wd (X.set (xs.length + q) cy) ∧ val (X.set (xs.length + q) cy) = val xs * 2 ^ n := by
  refine ⟨hX.set _ c0 (by omega), ?_⟩
  have e := (Part.refl hX (xs.length + q)).val (by omega) cy
  rw [List.take_of_length_le (by simp; omega)] at e
  rw [e, show xs.length + q = q + xs.length from by omega, hv, List.take_length, pw_two, show n = 30 * q + r from by omega, Int.pow_add]
  grind
/-- Nought. -/
theorem rd_nil (w : World) : Rd w (.slice none 0 0) [] := ⟨Wd.nil, none, 0, rfl, by simp, by simp, fun h => by simp at h⟩
end Go.Proofs.YthadighbhdekdaaDoor.L
