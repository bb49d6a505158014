import Derived.Test.YthadighbhdekdaaDoorB14
import Derived.Deep.DeepCutAuto
import Derived.Deep.CutBlock
namespace Go.Proofs.YthadighbhdekdaaDoor.L
open Go.RowKit Tl

theorem le_less {G x T : Int} (h : G * x ≤ T) (x0 : 0 ≤ x) : (G - 1) * x ≤ T := by
  have : (G - 1) * x = G * x - x := by grind
  omega
theorem drewN_two (w : World) (m n : Nat) : (w.drewN m).drewN n = w.drewN (m + n) := by simp [World.drewN, Nat.add_assoc]
theorem down_one {G : Int} (h : 1 ≤ G) : (intOf (.int .i64 (G - 1))).toNat < (intOf (.int .i64 G)).toNat := by simp [intOf]; omega
/-- One limb of the product, taken away: with a borrow .. -/
theorem sb_neg {y c g v x Z : Int} (y0 : 0 ≤ y) (y1 : y < 1073741824) (c0 : 0 ≤ c) (c1 : c ≤ 1073741824) (g1 : g ≤ 1073741823) (v0 : 0 ≤ v) (v1 : v < 1073741824) (hx : y - c - g * v = x) (hZ : -x + 1073741824 - 1 = Z) (hn : x < 0) :
    (0 ≤ Z / 1073741824 ∧ Z / 1073741824 ≤ 1073741824 ∧ 0 ≤ x + Z / 1073741824 * 1073741824 ∧ x + Z / 1073741824 * 1073741824 < 1073741824 ∧ x + Z / 1073741824 * 1073741824 = y - c - g * v + Z / 1073741824 * 1073741824) ∧
    0 ≤ Z ∧ Z < 1152921506754330624 ∧ IntKind.i64.wrap (-x) = -x ∧ IntKind.i64.wrap (-x + 1073741824) = -x + 1073741824 ∧ IntKind.i64.wrap (-x + 1073741824 - 1) = Z ∧ IntKind.i64.wrap (Z / 1073741824 * 1073741824) = Z / 1073741824 * 1073741824 ∧ IntKind.i64.wrap (x + Z / 1073741824 * 1073741824) = x + Z / 1073741824 * 1073741824 := by
  have a := Int.mul_le_mul_of_nonneg_right g1 v0
  have b : 1073741823 * v ≤ 1073741823 * 1073741823 := Int.mul_le_mul_of_nonneg_left (by omega) (by decide)
  refine ⟨⟨by omega, by omega, by omega, by omega, by omega⟩, by omega, by omega, wrap_self _ (by omega) (by omega), wrap_self _ (by omega) (by omega), ?_, wrap_self _ (by omega) (by omega), wrap_self _ (by omega) (by omega)⟩
  rw [hZ]; exact wrap_self _ (by omega) (by omega)
theorem sb_bd {y c g v : Int} (y0 : 0 ≤ y) (y1 : y < 1073741824) (c0 : 0 ≤ c) (c1 : c ≤ 1073741824) (g0 : 0 ≤ g) (g1 : g ≤ 1073741823) (v0 : 0 ≤ v) (v1 : v < 1073741824) :
    IntKind.i64.wrap (y - c) = y - c ∧ IntKind.i64.wrap (g * v) = g * v ∧ IntKind.i64.wrap (y - c - g * v) = y - c - g * v ∧ -1152921504606846976 - 2147483648 < y - c - g * v ∧ y - c - g * v < 1073741824 := by
  have a := Int.mul_le_mul_of_nonneg_right g1 v0
  have b : 1073741823 * v ≤ 1073741823 * 1073741823 := Int.mul_le_mul_of_nonneg_left (by omega) (by decide)
  have d := Int.mul_nonneg g0 v0
  exact ⟨wrap_self _ (by omega) (by omega), wrap_self _ (by omega) (by omega), wrap_self _ (by omega) (by omega), by omega, by omega⟩
theorem up_one {n i : Nat} (h : i < n) : n - (intOf (.int .i64 ((i : Int) + 1))).toNat < n - (intOf (.int .i64 (i : Int))).toNat := by simp [intOf]; omega
theorem nm_len {zs xs : List Int} (hz : Wd zs) (nz : Nm zs) (hx : Wd xs) (h : val zs = val xs) : zs.length ≤ xs.length := by
  by_cases c : zs.length ≤ xs.length
  · exact c
  · have ne : zs ≠ [] := by intro h2; rw [h2] at c; simp at c
    have a := val_low hz nz ne
    have b := val_lt hx
    have d := pw_mono (show xs.length ≤ zs.length - 1 by omega)
    omega
def lenOfS : Value → Nat
  | .slice _ n _ => n
  | _ => 0
theorem shl_pos {xs A : List Int} {s : Nat} (h : 0 < xs.length) (n : Nm xs) (hx : Wd xs) (e : val A = val xs * 2 ^ s) : 0 < A.length := by
  by_cases c : 0 < A.length
  · exact c
  · have e0 : A = [] := List.eq_nil_of_length_eq_zero (by omega)
    rw [e0] at e
    have ne : xs ≠ [] := by intro h2; rw [h2] at h; simp at h
    have lo := val_low hx n ne
    have p := pw_pos (xs.length - 1)
    have := Int.mul_pos (show 0 < val xs by omega) (show (0 : Int) < 2 ^ s from Int.pow_pos (by decide))
    simp [val] at e
    omega
end Go.Proofs.YthadighbhdekdaaDoor.L
