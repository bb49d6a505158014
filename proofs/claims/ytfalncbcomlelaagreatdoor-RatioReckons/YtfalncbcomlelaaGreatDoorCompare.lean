import Derived.Test.YtfalncbcomlelaaGreatDoorBy
import Derived.Deep.RegionHeld3
namespace Go.Proofs.YtfalncbcomlelaaGreatDoor
open Go.RowKit Tn

theorem mul_len {xs ys zs : List Int} (hx : Wd xs) (hy : Wd ys) (hz : Wd zs) (nz : Nm zs) (h : val zs = val xs * val ys) : zs.length ≤ xs.length + ys.length := by
  by_cases c : zs.length ≤ xs.length + ys.length
  · exact c
  · have h0 : zs ≠ [] := by rintro rfl; simp at c
    have h1 := val_low hz nz h0
    have h2 := pw_mono (show xs.length + ys.length ≤ zs.length - 1 by omega)
    rw [pw_add] at h2
    have h3 := Int.mul_le_mul_of_nonneg_right (Int.le_of_lt (val_lt hx)) (val_nonneg hy)
    have h4 := Int.mul_lt_mul_of_pos_left (val_lt hy) (pw_pos xs.length)
    omega

/-- What compare answers, of sign, numerator and denominator. -/
def cmpF (g1 : Bool) (a b : Int) (g2 : Bool) (c d : Int) : Int :=
  if g1 = true then (if g2 = true then cmp3 (c * b) (a * d) else -1) else (if g2 = true then 1 else cmp3 (a * d) (c * b))

end Go.Proofs.YtfalncbcomlelaaGreatDoor
