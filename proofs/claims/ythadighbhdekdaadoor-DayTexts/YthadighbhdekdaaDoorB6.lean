import Derived.Test.YthadighbhdekdaaDoorB5
namespace Go.Proofs.YthadighbhdekdaaDoor.L
open Go.RowKit Tl

/-- One limb of a difference. -/
theorem dif_step {X xs ys : List Int} {k : Nat} {c s v c' : Int} (hX : Wd X) (hk : k < X.length) (hs : s = nth xs k - c - nth ys k) (hv' : v = s + 1073741824 * c') (v0 : 0 ≤ v) (v1 : v < 1073741824)
    (hv : val (X.take k) - pw k * c = val (xs.take k) - val (ys.take k)) :
    Wd (X.set k v) ∧ val ((X.set k v).take (k + 1)) - pw (k + 1) * c' = val (xs.take (k + 1)) - val (ys.take (k + 1)) := by
  refine ⟨hX.set k v0 v1, ?_⟩
  rw [(Part.refl hX k).val hk, val_more xs k, val_more ys k]
  simp only [pw]
  grind
theorem dif_end {X xs ys : List Int} {c : Int} (hX : Wd X) (hl : X.length = xs.length) (n2 : ys.length ≤ xs.length) (le : val ys ≤ val xs) (c0 : 0 ≤ c)
    (e : val (X.take xs.length) - pw xs.length * c = val (xs.take xs.length) - val (ys.take xs.length)) : val X = val xs - val ys := by
  rw [List.take_of_length_le (by omega), List.take_of_length_le (by omega), List.take_of_length_le (by omega)] at e
  have b1 := val_lt hX
  rw [hl] at b1
  have hc : c = 0 := by
    by_cases h : c = 0
    · exact h
    · have := Int.mul_le_mul_of_nonneg_left (show 1 ≤ c by omega) (Int.le_of_lt (pw_pos xs.length))
      omega
  rw [hc] at e; omega
end Go.Proofs.YthadighbhdekdaaDoor.L
