import Derived.Test.YthadighbhdekdaaDoorB3
import Derived.Test.YthadighbhdekdaaDoorLawsL
namespace Go.Proofs.YthadighbhdekdaaDoor.L
open Go.RowKit Tl

theorem val_more (xs : List Int) (k : Nat) : val (xs.take (k + 1)) = val (xs.take k) + pw k * nth xs k := by
  by_cases h : k < xs.length
  · exact val_at xs k h
  · have e : nth xs k = 0 := by unfold nth; rw [List.getD_eq_getElem?_getD, List.getElem?_eq_none (Nat.le_of_not_lt h)]; rfl
    rw [List.take_of_length_le (by omega), List.take_of_length_le (by omega), e]; simp
theorem nth_out (xs : List Int) (k : Nat) (h : ¬ k < xs.length) : nth xs k = 0 := by
  unfold nth; rw [List.getD_eq_getElem?_getD, List.getElem?_eq_none (Nat.le_of_not_lt h)]; rfl
theorem wd_zero (n : Nat) : Wd (List.replicate n 0) := by
  intro x hx
  rw [List.eq_of_mem_replicate hx]; omega
/-- One limb of a sum. -/
theorem sum_step {X xs ys : List Int} {k : Nat} {c s : Int} (hX : Wd X) (hk : k < X.length) (hs : s = c + nth xs k + nth ys k)
    (hv : val (X.take k) + pw k * c = val (xs.take k) + val (ys.take k)) :
    Wd (X.set k (s % 1073741824)) ∧ val ((X.set k (s % 1073741824)).take (k + 1)) + pw (k + 1) * (s / 1073741824) = val (xs.take (k + 1)) + val (ys.take (k + 1)) := by
  refine ⟨hX.set k (by omega) (by omega), ?_⟩
  rw [(Part.refl hX k).val hk, val_more xs k, val_more ys k]
  simp only [pw]
  have e : s = s % 1073741824 + 1073741824 * (s / 1073741824) := by omega
  generalize s % 1073741824 = r at *
  generalize s / 1073741824 = q at *
  grind
theorem sum_end {X xs ys : List Int} {N : Nat} {c : Int} (hX : Wd X) (hx : Wd xs) (hy : Wd ys) (hl : X.length = N) (n1 : xs.length < N) (n2 : ys.length < N) (c0 : 0 ≤ c)
    (e : val (X.take N) + pw N * c = val (xs.take N) + val (ys.take N)) : val X = val xs + val ys := by
  rw [List.take_of_length_le (by omega), List.take_of_length_le (by omega), List.take_of_length_le (by omega)] at e
  have b1 := val_lt hx
  have b2 := val_lt hy
  have p1 := pw_mono (show xs.length ≤ N - 1 by omega)
  have p2 := pw_mono (show ys.length ≤ N - 1 by omega)
  have b4 := val_nonneg hX
  have pn : pw N = 1073741824 * pw (N - 1) := by
    obtain ⟨m, rfl⟩ : ∃ m, N = m + 1 := ⟨N - 1, by omega⟩
    rfl
  have b5 := pw_pos (N - 1)
  have hc : c = 0 := by
    by_cases h : c = 0
    · exact h
    · have := Int.mul_le_mul_of_nonneg_left (show 1 ≤ c by omega) (Int.le_of_lt (pw_pos N))
      omega
  rw [hc] at e; omega
end Go.Proofs.YthadighbhdekdaaDoor.L
