import Derived.Test.YtfalncbcomlelaaGreatDoorB2
namespace Go.Proofs.YtfalncbcomlelaaGreatDoor.L
open Go.RowKit Tl

theorem pw_two (n : Nat) : pw n = 2 ^ (30 * n) := by
  induction n with
  | zero => rfl
  | succ n ih => rw [show 30 * (n + 1) = 30 * n + 30 from by omega, Int.pow_add, ← ih]; simp only [pw]; rw [Int.mul_comm]; rfl
/-- How the halves of the highest limb stand. -/
def Hv (t : Int) (j : Nat) (v : Int) : Prop := v = t / 2 ^ j ∧ (j = 0 ∨ 0 < t / 2 ^ (j - 1)) ∧ j ≤ 30
theorem Hv.next {t : Int} {j : Nat} {v : Int} (h : Hv t j v) (hv : 0 < v) (ht : t < 1073741824) : Hv t (j + 1) (v / 2) := by
  obtain ⟨rfl, _, c⟩ := h
  refine ⟨?_, Or.inr (by simpa using hv), ?_⟩
  · rw [Int.pow_succ, ← Int.ediv_ediv_of_nonneg (Int.le_of_lt (Int.pow_pos (by decide)))]
  · by_cases hj : j = 30
    · subst hj
      rw [show (2 : Int) ^ 30 = 1073741824 from by decide] at hv
      omega
    · omega
theorem Hv.done {xs : List Int} {j : Nat} {v : Int} (hx : Wd xs) (n : Nm xs) (ne : 0 < xs.length) (h : Hv (nth xs (xs.length - 1)) j v) (hv : ¬ 0 < v) :
    val xs < 2 ^ (30 * (xs.length - 1) + j) ∧ 1 ≤ 30 * (xs.length - 1) + j ∧ (2 : Int) ^ (30 * (xs.length - 1) + j - 1) ≤ val xs := by
  have ht := nm_top hx n ne
  have e := val_top ne
  have v0 := val_nonneg (hx.take (xs.length - 1))
  have v1 := val_lt (hx.take (xs.length - 1))
  rw [List.length_take, Nat.min_eq_left (by omega)] at v1
  have p := pw_pos (xs.length - 1)
  obtain ⟨rfl, b, _⟩ := h
  generalize nth xs (xs.length - 1) = t at *
  have pj : (0 : Int) < 2 ^ j := Int.pow_pos (by decide)
  have t1 : t < 2 ^ j := by
    have h0 : t / 2 ^ j = 0 := by have := Int.ediv_nonneg (Int.le_of_lt ht) (Int.le_of_lt pj); omega
    have := Int.lt_ediv_add_one_mul_self t pj
    rw [h0] at this; omega
  have j1 : j ≠ 0 := by rintro rfl; simp at t1; omega
  have t2 : (2 : Int) ^ (j - 1) ≤ t := by
    rcases b with b | b
    · exact absurd b j1
    · have := Int.ediv_mul_le t (show (2 : Int) ^ (j - 1) ≠ 0 from by have : (0 : Int) < 2 ^ (j - 1) := Int.pow_pos (by decide); omega)
      have q : (0 : Int) < 2 ^ (j - 1) := Int.pow_pos (by decide)
      have := Int.mul_le_mul_of_nonneg_right (show 1 ≤ t / 2 ^ (j - 1) by omega) (Int.le_of_lt q)
      omega
  refine ⟨?_, by omega, ?_⟩
  · rw [Int.pow_add, ← pw_two]
    have := Int.mul_le_mul_of_nonneg_left (show t + 1 ≤ 2 ^ j by omega) (Int.le_of_lt p)
    grind
  · rw [show 30 * (xs.length - 1) + j - 1 = 30 * (xs.length - 1) + (j - 1) from by omega, Int.pow_add, ← pw_two]
    have := Int.mul_le_mul_of_nonneg_left t2 (Int.le_of_lt p)
    omega
end Go.Proofs.YtfalncbcomlelaaGreatDoor.L
