import Derived.Laws.BytesArg
import Derived.Lib.ItoaNum
namespace Dc
open Go Go.Lib

theorem pow_le_of_pos (u : Nat) (h : 0 < u) : 10 ^ (nDigits u - 1) ≤ u := by
  induction u using Nat.strongRecOn with
  | _ u ih =>
    by_cases h1 : u < 10
    · rw [nDigits_small h1]; simp; omega
    · rw [nDigits_big h1]
      have := ih (u / 10) (by omega) (by omega)
      have p := nDigits_pos (u / 10)
      rw [show nDigits (u / 10) + 1 - 1 = nDigits (u / 10) - 1 + 1 from by omega, Nat.pow_succ]
      omega
theorem nDigits_le {u n : Nat} (hn : 0 < n) (h : u < 10 ^ n) : nDigits u ≤ n := by
  by_cases h0 : u = 0
  · subst h0; rw [nDigits_small (by decide)]; exact hn
  · have := pow_le_of_pos u (by omega)
    have l : 10 ^ (nDigits u - 1) < 10 ^ n := by omega
    have := (Nat.pow_lt_pow_iff_right (by decide : 1 < 10)).1 l
    omega
/-- The first c of N places of V. -/
def dgs (V N c : Nat) : List Int := (List.range c).map fun s => 48 + ((V / 10 ^ (N - 1 - s) % 10 : Nat) : Int)
theorem dgs_zero (V N : Nat) : dgs V N 0 = [] := rfl
theorem dgs_succ (V N c : Nat) : dgs V N (c + 1) = dgs V N c ++ [48 + ((V / 10 ^ (N - 1 - c) % 10 : Nat) : Int)] := by
  simp [dgs, List.range_succ]
theorem dgs_length (V N c : Nat) : (dgs V N c).length = c := by simp [dgs]
theorem dgs_at (V N c i : Nat) (h : i < c) : (dgs V N c).getD i 0 = 48 + ((V / 10 ^ (N - 1 - i) % 10 : Nat) : Int) := by
  simp [dgs, List.getD_eq_getElem?_getD, h]
theorem top_digit (V : Nat) (h : 0 < V) : V / 10 ^ (nDigits V - 1) % 10 ≠ 0 := by
  have a := pow_le_of_pos V h
  have b := lt_pow_nDigits V
  have p := nDigits_pos V
  rw [show nDigits V = nDigits V - 1 + 1 from by omega, Nat.pow_succ] at b
  have q : 0 < 10 ^ (nDigits V - 1) := Nat.pow_pos (by decide)
  generalize 10 ^ (nDigits V - 1) = t at *
  have h1 : 1 ≤ V / t := (Nat.le_div_iff_mul_le q).2 (by omega)
  have h2 : V / t < 10 := (Nat.div_lt_iff_lt_mul q).2 (by omega)
  omega
theorem high_digit (V j : Nat) (h : nDigits V ≤ j) : V / 10 ^ j = 0 := by
  rw [Nat.div_eq_zero_iff]
  right
  exact Nat.lt_of_lt_of_le (lt_pow_nDigits V) (Nat.pow_le_pow_right (by decide) h)
theorem dgs_str (V N : Nat) (h : nDigits V ≤ N) : strOfNums ((dgs V N N).drop (N - nDigits V)) = ⟨(decDigits V).toArray⟩ := by
  unfold strOfNums
  congr 2
  rw [decDigits_eq]
  apply List.ext_getElem
  · simp [dgs_length]; omega
  · intro i h1 h2
    simp [dgs, dg] at h1 h2 ⊢
    rw [show N - 1 - (N - nDigits V + i) = nDigits V - 1 - i from by omega]
    have : (48 + (V : Int) / 10 ^ (nDigits V - 1 - i) % 10).toNat = 48 + V / 10 ^ (nDigits V - 1 - i) % 10 := by
      have : ((V / 10 ^ (nDigits V - 1 - i) % 10 : Nat) : Int) = (V : Int) / 10 ^ (nDigits V - 1 - i) % 10 := by simp
      omega
    rw [this]
    simp
/-- One digit of a part of nine. -/
theorem part_digit (A t : Nat) (h : t ≤ 8) : (A % 1000000000) / (100000000 / 10 ^ t) % 10 = A / 10 ^ (8 - t) % 10 := by
  have e : (100000000 : Nat) / 10 ^ t = 10 ^ (8 - t) := by
    rw [show (100000000 : Nat) = 10 ^ 8 from rfl, Nat.pow_div h (by decide)]
  rw [e, show (1000000000 : Nat) = 10 ^ (8 - t) * 10 ^ (t + 1) from by rw [← Nat.pow_add, show 8 - t + (t + 1) = 9 from by omega], Nat.mod_mul_right_div_self]
  rw [Nat.mod_mod_of_dvd]
  exact ⟨10 ^ t, by rw [Nat.pow_succ, Nat.mul_comm]⟩
theorem unit_next (t : Nat) : (100000000 : Nat) / 10 ^ t / 10 = 100000000 / 10 ^ (t + 1) := by
  rw [Nat.div_div_eq_div_mul, Nat.pow_succ]
theorem unit_pos {t : Nat} (h : t ≤ 8) : 0 < (100000000 : Nat) / 10 ^ t := by
  rw [show (100000000 : Nat) = 10 ^ 8 from rfl, Nat.pow_div h (by decide)]
  exact Nat.pow_pos (by decide)
theorem unit_end : (100000000 : Nat) / 10 ^ 9 = 0 := by decide
theorem unit_le (t : Nat) : (100000000 : Nat) / 10 ^ t ≤ 100000000 := Nat.div_le_self _ _
theorem place (V i t m : Nat) (hi : i < m) (ht : t ≤ 8) : (V / 10 ^ (9 * i) % 1000000000) / (100000000 / 10 ^ t) % 10 = V / 10 ^ (9 * m - 1 - (9 * (m - 1 - i) + t)) % 10 := by
  rw [part_digit _ _ ht, Nat.div_div_eq_div_mul, ← Nat.pow_add]
  congr 3
  omega
/-- The number of a row of digits. -/
def num : List UInt8 → Nat := List.foldl (fun a c => 10 * a + (c.toNat - 48)) 0
theorem num_append (a b : List UInt8) : num (a ++ b) = num a * 10 ^ b.length + num b := by
  unfold num
  rw [List.foldl_append]
  generalize List.foldl (fun a c => 10 * a + (UInt8.toNat c - 48)) 0 a = x
  induction b generalizing x with
  | nil => simp
  | cons c b ih =>
    rw [List.foldl_cons, ih, List.foldl_cons, ih (10 * 0 + (c.toNat - 48)), List.length_cons, Nat.pow_succ]
    grind
theorem num_single (c : UInt8) : num [c] = c.toNat - 48 := by simp [num]
end Dc
