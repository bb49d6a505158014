import Derived.Test.YthadighbhdekdaaDoorB17
namespace Go.Proofs.YthadighbhdekdaaDoor.L
open Go.RowKit Tl

/-- How many bits a number has. -/
def bl (x : Int) : Nat := if x ≤ 0 then 0 else Nat.log2 x.toNat + 1
theorem bl_pos {x : Int} (h : 0 < x) : x < 2 ^ bl x ∧ 1 ≤ bl x ∧ (2 : Int) ^ (bl x - 1) ≤ x := by
  have e : bl x = Nat.log2 x.toNat + 1 := by unfold bl; rw [if_neg (by omega)]
  have h1 : x.toNat < 2 ^ (Nat.log2 x.toNat + 1) := Nat.lt_log2_self
  have h2 : 2 ^ Nat.log2 x.toNat ≤ x.toNat := Nat.log2_self_le (by omega)
  have c1 : ((2 ^ (Nat.log2 x.toNat + 1) : Nat) : Int) = (2 : Int) ^ (Nat.log2 x.toNat + 1) := by simp
  have c2 : ((2 ^ Nat.log2 x.toNat : Nat) : Int) = (2 : Int) ^ Nat.log2 x.toNat := by simp
  rw [e]
  refine ⟨by omega, by omega, ?_⟩
  rw [Nat.add_sub_cancel]; omega
theorem two_pow_le {a b : Nat} (h : a ≤ b) : (2 : Int) ^ a ≤ 2 ^ b := by
  have : 2 ^ a ≤ 2 ^ b := Nat.pow_le_pow_right (by decide) h
  exact_mod_cast this
theorem two_pow_pos (a : Nat) : (0 : Int) < 2 ^ a := Int.pow_pos (by decide)
theorem bl_unique {x : Int} {L : Nat} (h0 : 0 ≤ x) (h1 : x < 2 ^ L) (h2 : L = 0 ∨ (2 : Int) ^ (L - 1) ≤ x) : L = bl x := by
  by_cases hx : x = 0
  · subst hx
    rcases h2 with h2 | h2
    · rw [h2]; rfl
    · have := two_pow_pos (L - 1); omega
  · have b := bl_pos (x := x) (by omega)
    have hL : 1 ≤ L := by
      by_cases c : 1 ≤ L
      · exact c
      · have : L = 0 := by omega
        rw [this] at h1; simp at h1; omega
    have h2' : (2 : Int) ^ (L - 1) ≤ x := by
      rcases h2 with h2 | h2
      · omega
      · exact h2
    by_cases c1 : L ≤ bl x - 1
    · have := two_pow_le c1; omega
    · by_cases c2 : bl x ≤ L - 1
      · have := two_pow_le c2; omega
      · omega
theorem bl_len {xs : List Int} (h : Wd xs) : bl (val xs) ≤ 30 * xs.length := by
  by_cases c : 0 < val xs
  · have b := bl_pos c
    have := val_lt h
    rw [pw_two] at this
    by_cases d : bl (val xs) ≤ 30 * xs.length
    · exact d
    · have := two_pow_le (show 30 * xs.length ≤ bl (val xs) - 1 by omega); omega
  · unfold bl; rw [if_pos (by omega)]; omega
theorem shl_len2 {xs A : List Int} {n : Nat} (hx : Wd xs) (hA : Wd A) (nA : Nm A) (e : val A = val xs * 2 ^ n) : A.length ≤ xs.length + (n / 30 + 1) := by
  by_cases c : A.length ≤ xs.length + (n / 30 + 1)
  · exact c
  · have nv : A ≠ [] := by intro h; rw [h] at c; simp at c
    have l := val_low hA nA nv
    have m := pw_mono (show xs.length + (n / 30 + 1) ≤ A.length - 1 by omega)
    have h := val_lt hx
    have h0 := val_nonneg hx
    have p := two_pow_pos n
    have a := Int.mul_lt_mul_of_pos_right h p
    have b : (2 : Int) ^ n ≤ pw (n / 30 + 1) := by rw [pw_two]; exact two_pow_le (by omega)
    have d := Int.mul_le_mul_of_nonneg_left b (Int.le_of_lt (pw_pos xs.length))
    rw [← pw_add] at d
    omega
theorem le_of_quo {a q b r : Int} (h : a = q * b + r) (r0 : 0 ≤ r) (q0 : 0 ≤ q) (b0 : 0 < b) : q ≤ a := by
  have := Int.mul_le_mul_of_nonneg_left (show 1 ≤ b by omega) q0
  omega
end Go.Proofs.YthadighbhdekdaaDoor.L
