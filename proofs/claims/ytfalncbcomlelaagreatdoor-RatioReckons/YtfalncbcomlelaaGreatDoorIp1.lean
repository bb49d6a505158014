import Derived.Test.YtfalncbcomlelaaGreatDoorW
import Derived.Test.YtfalncbcomlelaaGreatDoorWL
namespace Go.Proofs.YtfalncbcomlelaaGreatDoor.Ip

/-- What one is worth a year later. -/
def gr (k : Int) : Rat := ((10000000 + k : Int) : Rat) * ((10000000 : Int) : Rat)⁻¹
/-- Neither part has more than B binary digits. -/
def Bd (r : Rat) (B : Nat) : Prop := r.num.natAbs < 2 ^ B ∧ r.den < 2 ^ B
theorem mk_parts (a : Int) (b : Nat) (hb : b ≠ 0) : (mkRat a b).num.natAbs ≤ a.natAbs ∧ (mkRat a b).den ≤ b := by
  refine ⟨?_, by rw [Rat.den_mkRat, if_neg hb]; exact Nat.div_le_self _ _⟩
  rw [Rat.num_mkRat, if_neg hb, Int.natAbs_ediv_of_dvd]
  · exact Nat.div_le_self _ _
  · exact Int.ofNat_dvd_left.2 (Nat.gcd_dvd_right _ _)
theorem Bd.mk {a : Int} {b B : Nat} (h1 : a.natAbs < 2 ^ B) (h2 : b < 2 ^ B) (hb : b ≠ 0) : Bd (mkRat a b) B := by
  have := mk_parts a b hb
  exact ⟨by omega, by omega⟩
theorem Bd.mono {r : Rat} {m n : Nat} (h : Bd r m) (hm : m ≤ n) : Bd r n := by
  have := Nat.pow_le_pow_right (show 0 < 2 by decide) hm
  exact ⟨by have := h.1; omega, by have := h.2; omega⟩
theorem mul_lt2 {a b m n : Nat} (h1 : a < 2 ^ m) (h2 : b < 2 ^ n) : a * b < 2 ^ (m + n) := by
  rw [Nat.pow_add]
  by_cases c : b = 0
  · subst c; simpa using Nat.mul_pos (Nat.two_pow_pos m) (Nat.two_pow_pos n)
  · exact Nat.mul_lt_mul'' h1 h2
theorem Bd.mul {r s : Rat} {m n : Nat} (h1 : Bd r m) (h2 : Bd s n) : Bd (r * s) (m + n) := by
  rw [Rat.mul_def']
  refine Bd.mk ?_ (mul_lt2 h1.2 h2.2) (Nat.mul_ne_zero r.den_nz s.den_nz)
  rw [Int.natAbs_mul]
  exact mul_lt2 h1.1 h2.1
theorem Bd.add {r s : Rat} {m n : Nat} (h1 : Bd r m) (h2 : Bd s n) : Bd (r + s) (m + n + 1) := by
  rw [Rat.add_def']
  have q1 := mul_lt2 h1.1 h2.2
  have q2 := mul_lt2 h2.1 h1.2
  have q3 := mul_lt2 h1.2 h2.2
  rw [Nat.add_comm n m] at q2
  have e : 2 ^ (m + n + 1) = 2 ^ (m + n) * 2 := Nat.pow_succ _ _
  refine Bd.mk ?_ (by omega) (Nat.mul_ne_zero r.den_nz s.den_nz)
  have := Int.natAbs_add_le (r.num * s.den) (s.num * r.den)
  rw [Int.natAbs_mul, Int.natAbs_mul] at this
  simp only [Int.natAbs_natCast] at this
  omega
theorem Bd.inv {r : Rat} {m : Nat} (h : Bd r m) (h0 : r ≠ 0) : Bd r⁻¹ m := by
  have hn : r.num ≠ 0 := fun e => h0 (Rat.num_eq_zero.1 e)
  have e : (r⁻¹).num.natAbs = r.den ∧ (r⁻¹).den = r.num.natAbs := by
    show (Rat.inv r).num.natAbs = _ ∧ (Rat.inv r).den = _
    unfold Rat.inv
    by_cases c : r.num < 0
    · rw [dif_pos c]; exact ⟨by simp, rfl⟩
    · rw [dif_neg c, dif_pos (by omega)]; exact ⟨by simp, rfl⟩
  exact ⟨by rw [e.1]; exact h.2, by rw [e.2]; exact h.1⟩
theorem Bd.int {p : Int} {m : Nat} (h : p.natAbs < 2 ^ m) (h0 : 1 ≤ m) : Bd (p : Rat) m := by
  refine ⟨h, ?_⟩
  show 1 < 2 ^ m
  have := Nat.pow_le_pow_right (show 0 < 2 by decide) h0
  omega
end Go.Proofs.YtfalncbcomlelaaGreatDoor.Ip
