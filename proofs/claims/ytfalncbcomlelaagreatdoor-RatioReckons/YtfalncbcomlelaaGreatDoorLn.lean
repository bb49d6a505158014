import Derived.Test.YtfalncbcomlelaaGreatDoorB16
namespace Go.Proofs.YtfalncbcomlelaaGreatDoor.L
open Go.RowKit Tl

theorem rd_form {w : World} {v : Value} {xs : List Int} (h : Rd w v xs) : ∃ a c, v = .slice a xs.length c := by obtain ⟨_, a, c, e, _⟩ := h; exact ⟨a, c, e⟩
/-- The number of limbs, by the size. -/
theorem mul_len {A B Z : List Int} (ha : Wd A) (hb : Wd B) (hz : Wd Z) (nz : Nm Z) (e : val Z = val A * val B) : Z.length ≤ A.length + B.length := by
  refine len_of_lt hz nz ?_
  rw [e, pw_add]
  have a1 := val_lt ha
  have b1 := val_lt hb
  have a0 := val_nonneg ha
  have b0 := val_nonneg hb
  have p := pw_pos A.length
  have h1 : val A * val B ≤ pw A.length * val B := Int.mul_le_mul_of_nonneg_right (by omega) b0
  have h2 : pw A.length * val B < pw A.length * pw B.length := Int.mul_lt_mul_of_pos_left b1 p
  omega
theorem add_len {A B Z : List Int} {K : Nat} (ha : Wd A) (hb : Wd B) (hz : Wd Z) (nz : Nm Z) (e : val Z = val A + val B) (la : A.length ≤ K) (lb : B.length ≤ K) : Z.length ≤ K + 1 := by
  refine len_of_lt hz nz ?_
  have a1 := val_lt ha
  have b1 := val_lt hb
  have m1 := pw_mono la
  have m2 := pw_mono lb
  have p := pw_pos K
  rw [e]
  simp only [pw]
  omega
theorem sub_len {A B Z : List Int} {K : Nat} (ha : Wd A) (hb : Wd B) (hz : Wd Z) (nz : Nm Z) (e : val Z = val A - val B) (la : A.length ≤ K) : Z.length ≤ K := by
  refine len_of_lt hz nz ?_
  have a1 := val_lt ha
  have b0 := val_nonneg hb
  have m1 := pw_mono la
  omega
end Go.Proofs.YtfalncbcomlelaaGreatDoor.L
