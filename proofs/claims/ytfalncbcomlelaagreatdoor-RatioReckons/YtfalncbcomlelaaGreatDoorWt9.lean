import Derived.Test.YtfalncbcomlelaaGreatDoorWt8
import Derived.Deep.RegionHeld3
namespace Go.Proofs.YtfalncbcomlelaaGreatDoor.Wt
open Go.RowKit Tn Mo

/-- The i-th rung. -/
def rung (i : Nat) : Nat := (10 ^ 19) ^ (2 ^ i)
theorem rung_pos (i : Nat) : 0 < rung i := Nat.pow_pos (Nat.pow_pos (by decide))
theorem rung_next (i : Nat) : rung (i + 1) = rung i * rung i := by
  unfold rung
  have e : 2 ^ (i + 1) = 2 ^ i + 2 ^ i := by rw [Nat.pow_succ]; omega
  rw [e, Nat.pow_add]
theorem rung_mono {i j : Nat} (h : i ≤ j) : rung i ≤ rung j := Nat.pow_le_pow_right (by decide) (Nat.pow_le_pow_right (by decide) h)
theorem rung_7 : 2 ^ 8078 ≤ rung 7 := by unfold rung; decide +kernel
theorem rung_6 : rung 6 < 2 ^ (64 * 64) := by unfold rung; decide +kernel
theorem rung_8 : rung 7 < 2 ^ (64 * 128) := by unfold rung; decide +kernel
theorem nb_spec (V : Nat) : V < 2 ^ nb V ∧ (nb V = 0 ∨ 2 ^ (nb V - 1) ≤ V) := by
  by_cases h : V = 0
  · subst h
    have : nb 0 = 0 := by
      have := nb_le (V := 0) (k := 0) (by decide)
      omega
    rw [this]
    exact ⟨by decide, Or.inl rfl⟩
  · obtain ⟨L, h1, h2⟩ : ∃ L, V < 2 ^ L ∧ 2 ^ (L - 1) ≤ V := by
      refine ⟨V.log2 + 1, Nat.lt_log2_self, ?_⟩
      rw [Nat.add_sub_cancel]
      exact Nat.log2_self_le h
    have e := nb_eq h1 (Or.inr h2)
    rw [← e]
    exact ⟨h1, Or.inr h2⟩
/-- If the square of the topmost rung is longer than A, A is below it. -/
theorem below_square {A k : Nat} (h : nb A < 2 * nb (rung k) - 1) : A < rung (k + 1) := by
  obtain ⟨h1, _⟩ := nb_spec A
  obtain ⟨_, h2⟩ := nb_spec (rung k)
  rcases h2 with h2 | h2
  · rw [h2] at h; omega
  · have e : nb A ≤ (nb (rung k) - 1) + (nb (rung k) - 1) := by omega
    have p : (2 : Nat) ^ nb A ≤ 2 ^ (nb (rung k) - 1) * 2 ^ (nb (rung k) - 1) := by rw [← Nat.pow_add]; exact Nat.pow_le_pow_right (by decide) e
    have q : 2 ^ (nb (rung k) - 1) * 2 ^ (nb (rung k) - 1) ≤ rung k * rung k := Nat.mul_le_mul h2 h2
    rw [rung_next]
    omega
/-- While it is not, few rungs stand. -/
theorem few_rungs {A k : Nat} (hA : nb A ≤ 16000) (h : ¬ nb A < 2 * nb (rung k) - 1) : k ≤ 6 := by
  by_cases c : k ≤ 6
  · exact c
  · exfalso
    have m := rung_mono (show 7 ≤ k by omega)
    have := rung_7
    obtain ⟨h1, _⟩ := nb_spec (rung k)
    have : (2 : Nat) ^ 8078 < 2 ^ nb (rung k) := by omega
    have := (Nat.pow_lt_pow_iff_right (show 1 < 2 by decide)).1 this
    omega
theorem nb_rung {k : Nat} (h : k ≤ 7) : nb (rung k) ≤ 8192 := by
  have := nb_le (k := 64 * 128) (Nat.lt_of_le_of_lt (rung_mono h) rung_8)
  omega
theorem pw_two (n : Nat) : pw n = (2 : Int) ^ (64 * n) := by
  induction n with
  | zero => rfl
  | succ n ih =>
    show 18446744073709551616 * pw n = _
    rw [ih, show 64 * (n + 1) = 64 * n + 64 by omega, Int.pow_add, Int.mul_comm]
    rfl
theorem lt_cast {a n : Nat} (h : a < 2 ^ n) : (a : Int) < (2 : Int) ^ n := by
  have := Int.ofNat_lt.2 h
  rw [Int.natCast_pow] at this
  exact this
theorem rung_pw {k : Nat} (h : k ≤ 7) : ((rung k : Nat) : Int) < pw 128 := by
  have := rung_mono h
  rw [pw_two]
  exact lt_cast (Nat.lt_of_le_of_lt this rung_8)
theorem rung_pw6 {k : Nat} (h : k ≤ 6) : ((rung k : Nat) : Int) < pw 64 := by
  have := rung_mono h
  rw [pw_two]
  exact lt_cast (Nat.lt_of_le_of_lt this rung_6)
/-- The rungs as they stand. -/
structure Lr (w wr : World) (g cap k : Nat) (vals : List Value) : Prop where
  R : Rg wr g cap vals
  cm : cap ≤ maxLen
  len : vals.length = k
  v : ∀ i, i < k → ∃ a l c, vals[i]? = some (.slice a l c) ∧ Nn wr a l c ((rung i : Nat) : Int)
  bel : Below w.heap.size w wr
  ge : w.heap.size < g
end Go.Proofs.YtfalncbcomlelaaGreatDoor.Wt
