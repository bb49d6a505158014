import Derived.Test.YtfalncbcomlelaaGreatDoorPw1
import Derived.Test.YtfalncbcomlelaaGreatDoorB20
namespace Go.Proofs.YtfalncbcomlelaaGreatDoor.L
open Go.RowKit Tl

/-- What the reference's Pow keeps: out times a to the m is the power. -/
structure Pk (N A O : Int) (m : Nat) : Prop where
  eq : O * A ^ m = N
  alt : (A = 0 ∧ 0 ≤ O ∧ O ≤ 1) ∨ (1 ≤ A ∧ 1 ≤ O)
theorem one_le_pow {A : Int} (h : 1 ≤ A) : ∀ m : Nat, 1 ≤ A ^ m
  | 0 => by simp
  | m + 1 => by
    rw [Int.pow_succ]
    have := one_le_pow h m
    have := Int.mul_le_mul this h (by decide) (by omega)
    omega
theorem le_pow {A : Int} (h : 1 ≤ A) {m : Nat} (hm : 1 ≤ m) : A ≤ A ^ m := by
  obtain ⟨k, rfl⟩ : ∃ k, m = k + 1 := ⟨m - 1, by omega⟩
  rw [Int.pow_succ]
  have := one_le_pow h k
  have := Int.mul_le_mul_of_nonneg_right this (show 0 ≤ A by omega)
  omega
theorem Pk.o {N A O : Int} {m : Nat} (h : Pk N A O m) {B : Int} (b : N < B) (b1 : 1 < B) : O < B := by
  rcases h.alt with ⟨_, _, a⟩ | ⟨a, o⟩
  · omega
  · have := one_le_pow a m
    have := Int.mul_le_mul_of_nonneg_left this (show 0 ≤ O by omega)
    have := h.eq
    omega
theorem Pk.a {N A O : Int} {m : Nat} (h : Pk N A O m) (hm : 1 ≤ m) {B : Int} (b : N < B) (b1 : 1 < B) : A < B := by
  rcases h.alt with ⟨a, _, _⟩ | ⟨a, o⟩
  · omega
  · have p1 := le_pow a hm
    have := Int.mul_le_mul_of_nonneg_right o (show 0 ≤ A ^ m by omega)
    have := h.eq
    omega
theorem Pk.sq {N A O : Int} {m : Nat} (h : Pk N A O (2 * m)) : Pk N (A * A) O m := by
  refine ⟨by rw [← h.eq, Int.pow_mul]; congr 2; rw [Int.pow_succ, Int.pow_succ, Int.pow_zero, Int.one_mul], ?_⟩
  rcases h.alt with ⟨a, b⟩ | ⟨a, o⟩
  · subst a; exact Or.inl ⟨rfl, b⟩
  · have := Int.mul_le_mul a a (by decide) (by omega)
    exact Or.inr ⟨by omega, o⟩
theorem len_of {xs : List Int} {n : Nat} (h : Wd xs) (k : Nm xs) (v : val xs < pw n) : xs.length ≤ n := by
  by_cases e : xs = []
  · subst e; simp
  · have := val_low h k e
    by_cases c : xs.length ≤ n
    · exact c
    · have := pw_mono (show n ≤ xs.length - 1 by omega)
      omega
end Go.Proofs.YtfalncbcomlelaaGreatDoor.L
