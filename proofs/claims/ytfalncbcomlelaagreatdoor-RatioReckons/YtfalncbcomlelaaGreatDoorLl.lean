import Derived.Test.YtfalncbcomlelaaGreatDoorB10
namespace Go.Proofs.YtfalncbcomlelaaGreatDoor.L
open Go.RowKit Tl

theorem len_mono {A B : List Int} (hA : Wd A) (hB : Wd B) (nB : Nm B) (h : val B ≤ val A) : B.length ≤ A.length := by
  by_cases c : B.length ≤ A.length
  · exact c
  · have := val_lt_of_length hA hB nB (by omega); omega
theorem len_of_lt {xs : List Int} {K : Nat} (h : Wd xs) (n : Nm xs) (hv : val xs < pw K) : xs.length ≤ K := by
  by_cases c : xs.length ≤ K
  · exact c
  · have h1 := val_low h n (by intro e; rw [e] at c; simp at c)
    have h2 := pw_mono (show K ≤ xs.length - 1 by omega)
    omega
end Go.Proofs.YtfalncbcomlelaaGreatDoor.L
