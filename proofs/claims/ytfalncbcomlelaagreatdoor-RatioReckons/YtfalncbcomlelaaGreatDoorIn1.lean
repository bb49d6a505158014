import Derived.Test.YtfalncbcomlelaaGreatDoorMk5
namespace Go.Proofs.YtfalncbcomlelaaGreatDoor.Mo
open Go.RowKit Dc Tn

/-- Numbers whose product is reached. -/
def MulOK (m n : Nat) : Prop := (m + n ≤ 900000 ∨ n + m ≤ 900000) ∧ m ≤ 1000000 ∧ n ≤ 1000000
theorem MulOK.le {m n m' n' : Nat} (h : MulOK m n) (a : m' ≤ m) (b : n' ≤ n) : MulOK m' n' := by
  unfold MulOK at *; omega
theorem Mul_n {a1 a2 : Option Addr} {l1 c1 l2 c2 : Nat} {A B : Int} {x : World} (h1 : Nn x a1 l1 c1 A) (h2 : Nn x a2 l2 c2 B) {m n : Nat} (hA : A < pw m) (hB : B < pw n) (hm : MulOK m n) :
    Calls Tryz.prog 50 #[.agg #[.slice a1 l1 c1], .agg #[.slice a2 l2 c2]] x fun e w' => ∃ a l c, e = .returned (.agg #[.slice a l c]) ∧ Nn w' a l c (A * B) ∧ Below x.heap.size x w' := by
  have k1 := h1.len_le hA
  have k2 := h2.len_le hB
  have := (hm.le k1 k2).1
  refine (Mul_all (l1 + l2) a1 l1 c1 a2 l2 c2 A B x (Nat.le_refl _) (by omega) h1 h2).mono ?_
  rintro e w' ⟨a, l, c, rfl, k, b, _⟩
  exact ⟨a, l, c, rfl, k, b⟩
end Go.Proofs.YtfalncbcomlelaaGreatDoor.Mo
