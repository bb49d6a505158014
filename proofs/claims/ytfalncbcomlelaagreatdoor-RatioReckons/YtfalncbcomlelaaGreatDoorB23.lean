import Derived.Test.YtfalncbcomlelaaGreatDoorB22
namespace Go.Proofs.YtfalncbcomlelaaGreatDoor.L
open Go.RowKit Tl

/-- The sign of a number. -/
def sg3 (g : Bool) (n : Nat) : Int := if n = 0 then 0 else if g = true then -1 else 1
theorem Sign_fn (g : Bool) (a1 a2 : Option Addr) (n1 c1 n2 c2 : Nat) (w : World) :
    Calls Tryz.prog 33 #[.agg #[.bool g, .slice a1 n1 c1, .slice a2 n2 c2]] w fun e w' => e = .returned (.int .i64 (sg3 g n1)) ∧ Below w.heap.size w w' := by
  unfold sg3
  by_cases h : n1 = 0
  · subst h
    rw [if_pos rfl]
    go_enter Tryz.func33, Tryz.ntmps33
    go_wp2
    go_ret
    exact ⟨rfl, (Below.refl _ _).alloc (Nat.le_refl _) _⟩
  · rw [if_neg h]
    have hz : ((n1 : Int) == 0) = false := by rw [beq_eq_false_iff_ne]; omega
    cases g
    · go_enter Tryz.func33, Tryz.ntmps33
      go_wp2
      go_ret
      exact ⟨by simp, (Below.refl _ _).alloc (Nat.le_refl _) _⟩
    · go_enter Tryz.func33, Tryz.ntmps33
      go_wp2
      go_ret
      exact ⟨by simp, (Below.refl _ _).alloc (Nat.le_refl _) _⟩
theorem cmp3_bd (x y : Int) : -1 ≤ cmp3 x y ∧ cmp3 x y ≤ 1 := by
  unfold cmp3
  split
  · omega
  · split <;> omega
end Go.Proofs.YtfalncbcomlelaaGreatDoor.L
