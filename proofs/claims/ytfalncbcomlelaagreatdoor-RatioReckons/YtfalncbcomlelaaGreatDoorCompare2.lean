import Derived.Test.YtfalncbcomlelaaGreatDoorCompare
namespace Go.Proofs.YtfalncbcomlelaaGreatDoor
open Go.RowKit Tn

set_option maxRecDepth 100000 in
theorem compare_left (a1 a2 a3 a4 : Option Addr) (m1 c1 m2 c2 m3 c3 m4 c4 : Nat) (w : World) :
    Calls Tryz.prog 44 #[.agg #[.bool true, .slice a1 m1 c1, .slice a2 m2 c2], .agg #[.bool false, .slice a3 m3 c3, .slice a4 m4 c4]] w fun e w' => e = .returned (.int .i64 (-1)) ∧ Below w.heap.size w w' := by
  go_enter Tryz.func44, Tryz.ntmps44
  go_wp2
  go_ret
  exact ⟨rfl, ((Below.refl _ _).alloc (Nat.le_refl _) _).alloc (by simp) _⟩
set_option maxRecDepth 100000 in
theorem compare_right (a1 a2 a3 a4 : Option Addr) (m1 c1 m2 c2 m3 c3 m4 c4 : Nat) (w : World) :
    Calls Tryz.prog 44 #[.agg #[.bool false, .slice a1 m1 c1, .slice a2 m2 c2], .agg #[.bool true, .slice a3 m3 c3, .slice a4 m4 c4]] w fun e w' => e = .returned (.int .i64 1) ∧ Below w.heap.size w w' := by
  go_enter Tryz.func44, Tryz.ntmps44
  go_wp2
  go_ret
  exact ⟨rfl, ((Below.refl _ _).alloc (Nat.le_refl _) _).alloc (by simp) _⟩
end Go.Proofs.YtfalncbcomlelaaGreatDoor
