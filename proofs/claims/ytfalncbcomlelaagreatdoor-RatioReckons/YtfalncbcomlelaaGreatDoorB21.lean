import Derived.Test.YtfalncbcomlelaaGreatDoorB20
namespace Go.Proofs.YtfalncbcomlelaaGreatDoor.L
open Go.RowKit Tl

theorem cmp3_ge {x y : Int} (h : y ≤ x) : 0 ≤ cmp3 x y := by
  unfold cmp3
  rw [if_neg (by omega)]
  split <;> omega
theorem cmp3_below {x y : Int} (h : x < y) : ¬ 0 ≤ cmp3 x y := by
  unfold cmp3
  rw [if_pos h]
  omega
end Go.Proofs.YtfalncbcomlelaaGreatDoor.L
