import Derived.Test.YtfalncbcomlelaaGreatDoorMul2
namespace Go.Proofs.YtfalncbcomlelaaGreatDoor
open Go.RowKit Tn

theorem Rd.shape {w : World} {v : Value} {xs : List Int} (h : Rd w v xs) : ∃ a l c, v = .slice a l c := by
  obtain ⟨_, a, c, e, _⟩ := h; exact ⟨a, _, c, e⟩

end Go.Proofs.YtfalncbcomlelaaGreatDoor
