import Derived.Test.YtfalncbcomlelaaGreatDoorB22
namespace Go.Proofs.YtfalncbcomlelaaGreatDoor.L
open Go.RowKit Tl

theorem isq_form {w : World} {v : Value} {r : Rat} (h : IsQ w v r) : ∃ g p1 m1 c1 p2 m2 c2, v = .agg #[.bool g, .slice p1 m1 c1, .slice p2 m2 c2] ∧ Hid (g = decide (r.num < 0)) := by
  obtain ⟨ns, ds, a1, a2, c1, c2, e, _⟩ := h
  exact ⟨_, a1, _, c1, a2, _, c2, e, rfl⟩
end Go.Proofs.YtfalncbcomlelaaGreatDoor.L
namespace Go.Proofs.YtfalncbcomlelaaGreatDoor.Mo
open Go.RowKit

/-- A number of the reference's is answered. -/
def Qf (r : Rat) (x : World) (e : Ending) (w' : World) : Prop := ∃ g a l c a' l' c', e = .returned (.agg #[.bool g, .slice a l c, .slice a' l' c']) ∧ L.IsQ w' (.agg #[.bool g, .slice a l c, .slice a' l' c']) r ∧ Below x.heap.size x w'
theorem qf_of {P : Program} {f : Nat} {args : Array Value} {r : Rat} {x : World} (h : Calls P f args x fun e w' => ∃ v, e = .returned v ∧ L.IsQ w' v r ∧ Below x.heap.size x w') : Calls P f args x (Qf r x) := by
  refine h.mono ?_
  rintro e w' ⟨v, rfl, hq, b⟩
  obtain ⟨g, a, l, c, a', l', c', rfl, _⟩ := L.isq_form hq
  exact ⟨g, a, l, c, a', l', c', rfl, hq, b⟩
end Go.Proofs.YtfalncbcomlelaaGreatDoor.Mo
