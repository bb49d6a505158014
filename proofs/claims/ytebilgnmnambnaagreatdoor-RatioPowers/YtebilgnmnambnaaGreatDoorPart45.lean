import Derived.Test.YtebilgnmnambnaaGreatDoorPart29
import Derived.Test.YtebilgnmnambnaaGreatDoorPart39
import Derived.Test.YtebilgnmnambnaaGreatDoorPart33
import Derived.Test.YtebilgnmnambnaaGreatDoorPart37
import Derived.Test.YtebilgnmnambnaaGreatDoorPart06

namespace Go.Proofs.YtebilgnmnambnaaGreatDoor.Mo
open Go.RowKit

end Go.Proofs.YtebilgnmnambnaaGreatDoor.Mo

namespace Go.Proofs.YtebilgnmnambnaaGreatDoor.Mo
open Go.RowKit Fu Tn Go.Lib Dc

structure RT7 (W x : World) (V0 V1 : Value) (y0 y1 : Bool) (t30 t31 : Value) : Prop where
  bel : Below W.heap.size W x
  o0 : y0 = true → t30 = V0
  o1 : y1 = true → t31 = V1
theorem RT7.grow {W x x' : World} {V0 V1 : Value} {y0 y1 : Bool} {t30 t31 : Value} (h : RT7 W x V0 V1 y0 y1 t30 t31) (b : Below x.heap.size x x') : RT7 W x' V0 V1 y0 y1 t30 t31 where
  bel := bel' h.bel b
  o0 := h.o0
  o1 := h.o1
/-- A fraction and no error. -/
def TR (g : Bool) (N D : Int) (t : Value) (x : World) : Prop := ∃ (a : Option Addr × Option Addr) (l c : Nat × Nat), t = .tuple #[.agg #[.bool g, .slice a.1 l.1 c.1, .slice a.2 l.2 c.2], .int .i64 0] ∧ (Nn x a.1 l.1 c.1 N ∧ Nn x a.2 l.2 c.2 D)
def UR (g : Bool) (N D : Int) (t : Value) (x : World) : Prop := ∃ (a : Option Addr × Option Addr) (l c : Nat × Nat), t = .agg #[.bool g, .slice a.1 l.1 c.1, .slice a.2 l.2 c.2] ∧ (Nn x a.1 l.1 c.1 N ∧ Nn x a.2 l.2 c.2 D)
theorem TR.grow {g : Bool} {N D : Int} {t : Value} {x x' : World} (h : TR g N D t x) (b : Below x.heap.size x x') : TR g N D t x' := by
  obtain ⟨a, l, c, e, h⟩ := h
  exact ⟨a, l, c, e, h.1.grow b, h.2.grow b⟩
theorem UR.grow {g : Bool} {N D : Int} {t : Value} {x x' : World} (h : UR g N D t x) (b : Below x.heap.size x x') : UR g N D t x' := by
  obtain ⟨a, l, c, e, h⟩ := h
  exact ⟨a, l, c, e, h.1.grow b, h.2.grow b⟩
end Go.Proofs.YtebilgnmnambnaaGreatDoor.Mo

namespace Go.Proofs.YtebilgnmnambnaaGreatDoor.Mo
open Go.RowKit Fu Tn Go.Lib Dc

end Go.Proofs.YtebilgnmnambnaaGreatDoor.Mo
