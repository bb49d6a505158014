import Derived.Test.YtohdbpnkenoclabDoorDy8
import Derived.Test.YtohdbpnkenoclabDoorDy6
namespace Go.Proofs.YtohdbpnkenoclabDoor.Dy
open Go.RowKit Tn

theorem dput {w : World} {n : Nat} {c : Array Value} {t : TypeId} (h : Blk w n c t) (i : Nat) (v : Value) : Blk (w.setCell ⟨n, i, none⟩ v) n (c.setIfInBounds i v) t := by
  have h' : w.heap[n]? = some (.cells c t (0, 0)) := h
  show (w.setCell ⟨n, i, none⟩ v).heap[n]? = _
  simp [World.setCell, Array.getElem?_modify, h']
theorem dskip {w : World} {n b : Nat} {c : Array Value} {t : TypeId} (h : Blk w n c t) (hb : b ≠ n) (i : Nat) (v : Value) : Blk (w.setCell ⟨b, i, none⟩ v) n c t := by
  have h' : w.heap[n]? = some (.cells c t (0, 0)) := h
  show (w.setCell ⟨b, i, none⟩ v).heap[n]? = _
  simp [World.setCell, Array.getElem?_modify, h', hb]
/-- The date of a variable, in the two loops. -/
def Dv (w : World) (b0 b1 : Nat) (y m : Int) (W : World) : Prop :=
  Blk W b0 #[.int .i64 0, .int .i64 0, .int .i64 0] 23 ∧ Blk W b1 #[.int .i64 y, .int .i64 m, .int .i64 1] 23 ∧ Below w.heap.size w W
def ci (b i : Nat) (W : World) : Int := RowKit.intOf ((W.cell? ⟨b, i, none⟩).getD undef)
theorem ci_of {b i : Nat} {W : World} {z : Int} (h : W.cell? ⟨b, i, none⟩ = some (.int .i64 z)) : ci b i W = z := by unfold ci; rw [h]; rfl
theorem Dv.year {w : World} {b0 b1 : Nat} {y m : Int} {W : World} (h : Dv w b0 b1 y m W) (h0 : w.heap.size ≤ b1) (ne : b1 ≠ b0) (z : Int) : Dv w b0 b1 z m (W.setCell ⟨b1, 0, none⟩ (.int .i64 z)) :=
  ⟨dskip h.1 ne 0 _, dput h.2.1 0 _, h.2.2.setCell (p := ⟨b1, 0, none⟩) h0 _⟩
theorem Dv.month {w : World} {b0 b1 : Nat} {y m : Int} {W : World} (h : Dv w b0 b1 y m W) (h0 : w.heap.size ≤ b1) (ne : b1 ≠ b0) (z : Int) : Dv w b0 b1 y z (W.setCell ⟨b1, 1, none⟩ (.int .i64 z)) :=
  ⟨dskip h.1 ne 1 _, dput h.2.1 1 _, h.2.2.setCell (p := ⟨b1, 1, none⟩) h0 _⟩
theorem dput3 {w : World} {n : Nat} {a b c : Value} {t : TypeId} (h : Blk w n #[a, b, c] t) (x y z : Int) : Blk (((w.setCell ⟨n, 0, none⟩ (.int .i64 x)).setCell ⟨n, 1, none⟩ (.int .i64 y)).setCell ⟨n, 2, none⟩ (.int .i64 z)) n #[.int .i64 x, .int .i64 y, .int .i64 z] t := dput (dput (dput h 0 _) 1 _) 2 _
theorem dset3 {w W : World} {n : Nat} {x y z : Value} (h : Below w.heap.size w W) (hn : w.heap.size ≤ n) : Below w.heap.size w (((W.setCell ⟨n, 0, none⟩ x).setCell ⟨n, 1, none⟩ y).setCell ⟨n, 2, none⟩ z) :=
  ((h.setCell (p := ⟨n, 0, none⟩) hn x).setCell (p := ⟨n, 1, none⟩) hn y).setCell (p := ⟨n, 2, none⟩) hn z
end Go.Proofs.YtohdbpnkenoclabDoor.Dy
