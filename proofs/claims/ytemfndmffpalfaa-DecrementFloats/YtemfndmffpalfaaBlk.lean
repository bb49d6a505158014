import Derived.Test.YtemfndmffpalfaaMem
namespace Go.Proofs.Ytemfndmffpalfaa
open Go.RowKit Tn

/-- A block as it lies. -/
def Blk (w : World) (n : Nat) (c : Array Value) (t : TypeId) : Prop := w.heap[n]? = some (.cells c t (0, 0))
theorem Blk.lt {w : World} {n : Nat} {c : Array Value} {t : TypeId} (h : Blk w n c t) : n < w.heap.size := Own.lt ⟨c, t, h⟩
theorem Blk.below {B : Nat} {w w' : World} {n : Nat} {c : Array Value} {t : TypeId} (h : Blk w n c t) (k : Below B w w') (hn : n < B) : Blk w' n c t := (k.block n hn).trans h
theorem Blk.wr {w w' : World} {n g o m : Nat} {c : Array Value} {t : TypeId} (h : Blk w n c t) (k : Wr g o m w w') (hn : n ≠ g) : Blk w' n c t := (k.block n h.lt hn).trans h
theorem Blk.at {w : World} {n : Nat} {c : Array Value} {t : TypeId} (h : Blk w n c t) (i : Nat) : w.cell? ⟨n, i, none⟩ = c[i]? := by
  have h' : w.heap[n]? = some (.cells c t (0, 0)) := h
  simp [World.cell?, h']
theorem Blk.new (w : World) (c : Array Value) (t : TypeId) : Blk (w.alloc (.cells c t)) w.heap.size c t := heap_alloc_new _ _
theorem Blk.alloc {w : World} {n : Nat} {c : Array Value} {t : TypeId} (h : Blk w n c t) (o : Obj) : Blk (w.alloc o) n c t := h.below ((Below.refl _ _).alloc (Nat.le_refl _) o) h.lt
theorem Blk.free {w : World} {n : Nat} {c : Array Value} {t : TypeId} (h : Blk w n c t) (i : Nat) : w.frozen? ⟨n, i, none⟩ = false := by
  have h' : w.heap[n]? = some (.cells c t (0, 0)) := h
  simp [World.frozen?, h']
end Go.Proofs.Ytemfndmffpalfaa
