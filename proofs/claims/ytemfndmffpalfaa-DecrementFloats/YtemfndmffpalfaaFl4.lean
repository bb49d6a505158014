import Derived.Test.YtemfndmffpalfaaFl3
namespace Go.Proofs.Ytemfndmffpalfaa
open Go.RowKit Tn

theorem Blk.put {w : World} {n : Nat} {c : Array Value} {t : TypeId} (h : Blk w n c t) (i : Nat) (v : Value) : Blk (w.setCell ⟨n, i, none⟩ v) n (c.setIfInBounds i v) t := by
  have h' : w.heap[n]? = some (.cells c t (0, 0)) := h
  show (w.setCell ⟨n, i, none⟩ v).heap[n]? = _
  simp [World.setCell, Array.getElem?_modify, h']
theorem Blk.skip {w : World} {n b : Nat} {c : Array Value} {t : TypeId} (h : Blk w n c t) (hb : b ≠ n) (i : Nat) (v : Value) : Blk (w.setCell ⟨b, i, none⟩ v) n c t := by
  have h' : w.heap[n]? = some (.cells c t (0, 0)) := h
  show (w.setCell ⟨b, i, none⟩ v).heap[n]? = _
  simp [World.setCell, Array.getElem?_modify, h', hb]
/-- A variable of four cells is made. -/
theorem var4 {w3 w4 : World} {t : TypeId} {c : Array Value} (b4 : Below (w3.alloc (.cells c t)).heap.size (w3.alloc (.cells c t)) w4) :
    Below w3.heap.size w3 w4 ∧ Blk w4 w3.heap.size c t :=
  ⟨bel ((Below.refl _ _).alloc (Nat.le_refl _) _) b4, (Blk.new w3 c t).below b4 (Blk.new w3 c t).lt⟩
end Go.Proofs.Ytemfndmffpalfaa
