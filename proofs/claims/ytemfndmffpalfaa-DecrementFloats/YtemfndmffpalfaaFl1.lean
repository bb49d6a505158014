import Derived.WalkKit
import Derived.WalkSpells
import Derived.WalkSmall
import Derived.WalkLawsBesides
import Derived.Deep.QuietTactic
import Derived.BigQuiet
import Derived.Deep.RegionHeld3
import Derived.Test.YtemfndmffpalfaaProg
import Derived.Test.YtemfndmffpalfaaBlk
namespace Go.Proofs.Ytemfndmffpalfaa
open Go.RowKit Tn

theorem bel_drew {w W w1 : World} (pr : Below w.heap.size w W) (b1 : Below W.drew.heap.size W.drew w1) : Below w.heap.size w w1 := pr.drew.trans (b1.mono (show w.heap.size ≤ W.drew.heap.size from pr.size))
theorem bel {w W w1 : World} (pr : Below w.heap.size w W) (b1 : Below W.heap.size W w1) : Below w.heap.size w w1 := pr.trans (b1.mono pr.size)
/-- The format of floats. -/
abbrev fmtW : Value := .agg #[.int .i64 53, .int .i64 (-1074), .int .i64 971]
/-- The three cells of a format in its box. -/
def FmW (x : World) (n : Nat) : Prop := x.cell? ⟨n, 0, none⟩ = some (.int .i64 53) ∧ x.cell? ⟨n, 1, none⟩ = some (.int .i64 (-1074)) ∧ x.cell? ⟨n, 2, none⟩ = some (.int .i64 971)
theorem FmW.new (w : World) (t : TypeId) : FmW (w.alloc (.cells #[.int .i64 53, .int .i64 (-1074), .int .i64 971] t)) w.heap.size := ⟨(Blk.new w _ t).at 0, (Blk.new w _ t).at 1, (Blk.new w _ t).at 2⟩
theorem FmW.lt {x : World} {n : Nat} (h : FmW x n) : n < x.heap.size := lt_of_cell h.1
theorem FmW.below {x y : World} {n : Nat} (h : FmW x n) (k : Below x.heap.size x y) : FmW y n := ⟨(k.cell (p := ⟨n, 0, none⟩) h.lt).trans h.1, (k.cell (p := ⟨n, 1, none⟩) h.lt).trans h.2.1, (k.cell (p := ⟨n, 2, none⟩) h.lt).trans h.2.2⟩
theorem FmW.alloc {x : World} {n : Nat} (h : FmW x n) (o : Obj) : FmW (x.alloc o) n := h.below ((Below.refl _ _).alloc (Nat.le_refl _) o)
/-- The format of small floats. -/
abbrev fmtS : Value := .agg #[.int .i64 24, .int .i64 (-149), .int .i64 104]
/-- The three cells of a format in its box. -/
def FmS (x : World) (n : Nat) : Prop := x.cell? ⟨n, 0, none⟩ = some (.int .i64 24) ∧ x.cell? ⟨n, 1, none⟩ = some (.int .i64 (-149)) ∧ x.cell? ⟨n, 2, none⟩ = some (.int .i64 104)
theorem FmS.new (w : World) (t : TypeId) : FmS (w.alloc (.cells #[.int .i64 24, .int .i64 (-149), .int .i64 104] t)) w.heap.size := ⟨(Blk.new w _ t).at 0, (Blk.new w _ t).at 1, (Blk.new w _ t).at 2⟩
theorem FmS.lt {x : World} {n : Nat} (h : FmS x n) : n < x.heap.size := lt_of_cell h.1
theorem FmS.below {x y : World} {n : Nat} (h : FmS x n) (k : Below x.heap.size x y) : FmS y n := ⟨(k.cell (p := ⟨n, 0, none⟩) h.lt).trans h.1, (k.cell (p := ⟨n, 1, none⟩) h.lt).trans h.2.1, (k.cell (p := ⟨n, 2, none⟩) h.lt).trans h.2.2⟩
theorem FmS.alloc {x : World} {n : Nat} (h : FmS x n) (o : Obj) : FmS (x.alloc o) n := h.below ((Below.refl _ _).alloc (Nat.le_refl _) o)
end Go.Proofs.Ytemfndmffpalfaa
