import Derived.Test.YtiobnojcmeeikaaGreatDoorPart01
import Derived.Test.YtiobnojcmeeikaaGreatDoorPart25
import Derived.Laws.AppendOwn
import Derived.Laws.OwnMore
import Derived.OwnWalk
import Derived.Laws.Strings
import Derived.Test.YtiobnojcmeeikaaGreatDoorPart30
import Derived.Deep.RegionHeld3
import Derived.Test.YtiobnojcmeeikaaGreatDoorPart07

namespace Go.Proofs.YtiobnojcmeeikaaGreatDoor
open Go.RowKit Tn

end Go.Proofs.YtiobnojcmeeikaaGreatDoor

namespace Go.Proofs.YtiobnojcmeeikaaGreatDoor
open Go.RowKit Tn

theorem ex_from (D : ByteArray) (n : Nat) : (D.extract n D.size).data.toList = D.data.toList.drop n := by
  have : D.size = D.data.toList.length := by rw [Array.length_toList]; rfl
  rw [this]
  simp only [ByteArray.data_extract, Array.toList_extract, List.extract_eq_take_drop]
  rw [List.take_of_length_le (by rw [List.length_drop]; omega)]
/-- Where Parse stands behind c digits. -/
structure Ps (l : List UInt8) (c : Nat) (D : ByteArray) (X : List Int) : Prop where
  le : c ≤ l.length
  rest : D.data.toList = l.drop c
  part : c = 0 ∧ X = [] ∨ (l.length - c) % 19 = 0
  wd : Wd X
  v : val X = (Dc.num (l.take c) : Int)
  len : X.length ≤ (c + 18) / 19
theorem Ps.size {l : List UInt8} {c : Nat} {D : ByteArray} {X : List Int} (h : Ps l c D X) : D.size = l.length - c := by
  have : D.size = D.data.toList.length := by rw [Array.length_toList]; rfl
  rw [this, h.rest, List.length_drop]
theorem Ps.next {l : List UInt8} {c n : Nat} {D : ByteArray} {X Y : List Int} (h : Ps l c D X) (hr : 0 < D.size) (hn : n = (D.size - 1) % 19 + 1) (hY : Wd Y) (hv : val Y = val X * 10000000000000000000 + (Dc.num ((l.drop c).take n) : Int)) (hl : Y.length ≤ X.length + 1) :
    Ps l (c + n) (D.extract n D.size) Y := by
  have hs := h.size
  have n1 : c + n ≤ l.length := by omega
  refine ⟨n1, by rw [ex_from, h.rest, List.drop_drop], Or.inr (by omega), hY, ?_, ?_⟩
  · rw [hv, h.v, List.take_add, Dc.num_append, List.length_take, List.length_drop, Nat.min_eq_left (by omega)]
    rcases h.part with ⟨rfl, _⟩ | hp
    · simp [Dc.num]
    · have : n = 19 := by omega
      subst this
      simp
  · have := h.len
    rcases h.part with ⟨rfl, rfl⟩ | hp
    · simp at hl
      omega
    · omega

end Go.Proofs.YtiobnojcmeeikaaGreatDoor

namespace Go.Proofs.YtiobnojcmeeikaaGreatDoor.Mo
open Go.RowKit Dc

theorem bel' {w W w1 : World} (pr : Below w.heap.size w W) (b1 : Below W.heap.size W w1) : Below w.heap.size w w1 := pr.trans (b1.mono pr.size)
/-- A fraction in its own block. -/
structure Rb (W : World) (n : Nat) (a b c : Value) : Prop where
  c0 : W.cell? ⟨n, 0, none⟩ = some a
  c1 : W.cell? ⟨n, 1, none⟩ = some b
  c2 : W.cell? ⟨n, 2, none⟩ = some c
  f0 : W.frozen? ⟨n, 0, none⟩ = false
  f1 : W.frozen? ⟨n, 1, none⟩ = false
  f2 : W.frozen? ⟨n, 2, none⟩ = false
  bk : ∃ t, Blk W n #[a, b, c] t
theorem Rb.new (w : World) (a b c : Value) (t : TypeId) : Rb (w.alloc (.cells #[a, b, c] t)) w.heap.size a b c := ⟨by simp, by simp, by simp, by simp, by simp, by simp, t, Blk.new _ _ _⟩
theorem Rb.grow {w w' : World} {n : Nat} {a b c : Value} (h : Rb w n a b c) (k : Below w.heap.size w w') : Rb w' n a b c := by
  have l := L.lt_of_cell h.c0
  exact ⟨(k.cell (p := ⟨n, 0, none⟩) l).trans h.c0, (k.cell (p := ⟨n, 1, none⟩) l).trans h.c1, (k.cell (p := ⟨n, 2, none⟩) l).trans h.c2, (k.frozen (p := ⟨n, 0, none⟩) l).trans h.f0, (k.frozen (p := ⟨n, 1, none⟩) l).trans h.f1, (k.frozen (p := ⟨n, 2, none⟩) l).trans h.f2, by obtain ⟨t, e⟩ := h.bk; exact ⟨t, e.below k l⟩⟩
theorem Rb.alloc {w : World} {n : Nat} {a b c : Value} (h : Rb w n a b c) (o : Obj) : Rb (w.alloc o) n a b c := h.grow ((Below.refl _ _).alloc (Nat.le_refl _) o)
theorem Rb.put {W : World} {n : Nat} {a b c : Value} (h : Rb W n a b c) (x y z : Value) :
    (((W.setCell ⟨n, 0, none⟩ x).setCell ⟨n, 1, none⟩ y).setCell ⟨n, 2, none⟩ z).cell? ⟨n, 0, none⟩ = some x ∧ (((W.setCell ⟨n, 0, none⟩ x).setCell ⟨n, 1, none⟩ y).setCell ⟨n, 2, none⟩ z).cell? ⟨n, 1, none⟩ = some y ∧ (((W.setCell ⟨n, 0, none⟩ x).setCell ⟨n, 1, none⟩ y).setCell ⟨n, 2, none⟩ z).cell? ⟨n, 2, none⟩ = some z := by
  have h1 : (W.setCell ⟨n, 0, none⟩ x).cell? ⟨n, 1, none⟩ = some b := (World.cell?_setCell_other _ _ _ _ (by simp)).trans h.c1
  have h2 : ((W.setCell ⟨n, 0, none⟩ x).setCell ⟨n, 1, none⟩ y).cell? ⟨n, 2, none⟩ = some c := (World.cell?_setCell_other _ _ _ _ (by simp)).trans ((World.cell?_setCell_other _ _ _ _ (by simp)).trans h.c2)
  refine ⟨?_, ?_, World.cell?_setCell_same _ _ _ h2⟩
  · rw [World.cell?_setCell_other _ _ _ _ (by simp), World.cell?_setCell_other _ _ _ _ (by simp), World.cell?_setCell_same _ _ _ h.c0]
  · rw [World.cell?_setCell_other _ _ _ _ (by simp), World.cell?_setCell_same _ _ _ h1]
end Go.Proofs.YtiobnojcmeeikaaGreatDoor.Mo

namespace Go.Proofs.YtiobnojcmeeikaaGreatDoor.Mo
open Go.RowKit Dc Tn

/-- A value that is a number of which P holds. -/
def Rn (x : World) (t : Value) (P : List Int → Prop) : Prop := ∃ a l c xs, t = .agg #[.slice a l c] ∧ Rd x (.slice a l c) xs ∧ Nm xs ∧ P xs
theorem Rn.grow {x x' : World} {t : Value} {P : List Int → Prop} (h : Rn x t P) (b : Below x.heap.size x x') : Rn x' t P := by
  obtain ⟨a, l, c, xs, e, r, n, p⟩ := h
  exact ⟨a, l, c, xs, e, r.grow b, n, p⟩
/-- What holds while the two numbers are read. -/
structure MR (W x : World) (V0 V2 V3 : Value) (P1 P4 : List Int → Prop) (y0 y1 y2 y3 y4 y5 y6 : Bool) (t50 t51 t52 t53 t54 t6 t7 : Value) : Prop where
  bel : Below W.heap.size W x
  o0 : y0 = true → t50 = V0
  o2 : y2 = true → t52 = V2
  o3 : y3 = true → t53 = V3
  o1 : y1 = true → Rn x t51 P1
  o4 : y4 = true → Rn x t54 P4
  o5 : y5 = true → ∃ X, t6 = .pointer (some ⟨X, 0, none⟩) ∧ W.heap.size ≤ X ∧ Bx x X (.slice none 0 0)
  o6 : y6 = true → ∃ X, t7 = .pointer (some ⟨X, 0, none⟩) ∧ W.heap.size ≤ X ∧ Bx x X (.slice none 0 0)
  ne : y5 = true → y6 = true → t6 ≠ t7
  d1_0 : y1 = true → y0 = true
  d3_2 : y3 = true → y2 = true
  d4_3 : y4 = true → y3 = true
  d4_1 : y4 = true → y1 = true
theorem MR.grow {W x x' : World} {V0 V2 V3 : Value} {P1 P4 : List Int → Prop} {y0 y1 y2 y3 y4 y5 y6 : Bool} {t50 t51 t52 t53 t54 t6 t7 : Value} (h : MR W x V0 V2 V3 P1 P4 y0 y1 y2 y3 y4 y5 y6 t50 t51 t52 t53 t54 t6 t7) (b : Below x.heap.size x x') : MR W x' V0 V2 V3 P1 P4 y0 y1 y2 y3 y4 y5 y6 t50 t51 t52 t53 t54 t6 t7 where
  bel := bel' h.bel b
  o0 := h.o0
  o2 := h.o2
  o3 := h.o3
  o1 := fun u => (h.o1 u).grow b
  o4 := fun u => (h.o4 u).grow b
  o5 := fun u => by obtain ⟨k, e, l, K⟩ := h.o5 u; exact ⟨k, e, l, K.below b⟩
  o6 := fun u => by obtain ⟨k, e, l, K⟩ := h.o6 u; exact ⟨k, e, l, K.below b⟩
  ne := h.ne
  d1_0 := h.d1_0
  d3_2 := h.d3_2
  d4_3 := h.d4_3
  d4_1 := h.d4_1
end Go.Proofs.YtiobnojcmeeikaaGreatDoor.Mo
