import Derived.WalkKit
import Derived.WalkSpells
import Derived.WalkSmall
import Derived.Deep.QuietTactic
import Derived.BigQuiet
import Derived.Test.YtgfjjlopfoenkaaGreatDoorPart07

namespace Go.Proofs.YtgfjjlopfoenkaaGreatDoor
open Go.RowKit Tn
/-- A word of a row, kept from the walk's own rules. -/
def nth (xs : List Int) (i : Nat) : Int := xs.getD i 0
theorem nth_bd {xs : List Int} (h : Wd xs) (i : Nat) : 0 ≤ nth xs i ∧ nth xs i < 18446744073709551616 := h.get i
theorem nth_set_same (xs : List Int) (k : Nat) (v : Int) (h : k < xs.length) : nth (xs.set k v) k = v := by simp [nth, List.getD_eq_getElem?_getD, h]
theorem nth_set_other (xs : List Int) (k j : Nat) (v : Int) (h : k ≠ j) : nth (xs.set k v) j = nth xs j := by simp [nth, List.getD_eq_getElem?_getD, h]
theorem nth_drop (xs : List Int) (k j : Nat) : nth (xs.drop k) j = nth xs (k + j) := by simp [nth, List.getD_eq_getElem?_getD]
theorem nth_take (xs : List Int) (k j : Nat) (h : j < k) : nth (xs.take k) j = nth xs j := by simp [nth, List.getD_eq_getElem?_getD, h]

/-- X is S, rewritten up to place k. -/
structure Part (X S : List Int) (k : Nat) : Prop where
  len : X.length = S.length
  wd : Wd X
  drop : X.drop k = S.drop k
theorem Part.refl {S : List Int} (h : Wd S) (k : Nat) : Part S S k := ⟨rfl, h, rfl⟩
theorem Part.nth {X S : List Int} {k : Nat} (h : Part X S k) : nth X k = nth S k := by
  have e := congrArg (fun l => Go.Proofs.YtgfjjlopfoenkaaGreatDoor.nth l 0) h.drop
  simpa [nth_drop] using e
theorem Part.step {X S : List Int} {k : Nat} (h : Part X S k) {v : Int} (h0 : 0 ≤ v) (h1 : v < 18446744073709551616) : Part (X.set k v) S (k + 1) := by
  refine ⟨by rw [List.length_set, h.len], h.wd.set k h0 h1, ?_⟩
  rw [drop_set_succ]
  have e := congrArg (List.drop 1) h.drop
  simpa [List.drop_drop, Nat.add_comm] using e
theorem Part.val {X S : List Int} {k : Nat} (h : Part X S k) (hk : k < S.length) (v : Int) : val ((X.set k v).take (k + 1)) = val (X.take k) + pw k * v := by
  have hl := h.len
  rw [take_set_succ X k v (by omega), val_append, List.length_take, Nat.min_eq_left (by omega)]; simp [Tn.val]
theorem Part.whole {X S : List Int} {k : Nat} (h : Part X S k) (hk : k ≤ S.length) : Tn.val X - Tn.val (X.take k) = Tn.val S - Tn.val (S.take k) := by
  have hl := h.len
  have e1 := val_split X k (by omega); have e2 := val_split S k hk; rw [h.drop] at e1; omega
theorem val_at (xs : List Int) (k : Nat) (h : k < xs.length) : val (xs.take (k + 1)) = val (xs.take k) + pw k * nth xs k := val_take_succ xs k h

/-- The cells of block b from o on hold the words xs. -/
def Cells (w : World) (b o : Nat) (xs : List Int) : Prop := ∀ i, i < xs.length → w.cell? ⟨b, o + i, none⟩ = some (.int .u64 (nth xs i))
/-- n cells of block b from o on may be written. -/
def Free (w : World) (b o n : Nat) : Prop := ∀ i, i < n → w.frozen? ⟨b, o + i, none⟩ = false

/-- Nothing that lay in w has turned, but n cells of block b from o on. -/
structure Wr (b o n : Nat) (w w' : World) : Prop where
  os : w'.os = w.os
  tape : w'.tape = w.tape
  output : w'.output = w.output
  size : w.heap.size ≤ w'.heap.size
  block : ∀ k, k < w.heap.size → k ≠ b → w'.heap[k]? = w.heap[k]?
  cell : ∀ i, (i < o ∨ o + n ≤ i) → w'.cell? ⟨b, i, none⟩ = w.cell? ⟨b, i, none⟩
  froz : ∀ i, w'.frozen? ⟨b, i, none⟩ = w.frozen? ⟨b, i, none⟩
  own : ∀ c t f, w.heap[b]? = some (.cells c t f) → ∃ c', w'.heap[b]? = some (.cells c' t f) ∧ c'.size = c.size

theorem Wr.refl (b o n : Nat) (w : World) : Wr b o n w w := ⟨rfl, rfl, rfl, Nat.le_refl _, fun _ _ _ => rfl, fun _ _ => rfl, fun _ => rfl, fun c _ _ h => ⟨c, h, rfl⟩⟩
theorem Wr.trans {b o n : Nat} {x y z : World} (h : Wr b o n x y) (k : Wr b o n y z) : Wr b o n x z :=
  ⟨k.os.trans h.os, k.tape.trans h.tape, k.output.trans h.output, Nat.le_trans h.size k.size, fun i hi hb => (k.block i (Nat.lt_of_lt_of_le hi h.size) hb).trans (h.block i hi hb),
    fun i hi => (k.cell i hi).trans (h.cell i hi), fun i => (k.froz i).trans (h.froz i), fun c t f e => by obtain ⟨c1, e1, s1⟩ := h.own c t f e; obtain ⟨c2, e2, s2⟩ := k.own c1 t f e1; exact ⟨c2, e2, s2.trans s1⟩⟩
theorem Wr.drew {b o n : Nat} {x y : World} (h : Wr b o n x y) : Wr b o n x y.drew := ⟨h.os, h.tape, h.output, h.size, h.block, h.cell, h.froz, h.own⟩
theorem Wr.drewN {b o n : Nat} {x y : World} (h : Wr b o n x y) (m : Nat) : Wr b o n x (y.drewN m) := ⟨h.os, h.tape, h.output, h.size, h.block, h.cell, h.froz, h.own⟩
theorem Wr.mono {b o n o' n' : Nat} {x y : World} (h : Wr b o n x y) (h1 : o' ≤ o) (h2 : o + n ≤ o' + n') : Wr b o' n' x y := ⟨h.os, h.tape, h.output, h.size, h.block, fun i hi => h.cell i (by omega), h.froz, h.own⟩
theorem Wr.setCell {b o n : Nat} {x y : World} (h : Wr b o n x y) (i : Nat) (hi : o ≤ i ∧ i < o + n) (v : Value) : Wr b o n x (y.setCell ⟨b, i, none⟩ v) :=
  h.trans ⟨rfl, rfl, rfl, by simp [World.setCell], fun k _ hb => Below.heap_setCell _ _ _ _ hb, fun j hj => World.cell?_setCell_other _ _ _ _ (by simp), fun j => World.frozen?_setCell _ _ _ _, fun c t f e => ⟨c.setIfInBounds i v, by simp [World.setCell, Array.getElem?_modify, e], by simp⟩⟩
theorem Wr.below {b o n : Nat} {x y : World} (h : Wr b o n x y) {B : Nat} (hB : B ≤ b) (hB' : B ≤ x.heap.size) : Below B x y :=
  ⟨h.os, h.tape, h.output, h.size, fun k hk => h.block k (by omega) (by omega)⟩
theorem Wr.of_below {b o n : Nat} {x y : World} (h : Below x.heap.size x y) (hb : b < x.heap.size) : Wr b o n x y :=
  ⟨h.os, h.tape, h.output, h.size, fun k hk _ => h.block k hk, fun _ _ => h.cell hb, fun _ => h.frozen hb, fun c _ _ e => ⟨c, (h.block b hb).trans e, rfl⟩⟩
theorem Wr.alloc {b o n : Nat} {x y : World} (h : Wr b o n x y) (hb : b < x.heap.size) (ob : Obj) : Wr b o n x (y.alloc ob) :=
  h.trans (Wr.of_below ((Below.refl _ _).alloc (Nat.le_refl _) ob) (Nat.lt_of_lt_of_le hb h.size))

theorem lt_of_cell {w : World} {b i : Nat} {v : Value} (h : w.cell? ⟨b, i, none⟩ = some v) : b < w.heap.size := by
  by_cases hb : b < w.heap.size
  · exact hb
  · simp [World.cell?, Array.getElem?_eq_none (Nat.le_of_not_lt hb)] at h
theorem Cells.lt {w : World} {b o : Nat} {xs : List Int} (h : Cells w b o xs) (ne : 0 < xs.length) : b < w.heap.size := lt_of_cell (h 0 ne)
theorem Cells.at {w : World} {b o : Nat} {xs : List Int} (h : Cells w b o xs) {i : Nat} (hi : i < xs.length) : w.cell? ⟨b, o + i, none⟩ = some (.int .u64 (nth xs i)) := h i hi
theorem Cells.below {w w' : World} {B b o : Nat} {xs : List Int} (h : Cells w b o xs) (k : Below B w w') (hb : b < B) : Cells w' b o xs := fun i hi => (k.cell (p := ⟨b, o + i, none⟩) hb).trans (h i hi)
theorem Cells.grow {w w' : World} {b o : Nat} {xs : List Int} (h : Cells w b o xs) (k : Below w.heap.size w w') : Cells w' b o xs := fun i hi => (k.cell (p := ⟨b, o + i, none⟩) (lt_of_cell (h i hi))).trans (h i hi)
/-- Writes to another block turn nothing here. -/
theorem Cells.other {w w' : World} {b o b' o' n' : Nat} {xs : List Int} (h : Cells w b o xs) (k : Wr b' o' n' w w') (hb : b ≠ b') : Cells w' b o xs := fun i hi =>
  (World.cell?_of_block (a := ⟨b, o + i, none⟩) (k.block b (lt_of_cell (h i hi)) hb)).trans (h i hi)
/-- Writes elsewhere in the same block turn nothing here. -/
theorem Cells.apart {w w' : World} {b o o' n' : Nat} {xs : List Int} (h : Cells w b o xs) (k : Wr b o' n' w w') (hb : o + xs.length ≤ o' ∨ o' + n' ≤ o) : Cells w' b o xs := fun i hi =>
  (k.cell (o + i) (by omega)).trans (h i hi)
theorem Cells.set {w : World} {b o : Nat} {xs : List Int} (h : Cells w b o xs) (k : Nat) (hk : k < xs.length) (v : Int) : Cells (w.setCell ⟨b, o + k, none⟩ (.int .u64 v)) b o (xs.set k v) := by
  intro i hi
  rw [List.length_set] at hi
  by_cases e : k = i
  · subst e; rw [nth_set_same _ _ _ hk]; exact World.cell?_setCell_same _ _ _ (h k hk)
  · rw [nth_set_other _ _ _ _ e, World.cell?_setCell_other _ _ _ _ (by simp)]; exact h i hi
theorem Cells.drop {w : World} {b o : Nat} {xs : List Int} (h : Cells w b o xs) (k : Nat) : Cells w b (o + k) (xs.drop k) := by
  intro i hi
  rw [List.length_drop] at hi
  rw [nth_drop, Nat.add_assoc]; exact h (k + i) (by omega)
theorem Cells.take {w : World} {b o : Nat} {xs : List Int} (h : Cells w b o xs) (k : Nat) : Cells w b o (xs.take k) := by
  intro i hi
  rw [List.length_take] at hi
  rw [nth_take _ _ _ (by omega)]; exact h i (by omega)
theorem Cells.append {w : World} {b o : Nat} {xs ys : List Int} (h : Cells w b o xs) (k : Cells w b (o + xs.length) ys) : Cells w b o (xs ++ ys) := by
  intro i hi
  rw [List.length_append] at hi
  by_cases e : i < xs.length
  · have : nth (xs ++ ys) i = nth xs i := by simp [nth, List.getD_eq_getElem?_getD, List.getElem?_append_left e]
    rw [this]; exact h i e
  · have : nth (xs ++ ys) i = nth ys (i - xs.length) := by simp [nth, List.getD_eq_getElem?_getD, List.getElem?_append_right (Nat.le_of_not_lt e)]
    rw [this]; have := k (i - xs.length) (by omega); rwa [Nat.add_assoc, Nat.add_sub_cancel' (Nat.le_of_not_lt e)] at this
theorem Free.drop {w : World} {b o n : Nat} (h : Free w b o n) (k : Nat) : Free w b (o + k) (n - k) := fun i hi => by rw [Nat.add_assoc]; exact h (k + i) (by omega)
theorem Free.mono {w : World} {b o n m : Nat} (h : Free w b o n) (k : m ≤ n) : Free w b o m := fun i hi => h i (by omega)
theorem Free.wr {w w' : World} {b o n b' o' n' : Nat} (h : Free w b o n) (k : Wr b' o' n' w w') (hb : b < w.heap.size) : Free w' b o n := fun i hi => by
  by_cases e : b = b'
  · subst e; exact (k.froz (o + i)).trans (h i hi)
  · exact (World.frozen?_of_block (a := ⟨b, o + i, none⟩) (k.block b hb e)).trans (h i hi)
theorem Free.grow {w w' : World} {b o n : Nat} (h : Free w b o n) (k : Below w.heap.size w w') (hb : b < w.heap.size) : Free w' b o n := fun i hi => (k.frozen (p := ⟨b, o + i, none⟩) hb).trans (h i hi)

/-- What lay in W is read in w1 as it was. -/
theorem bcell {W w1 : World} (hb : Below W.heap.size W w1) : (∀ b o, b < W.heap.size → w1.cell? ⟨b, o, none⟩ = W.cell? ⟨b, o, none⟩) ∧ (∀ b o, b < W.heap.size → w1.frozen? ⟨b, o, none⟩ = W.frozen? ⟨b, o, none⟩) :=
  ⟨fun b o h => hb.cell (p := ⟨b, o, none⟩) h, fun b o h => hb.frozen (p := ⟨b, o, none⟩) h⟩
theorem wcell {g o n : Nat} {W w1 : World} (hb : Wr g o n W w1) (hg : g < W.heap.size) : (∀ b i, b < g → w1.cell? ⟨b, i, none⟩ = W.cell? ⟨b, i, none⟩) ∧ (∀ b i, b < g → w1.frozen? ⟨b, i, none⟩ = W.frozen? ⟨b, i, none⟩) :=
  ⟨fun b i h => World.cell?_of_block (a := ⟨b, i, none⟩) (hb.block b (by omega) (by omega)), fun b i h => World.frozen?_of_block (a := ⟨b, i, none⟩) (hb.block b (by omega) (by omega))⟩
/-- A variable of one cell, in a block of its own. -/
structure Bx (w : World) (n : Nat) (v : Value) : Prop where
  cell : w.cell? ⟨n, 0, none⟩ = some v
  free : w.frozen? ⟨n, 0, none⟩ = false
  blk : ∃ t, w.heap[n]? = some (.cells #[v] t (0, 0))
theorem Bx.lt {w : World} {n : Nat} {v : Value} (h : Bx w n v) : n < w.heap.size := lt_of_cell h.1
theorem Bx.below {W w1 : World} {n : Nat} {v : Value} (h : Bx W n v) (k : Below W.heap.size W w1) : Bx w1 n v := ⟨(k.cell (p := ⟨n, 0, none⟩) h.lt).trans h.1, (k.frozen (p := ⟨n, 0, none⟩) h.lt).trans h.2, by obtain ⟨t, e⟩ := h.3; exact ⟨t, (k.block n h.lt).trans e⟩⟩
theorem Bx.wr {W w1 : World} {n g o m : Nat} {v : Value} (h : Bx W n v) (k : Wr g o m W w1) (hn : n ≠ g) : Bx w1 n v :=
  ⟨(World.cell?_of_block (a := ⟨n, 0, none⟩) (k.block n h.lt hn)).trans h.1, (World.frozen?_of_block (a := ⟨n, 0, none⟩) (k.block n h.lt hn)).trans h.2, by obtain ⟨t, e⟩ := h.3; exact ⟨t, (k.block n h.lt hn).trans e⟩⟩
theorem Bx.new (w : World) (v : Value) (t : TypeId) : Bx (w.alloc (.cells #[v] t)) w.heap.size v := ⟨by simp, by simp, t, heap_alloc_new _ _⟩
theorem Bx.alloc {w : World} {n : Nat} {v : Value} (h : Bx w n v) (o : Obj) : Bx (w.alloc o) n v := h.below ((Below.refl _ _).alloc (Nat.le_refl _) o)
/-- The last step: the result goes into its cell. -/
theorem below_put {B n : Nat} {w w' : World} (h : Below B w w') (hn : B ≤ n) (v : Value) : Below B w (w'.setCell ⟨n, 0, none⟩ v) := h.setCell (p := ⟨n, 0, none⟩) hn v
theorem below_alloc1 {w w1 : World} {o0 : Obj} (k : Below (w.heap.size + 1) (w.alloc o0) w1) : Below w.heap.size w w1 := by
  refine Below.trans ?_ (k.mono (by omega))
  repeat (first | exact Below.refl _ _ | (refine Below.alloc ?_ (by first | exact Nat.le_refl _ | (simp only [World.size_alloc]; omega)) _))
theorem below_alloc2 {w w1 : World} {o0 o1 : Obj} (k : Below (w.heap.size + 1 + 1) ((w.alloc o0).alloc o1) w1) : Below w.heap.size w w1 := by
  refine Below.trans ?_ (k.mono (by omega))
  repeat (first | exact Below.refl _ _ | (refine Below.alloc ?_ (by first | exact Nat.le_refl _ | (simp only [World.size_alloc]; omega)) _))
theorem below_alloc3 {w w1 : World} {o0 o1 o2 : Obj} (k : Below (w.heap.size + 1 + 1 + 1) (((w.alloc o0).alloc o1).alloc o2) w1) : Below w.heap.size w w1 := by
  refine Below.trans ?_ (k.mono (by omega))
  repeat (first | exact Below.refl _ _ | (refine Below.alloc ?_ (by first | exact Nat.le_refl _ | (simp only [World.size_alloc]; omega)) _))
theorem below_alloc4 {w w1 : World} {o0 o1 o2 o3 : Obj} (k : Below (w.heap.size + 1 + 1 + 1 + 1) ((((w.alloc o0).alloc o1).alloc o2).alloc o3) w1) : Below w.heap.size w w1 := by
  refine Below.trans ?_ (k.mono (by omega))
  repeat (first | exact Below.refl _ _ | (refine Below.alloc ?_ (by first | exact Nat.le_refl _ | (simp only [World.size_alloc]; omega)) _))
theorem below_alloc5 {w w1 : World} {o0 o1 o2 o3 o4 : Obj} (k : Below (w.heap.size + 1 + 1 + 1 + 1 + 1) (((((w.alloc o0).alloc o1).alloc o2).alloc o3).alloc o4) w1) : Below w.heap.size w w1 := by
  refine Below.trans ?_ (k.mono (by omega))
  repeat (first | exact Below.refl _ _ | (refine Below.alloc ?_ (by first | exact Nat.le_refl _ | (simp only [World.size_alloc]; omega)) _))
theorem below_alloc6 {w w1 : World} {o0 o1 o2 o3 o4 o5 : Obj} (k : Below (w.heap.size + 1 + 1 + 1 + 1 + 1 + 1) ((((((w.alloc o0).alloc o1).alloc o2).alloc o3).alloc o4).alloc o5) w1) : Below w.heap.size w w1 := by
  refine Below.trans ?_ (k.mono (by omega))
  repeat (first | exact Below.refl _ _ | (refine Below.alloc ?_ (by first | exact Nat.le_refl _ | (simp only [World.size_alloc]; omega)) _))

/-- Block b is one of words' rows that nothing has frozen. -/
def Own (w : World) (b : Nat) : Prop := ∃ c t, w.heap[b]? = some (.cells c t (0, 0))
theorem Own.free {w : World} {b : Nat} (h : Own w b) (o n : Nat) : Free w b o n := by
  obtain ⟨c, t, e⟩ := h
  intro i _
  simp [World.frozen?, e]
theorem Own.lt {w : World} {b : Nat} (h : Own w b) : b < w.heap.size := by
  obtain ⟨c, t, e⟩ := h
  by_cases hb : b < w.heap.size
  · exact hb
  · rw [Array.getElem?_eq_none (Nat.le_of_not_lt hb)] at e; simp at e
theorem Own.wr {w w' : World} {b b' o n : Nat} (h : Own w b) (k : Wr b' o n w w') : Own w' b := by
  have hb := h.lt
  obtain ⟨c, t, e⟩ := h
  by_cases e' : b = b'
  · subst e'; obtain ⟨c', e1, _⟩ := k.own c t _ e; exact ⟨c', t, e1⟩
  · exact ⟨c, t, (k.block b hb e').trans e⟩
theorem Own.grow {w w' : World} {b : Nat} (h : Own w b) (k : Below w.heap.size w w') : Own w' b := by
  have hb := h.lt
  obtain ⟨c, t, e⟩ := h
  exact ⟨c, t, (k.block b hb).trans e⟩

/-- The slice value v reads as the words xs. -/
def Rd (w : World) (v : Value) (xs : List Int) : Prop :=
  Wd xs ∧ ∃ a cap, v = .slice a xs.length cap ∧ xs.length ≤ cap ∧ cap ≤ maxLen ∧ (0 < xs.length → ∃ b o, a = some ⟨b, o, none⟩ ∧ Cells w b o xs)
theorem Rd.grow {w w' : World} {v : Value} {xs : List Int} (h : Rd w v xs) (k : Below w.heap.size w w') : Rd w' v xs := by
  obtain ⟨h1, a, cap, h2, h3, h4, h5⟩ := h
  exact ⟨h1, a, cap, h2, h3, h4, fun l => by obtain ⟨b, o, e, c⟩ := h5 l; exact ⟨b, o, e, c.grow k⟩⟩
theorem Rd.nil (w : World) : Rd w (.slice none 0 0) [] := ⟨Wd.nil, none, 0, rfl, Nat.le_refl _, by decide, fun h => by simp at h⟩
theorem Rd.put {w : World} {n : Nat} {v u : Value} {xs : List Int} (h : Rd w v xs) (hn : ∀ b o l c, v = .slice (some ⟨b, o, none⟩) l c → b ≠ n) : Rd (w.setCell ⟨n, 0, none⟩ u) v xs := by
  obtain ⟨h1, a, cap, h2, h3, h4, h5⟩ := h
  refine ⟨h1, a, cap, h2, h3, h4, fun l => ?_⟩
  obtain ⟨b, o, e, c⟩ := h5 l
  refine ⟨b, o, e, fun i hi => ?_⟩
  rw [World.cell?_setCell_other _ _ _ _ (by have := hn b o _ _ (by rw [h2, e]); simp; try omega)]
  exact c i hi
/-- A variable that holds a slice lies apart from all words: its cell may be written. -/
theorem Rd.box {w : World} {n : Nat} {v u : Value} {xs : List Int} {a : Option Addr} {l c : Nat} (h : Rd w v xs) (hb : Bx w n (.slice a l c)) : Rd (w.setCell ⟨n, 0, none⟩ u) v xs := by
  obtain ⟨h1, a, cap, h2, h3, h4, h5⟩ := h
  refine ⟨h1, a, cap, h2, h3, h4, fun l => ?_⟩
  obtain ⟨b, o, e, hc⟩ := h5 l
  refine ⟨b, o, e, fun i hi => ?_⟩
  have hne : b ≠ n := by
    rintro rfl
    obtain ⟨t, hb⟩ := hb.3
    have := hc 0 (by omega)
    simp only [World.cell?, hb] at this
    by_cases h0 : o = 0
    · subst h0; simp at this
    · simp [h0] at this
  rw [World.cell?_setCell_other _ _ _ _ (by simp; try omega)]
  exact hc i hi
theorem Cells.drew {w : World} {b o : Nat} {xs : List Int} (h : Cells w b o xs) : Cells w.drew b o xs := h
theorem Free.drew {w : World} {b o n : Nat} (h : Free w b o n) : Free w.drew b o n := h
theorem Own.drew {w : World} {b : Nat} (h : Own w b) : Own w.drew b := h
theorem Bx.drew {w : World} {n : Nat} {v : Value} (h : Bx w n v) : Bx w.drew n v := ⟨h.1, h.2, h.3⟩
theorem Wr.undrew {b o n : Nat} {x y : World} (h : Wr b o n x.drew y) : Wr b o n x y := ⟨h.os, h.tape, h.output, h.size, h.block, h.cell, h.froz, h.own⟩
theorem below_undrew {B : Nat} {x y : World} (h : Below B x.drew y) : Below B x y := ⟨h.os, h.tape, h.output, h.size, h.block⟩
theorem Rd.drew {w : World} {v : Value} {xs : List Int} (h : Rd w v xs) : Rd w.drew v xs := h.grow ((Below.refl _ _).drew)
end Go.Proofs.YtgfjjlopfoenkaaGreatDoor

namespace Go.Proofs.YtgfjjlopfoenkaaGreatDoor
open Go.RowKit Tn

/-- A block as it lies. -/
def Blk (w : World) (n : Nat) (c : Array Value) (t : TypeId) : Prop := w.heap[n]? = some (.cells c t (0, 0))
theorem Blk.lt {w : World} {n : Nat} {c : Array Value} {t : TypeId} (h : Blk w n c t) : n < w.heap.size := Own.lt ⟨c, t, h⟩
theorem Blk.below {B : Nat} {w w' : World} {n : Nat} {c : Array Value} {t : TypeId} (h : Blk w n c t) (k : Below B w w') (hn : n < B) : Blk w' n c t := (k.block n hn).trans h
theorem Blk.wr {w w' : World} {n g o m : Nat} {c : Array Value} {t : TypeId} (h : Blk w n c t) (k : Wr g o m w w') (hn : n ≠ g) : Blk w' n c t := (k.block n h.lt hn).trans h
theorem Blk.at {w : World} {n : Nat} {c : Array Value} {t : TypeId} (h : Blk w n c t) (i : Nat) : w.cell? ⟨n, i, none⟩ = c[i]? := by
  have h' : w.heap[n]? = some (.cells c t (0, 0)) := h
  simp [World.cell?, h']
theorem Blk.new (w : World) (c : Array Value) (t : TypeId) : Blk (w.alloc (.cells c t)) w.heap.size c t := heap_alloc_new _ _
theorem Blk.alloc {w : World} {n : Nat} {c : Array Value} {t : TypeId} (h : Blk w n c t) (o : Obj) : Blk (w.alloc o) n c t := h.below ((Below.refl _ _).alloc (Nat.le_refl _) o) h.lt
theorem Blk.free {w : World} {n : Nat} {c : Array Value} {t : TypeId} (h : Blk w n c t) (i : Nat) : w.frozen? ⟨n, i, none⟩ = false := by
  have h' : w.heap[n]? = some (.cells c t (0, 0)) := h
  simp [World.frozen?, h']
end Go.Proofs.YtgfjjlopfoenkaaGreatDoor

namespace Go.Proofs.YtgfjjlopfoenkaaGreatDoor.L
open Go.RowKit Tl

theorem rd_one {w : World} {n c : Nat} (h : w.cell? ⟨n, 0, none⟩ = some (.int .i64 1)) (h1 : 1 ≤ c) (h2 : c ≤ 9223372036854775807) : Rd w (.slice (some ⟨n, 0, none⟩) 1 c) [1] := by
  refine ⟨Wd.cons (by decide) (by decide) Wd.nil, _, c, rfl, h1, h2, fun _ => ⟨n, 0, rfl, ?_⟩⟩
  intro i hi
  have : i = 0 := by simp at hi; omega
  subst this
  simpa [nth] using h
theorem nm_one : Nm [1] := Or.inr (by simp)
theorem val_one : val [1] = 1 := by simp [val]
/-- Three cells are written. -/
theorem put3 {w1 : World} {b : Nat} {u0 u1 u2 : Value} (x y z : Value) (g0 : w1.cell? ⟨b, 0, none⟩ = some u0) (g1 : w1.cell? ⟨b, 1, none⟩ = some u1) (g2 : w1.cell? ⟨b, 2, none⟩ = some u2) :
    (((w1.setCell ⟨b, 0, none⟩ x).setCell ⟨b, 1, none⟩ y).setCell ⟨b, 2, none⟩ z).cell? ⟨b, 0, none⟩ = some x ∧ (((w1.setCell ⟨b, 0, none⟩ x).setCell ⟨b, 1, none⟩ y).setCell ⟨b, 2, none⟩ z).cell? ⟨b, 1, none⟩ = some y ∧ (((w1.setCell ⟨b, 0, none⟩ x).setCell ⟨b, 1, none⟩ y).setCell ⟨b, 2, none⟩ z).cell? ⟨b, 2, none⟩ = some z ∧ (∀ B w, B ≤ b → Below B w w1 → Below B w (((w1.setCell ⟨b, 0, none⟩ x).setCell ⟨b, 1, none⟩ y).setCell ⟨b, 2, none⟩ z)) := by
  have h1 : (w1.setCell ⟨b, 0, none⟩ x).cell? ⟨b, 1, none⟩ = some u1 := (World.cell?_setCell_other _ _ _ _ (by simp)).trans g1
  have h2 : ((w1.setCell ⟨b, 0, none⟩ x).setCell ⟨b, 1, none⟩ y).cell? ⟨b, 2, none⟩ = some u2 := (World.cell?_setCell_other _ _ _ _ (by simp)).trans ((World.cell?_setCell_other _ _ _ _ (by simp)).trans g2)
  refine ⟨?_, ?_, World.cell?_setCell_same _ _ _ h2, fun B w hB h => ((h.setCell (p := ⟨b, 0, none⟩) hB x).setCell (p := ⟨b, 1, none⟩) hB y).setCell (p := ⟨b, 2, none⟩) hB z⟩
  · rw [World.cell?_setCell_other _ _ _ _ (by simp), World.cell?_setCell_other _ _ _ _ (by simp), World.cell?_setCell_same _ _ _ g0]
  · rw [World.cell?_setCell_other _ _ _ _ (by simp), World.cell?_setCell_same _ _ _ h1]
/-- Numbers lie as they did where a Q's own block was written. -/
theorem Rd.putQ {w1 : World} {b : Nat} {v x y z : Value} {xs : List Int} {g : Bool} {a1 a2 : Option Addr} {n1 c1 n2 c2 : Nat} {t : TypeId} (h : Rd w1 v xs) (K : Blk w1 b #[.bool g, .slice a1 n1 c1, .slice a2 n2 c2] t) : Rd (((w1.setCell ⟨b, 0, none⟩ x).setCell ⟨b, 1, none⟩ y).setCell ⟨b, 2, none⟩ z) v xs := by
  obtain ⟨hx, a, c, rfl, h2, h3, g⟩ := h
  refine ⟨hx, a, c, rfl, h2, h3, fun l => ?_⟩
  obtain ⟨b', o, rfl, hc⟩ := g l
  have hne : b' ≠ b := by
    intro e
    subst e
    have h0 := hc 0 l
    rw [K.at] at h0
    match o, h0 with
    | 0, h0 => simp at h0
    | 1, h0 => simp at h0
    | 2, h0 => simp at h0
    | o + 3, h0 => simp at h0
  have hw : Wr b 0 3 w1 (((w1.setCell ⟨b, 0, none⟩ x).setCell ⟨b, 1, none⟩ y).setCell ⟨b, 2, none⟩ z) := (((Wr.refl _ _ _ _).setCell 0 (by omega) x).setCell 1 (by omega) y).setCell 2 (by omega) z
  exact ⟨b', o, rfl, hc.other hw hne⟩
theorem gcd_rest {x g q r : Int} (hd : g ∣ x) (h : x = q * g + r) (r0 : 0 ≤ r) (r1 : r < g) : q * g = x := by
  have h1 : g ∣ r := by
    obtain ⟨k, hk⟩ := hd
    exact ⟨k - q, by rw [Int.mul_sub, ← hk, h]; rw [Int.mul_comm g q]; omega⟩
  obtain ⟨k, hk⟩ := h1
  by_cases c : k = 0
  · rw [c] at hk; simp at hk; omega
  · rcases Int.lt_or_gt_of_ne c with c | c
    · have := Int.mul_le_mul_of_nonneg_left (show k ≤ -1 by omega) (show 0 ≤ g by omega); omega
    · have := Int.mul_le_mul_of_nonneg_left (show 1 ≤ k by omega) (show 0 ≤ g by omega); omega
set_option maxHeartbeats 1600000 in
set_option maxRecDepth 100000 in
/-- Make of the reference: in lowest terms already. -/
theorem make_one (neg : Bool) (v1 v2 : Value) (xs ys : List Int) (L : Nat) (w : World) (h1 : Rd w v1 xs) (h2 : Rd w v2 ys) (n1 : Nm xs) (n2 : Nm ys) (l1 : xs.length ≤ L) (l2 : ys.length ≤ L) (hL : L ≤ 274877906944) (p1 : 0 < xs.length) (hg : Int.gcd (val xs) (val ys) = 1) :
    Calls Tryz.prog 103 #[.bool neg, v1, v2] w fun e w' => e = .returned (.agg #[.bool neg, v1, v2]) ∧ Below w.heap.size w w' := by
  have hz : ((xs.length : Int) == 0) = false := by rw [beq_eq_false_iff_ne]; omega
  have HG : Hid (Int.gcd (val xs) (val ys) = 1) := hg
  clear hg
  obtain ⟨a1, c1, rfl⟩ : ∃ a1 c1, v1 = .slice a1 xs.length c1 := by obtain ⟨_, a1, c1, e, _⟩ := h1; exact ⟨a1, c1, e⟩
  obtain ⟨a2, c2, rfl⟩ : ∃ a1 c1, v2 = .slice a1 ys.length c1 := by obtain ⟨_, a1, c1, e, _⟩ := h2; exact ⟨a1, c1, e⟩
  have hR1 : Hid (∀ w', Below w.heap.size w w' → Rd w' (.slice a1 xs.length c1) xs) := fun w' k => h1.grow k
  have hR2 : Hid (∀ w', Below w.heap.size w w' → Rd w' (.slice a2 ys.length c2) ys) := fun w' k => h2.grow k
  have K0 := Blk.new w #[.bool false, .slice none 0 0, .slice none 0 0] 81
  have pr : Below w.heap.size w (w.alloc (.cells #[.bool false, .slice none 0 0, .slice none 0 0] 81)) := (Below.refl _ _).alloc (Nat.le_refl _) _
  go_enter Tryz.func103, Tryz.ntmps103
  go_wp2_with (first
    | (go_at_call 88; (refine (Gcd_any _ _ xs ys L _ (hR1.out _ pr) (hR2.out _ pr) n1 n2 l1 l2 hL).mono ?_; rintro e w1 ⟨r, gs, rfl, hr, hn, hv, lg, hb⟩; have hv1 : val gs = 1 := (by rw [hv, HG.out]; rfl); clear hv; replace K0 := K0.below hb K0.lt; replace pr := pr.trans (hb.mono pr.size)))
    | (go_at_call 89; (refine (Cmp_any _ _ gs [1] _ (hr.grow ((Below.refl _ _).alloc (Nat.le_refl _) _)) (rd_one (by simp) (by decide) (by decide)) hn nm_one (by omega)).mono ?_; rintro e w2 ⟨rfl, hb2⟩; rw [cmp3_eq (hv1.trans val_one.symm)]; replace K0 := (K0.alloc (.cells #[.int .i64 1] 3)).below hb2 (K0.alloc (.cells #[.int .i64 1] 3)).lt; replace pr := (pr.alloc pr.size (.cells #[.int .i64 1] 3)).trans (hb2.mono (pr.alloc pr.size (.cells #[.int .i64 1] 3)).size); have e0 : w2.cell? ⟨w.heap.size, 0, none⟩ = some (.bool false) := K0.at 0; have e1 : w2.cell? ⟨w.heap.size, 1, none⟩ = some (.slice none 0 0) := K0.at 1; have e2 : w2.cell? ⟨w.heap.size, 2, none⟩ = some (.slice none 0 0) := K0.at 2; have z0 := K0.free 0; have z1 := K0.free 1; have z2 := K0.free 2))
    | fail)
  obtain ⟨F0, F1, F2, FB⟩ := put3 (.bool neg) (.slice a1 xs.length c1) (.slice a2 ys.length c2) e0 e1 e2
  exact bodyPost_ret (v := .agg #[.bool neg, .slice a1 xs.length c1, .slice a2 ys.length c2]) (by simp [results, Tryz.results103, go_sem, F0, F1, F2]) rfl ⟨rfl, FB _ _ (Nat.le_refl _) pr⟩
set_option maxHeartbeats 1600000 in
set_option maxRecDepth 100000 in
/-- Make of the reference: a common divisor is taken out. -/
theorem make_more (neg : Bool) (v1 v2 : Value) (xs ys : List Int) (L : Nat) (w : World) (h1 : Rd w v1 xs) (h2 : Rd w v2 ys) (n1 : Nm xs) (n2 : Nm ys) (l1 : xs.length ≤ L) (l2 : ys.length ≤ L) (hL : L ≤ 274877906944) (p1 : 0 < xs.length) (G : Int) (hg : (Int.gcd (val xs) (val ys) : Int) = G) (hg1 : G ≠ 1) :
    Calls Tryz.prog 103 #[.bool neg, v1, v2] w fun e w' => ∃ u1 u2 ns ds, e = .returned (.agg #[.bool neg, u1, u2]) ∧ Rd w' u1 ns ∧ Nm ns ∧ Rd w' u2 ds ∧ Nm ds ∧ val ns * G = val xs ∧ val ds * G = val ys ∧ Below w.heap.size w w' := by
  have hz : ((xs.length : Int) == 0) = false := by rw [beq_eq_false_iff_ne]; omega
  have px := nm_pos h1.1 n1 p1
  have HG : Hid ((Int.gcd (val xs) (val ys) : Int) = G) := hg
  have G0 : 0 < G := by
    have : 0 < Int.gcd (val xs) (val ys) := Int.gcd_pos_of_ne_zero_left _ (by omega)
    omega
  have D1 : Hid (G ∣ val xs) := by show G ∣ val xs; rw [← HG.out]; exact Int.gcd_dvd_left ..
  have D2 : Hid (G ∣ val ys) := by show G ∣ val ys; rw [← HG.out]; exact Int.gcd_dvd_right ..
  clear hg
  obtain ⟨a1, c1, rfl⟩ : ∃ a1 c1, v1 = .slice a1 xs.length c1 := by obtain ⟨_, a1, c1, e, _⟩ := h1; exact ⟨a1, c1, e⟩
  obtain ⟨a2, c2, rfl⟩ : ∃ a1 c1, v2 = .slice a1 ys.length c1 := by obtain ⟨_, a1, c1, e, _⟩ := h2; exact ⟨a1, c1, e⟩
  have hR1 : Hid (∀ w', Below w.heap.size w w' → Rd w' (.slice a1 xs.length c1) xs) := fun w' k => h1.grow k
  have hR2 : Hid (∀ w', Below w.heap.size w w' → Rd w' (.slice a2 ys.length c2) ys) := fun w' k => h2.grow k
  have K0 := Blk.new w #[.bool false, .slice none 0 0, .slice none 0 0] 81
  have pr : Below w.heap.size w (w.alloc (.cells #[.bool false, .slice none 0 0, .slice none 0 0] 81)) := (Below.refl _ _).alloc (Nat.le_refl _) _
  go_enter Tryz.func103, Tryz.ntmps103
  go_wp2_with (first
    | (go_at_call 88; (refine (Gcd_any _ _ xs ys L _ (hR1.out _ pr) (hR2.out _ pr) n1 n2 l1 l2 hL).mono ?_; rintro e w1 ⟨r, gs, rfl, hr, hn, hv, lg, hb⟩; have hv1 : Hid (val gs = G) := hv.trans HG.out; clear hv; replace K0 := K0.below hb K0.lt; replace pr := pr.trans (hb.mono pr.size)))
    | (go_at_call 89; (refine (Cmp_any _ _ gs [1] _ (hr.grow ((Below.refl _ _).alloc (Nat.le_refl _) _)) (rd_one (by simp) (by decide) (by decide)) hn nm_one (by omega)).mono ?_; rintro e w2 ⟨rfl, hb2⟩; have hc : cmp3 (val gs) (val [1]) ≠ 0 := (by rw [hv1.out, val_one]; unfold cmp3; split; decide; split; decide; omega); have hc2 : (cmp3 (val gs) (val [1]) == 0) = false := beq_eq_false_iff_ne.2 hc; replace K0 := (K0.alloc (.cells #[.int .i64 1] 3)).below hb2 (K0.alloc (.cells #[.int .i64 1] 3)).lt; have hr2 := (hr.grow ((Below.refl _ _).alloc (Nat.le_refl _) (.cells #[.int .i64 1] 3))).grow hb2; replace pr := (pr.alloc pr.size (.cells #[.int .i64 1] 3)).trans (hb2.mono (pr.alloc pr.size (.cells #[.int .i64 1] 3)).size)))
    | (go_at_call 143; (with_reducible refine (DivMod_any (.slice a1 xs.length c1) r xs gs w2 (hR1.out _ pr) hr2 n1 hn (by omega) (by rw [hv1.out]; exact G0)).mono ?_); (rintro e w3 ⟨q1, r1, ns, rs1, rfl, hq1, nn, _, _, e1, r10, r11, hb3⟩; have E1 : Hid (val ns * G = val xs) := (by rw [hv1.out] at e1 r11; exact gcd_rest D1.out e1 r10 r11); clear e1 r10 r11; replace K0 := K0.below hb3 K0.lt; replace pr := pr.trans (hb3.mono pr.size); have hr3 := hr2.grow hb3))
    | (go_at_call 143; (with_reducible refine (DivMod_any (.slice a2 ys.length c2) r ys gs w3 (hR2.out _ pr) hr3 n2 hn (by omega) (by rw [hv1.out]; exact G0)).mono ?_); (rintro e w4 ⟨q2, r2, ds, rs2, rfl, hq2, nd, _, _, e2, r20, r21, hb4⟩; have E2 : Hid (val ds * G = val ys) := (by rw [hv1.out] at e2 r21; exact gcd_rest D2.out e2 r20 r21); clear e2 r20 r21; replace K0 := K0.below hb4 K0.lt; replace pr := pr.trans (hb4.mono pr.size); replace hq1 := hq1.grow hb4; have e0 : w4.cell? ⟨w.heap.size, 0, none⟩ = some (.bool false) := K0.at 0; have e1 : w4.cell? ⟨w.heap.size, 1, none⟩ = some (.slice none 0 0) := K0.at 1; have e2 : w4.cell? ⟨w.heap.size, 2, none⟩ = some (.slice none 0 0) := K0.at 2; have z0 := K0.free 0; have z1 := K0.free 1; have z2 := K0.free 2; obtain ⟨b1, d1, rfl⟩ : ∃ a1 c1, q1 = .slice a1 ns.length c1 := (by obtain ⟨_, a1, c1, e, _⟩ := hq1; exact ⟨a1, c1, e⟩); obtain ⟨b2, d2, rfl⟩ : ∃ a1 c1, q2 = .slice a1 ds.length c1 := (by obtain ⟨_, a1, c1, e, _⟩ := hq2; exact ⟨a1, c1, e⟩)))
    | fail)
  obtain ⟨F0, F1, F2, FB⟩ := put3 (.bool neg) (.slice b1 ns.length d1) (.slice b2 ds.length d2) e0 e1 e2
  exact bodyPost_ret (v := .agg #[.bool neg, .slice b1 ns.length d1, .slice b2 ds.length d2]) (by simp [results, Tryz.results103, go_sem, F0, F1, F2]) rfl ⟨_, _, ns, ds, rfl, hq1.putQ K0, nn, hq2.putQ K0, nd, E1.out, E2.out, FB _ _ (Nat.le_refl _) pr⟩
/-- Make of the reference: any fraction but nought. -/
theorem Make_any (neg : Bool) (v1 v2 : Value) (xs ys : List Int) (L : Nat) (w : World) (h1 : Rd w v1 xs) (h2 : Rd w v2 ys) (n1 : Nm xs) (n2 : Nm ys) (l1 : xs.length ≤ L) (l2 : ys.length ≤ L) (hL : L ≤ 274877906944) (p1 : 0 < xs.length) :
    Calls Tryz.prog 103 #[.bool neg, v1, v2] w fun e w' => ∃ u1 u2 ns ds, e = .returned (.agg #[.bool neg, u1, u2]) ∧ Rd w' u1 ns ∧ Nm ns ∧ Rd w' u2 ds ∧ Nm ds ∧ val ns * (Int.gcd (val xs) (val ys) : Int) = val xs ∧ val ds * (Int.gcd (val xs) (val ys) : Int) = val ys ∧ Below w.heap.size w w' := by
  by_cases hg : Int.gcd (val xs) (val ys) = 1
  · refine (make_one neg v1 v2 xs ys L w h1 h2 n1 n2 l1 l2 hL p1 hg).mono ?_
    rintro e w' ⟨rfl, hb⟩
    exact ⟨v1, v2, xs, ys, rfl, h1.grow hb, n1, h2.grow hb, n2, by rw [hg]; simp, by rw [hg]; simp, hb⟩
  · exact make_more neg v1 v2 xs ys L w h1 h2 n1 n2 l1 l2 hL p1 _ rfl (by omega)
end Go.Proofs.YtgfjjlopfoenkaaGreatDoor.L

namespace Go.Proofs.YtgfjjlopfoenkaaGreatDoor.L
open Go.RowKit Tl

/-- How many bits a number has. -/
def bl (x : Int) : Nat := if x ≤ 0 then 0 else Nat.log2 x.toNat + 1
theorem bl_pos {x : Int} (h : 0 < x) : x < 2 ^ bl x ∧ 1 ≤ bl x ∧ (2 : Int) ^ (bl x - 1) ≤ x := by
  have e : bl x = Nat.log2 x.toNat + 1 := by unfold bl; rw [if_neg (by omega)]
  have h1 : x.toNat < 2 ^ (Nat.log2 x.toNat + 1) := Nat.lt_log2_self
  have h2 : 2 ^ Nat.log2 x.toNat ≤ x.toNat := Nat.log2_self_le (by omega)
  have c1 : ((2 ^ (Nat.log2 x.toNat + 1) : Nat) : Int) = (2 : Int) ^ (Nat.log2 x.toNat + 1) := by simp
  have c2 : ((2 ^ Nat.log2 x.toNat : Nat) : Int) = (2 : Int) ^ Nat.log2 x.toNat := by simp
  rw [e]
  refine ⟨by omega, by omega, ?_⟩
  rw [Nat.add_sub_cancel]; omega
theorem two_pow_le {a b : Nat} (h : a ≤ b) : (2 : Int) ^ a ≤ 2 ^ b := by
  have : 2 ^ a ≤ 2 ^ b := Nat.pow_le_pow_right (by decide) h
  exact_mod_cast this
theorem two_pow_pos (a : Nat) : (0 : Int) < 2 ^ a := Int.pow_pos (by decide)
theorem bl_unique {x : Int} {L : Nat} (h0 : 0 ≤ x) (h1 : x < 2 ^ L) (h2 : L = 0 ∨ (2 : Int) ^ (L - 1) ≤ x) : L = bl x := by
  by_cases hx : x = 0
  · subst hx
    rcases h2 with h2 | h2
    · rw [h2]; rfl
    · have := two_pow_pos (L - 1); omega
  · have b := bl_pos (x := x) (by omega)
    have hL : 1 ≤ L := by
      by_cases c : 1 ≤ L
      · exact c
      · have : L = 0 := by omega
        rw [this] at h1; simp at h1; omega
    have h2' : (2 : Int) ^ (L - 1) ≤ x := by
      rcases h2 with h2 | h2
      · omega
      · exact h2
    by_cases c1 : L ≤ bl x - 1
    · have := two_pow_le c1; omega
    · by_cases c2 : bl x ≤ L - 1
      · have := two_pow_le c2; omega
      · omega
theorem Bits_fn (v : Value) (xs : List Int) (w : World) (h : Rd w v xs) (n : Nm xs) (hL : xs.length ≤ 1099511627776) :
    Calls Tryz.prog 181 #[v] w fun e w' => e = .returned (.int .i64 (bl (val xs) : Nat)) ∧ w' = w := by
  refine (Bits_any v xs w h n hL).mono ?_
  rintro e w' ⟨L, rfl, h1, h2, _, rfl⟩
  rw [← bl_unique (val_nonneg h.1) h1 h2]
  exact ⟨rfl, rfl⟩
theorem bl_len {xs : List Int} (h : Wd xs) : bl (val xs) ≤ 30 * xs.length := by
  by_cases c : 0 < val xs
  · have b := bl_pos c
    have := val_lt h
    rw [pw_two] at this
    by_cases d : bl (val xs) ≤ 30 * xs.length
    · exact d
    · have := two_pow_le (show 30 * xs.length ≤ bl (val xs) - 1 by omega); omega
  · unfold bl; rw [if_pos (by omega)]; omega
/-- Q's Sign. -/
theorem Sign_any (neg : Bool) (a1 a2 : Option Addr) (n1 c1 n2 c2 : Nat) (w : World) (h : 0 < n1) :
    Calls Tryz.prog 92 #[.agg #[.bool neg, .slice a1 n1 c1, .slice a2 n2 c2]] w fun e w' => (∃ s : Int, e = .returned (.int .i64 s) ∧ s ≠ 0) ∧ Below w.heap.size w w' := by
  have hz : ((n1 : Int) == 0) = false := by rw [beq_eq_false_iff_ne]; omega
  cases neg
  all_goals
    go_enter Tryz.func92, Tryz.ntmps92
    go_wp2
    go_ret
    exact ⟨⟨_, rfl, by decide⟩, (Below.refl _ _).alloc (Nat.le_refl _) _⟩
theorem shl_len2 {xs A : List Int} {n : Nat} (hx : Wd xs) (hA : Wd A) (nA : Nm A) (e : val A = val xs * 2 ^ n) : A.length ≤ xs.length + (n / 30 + 1) := by
  by_cases c : A.length ≤ xs.length + (n / 30 + 1)
  · exact c
  · have nv : A ≠ [] := by intro h; rw [h] at c; simp at c
    have l := val_low hA nA nv
    have m := pw_mono (show xs.length + (n / 30 + 1) ≤ A.length - 1 by omega)
    have h := val_lt hx
    have h0 := val_nonneg hx
    have p := two_pow_pos n
    have a := Int.mul_lt_mul_of_pos_right h p
    have b : (2 : Int) ^ n ≤ pw (n / 30 + 1) := by rw [pw_two]; exact two_pow_le (by omega)
    have d := Int.mul_le_mul_of_nonneg_left b (Int.le_of_lt (pw_pos xs.length))
    rw [← pw_add] at d
    omega
theorem le_of_quo {a q b r : Int} (h : a = q * b + r) (r0 : 0 ≤ r) (q0 : 0 ≤ q) (b0 : 0 < b) : q ≤ a := by
  have := Int.mul_le_mul_of_nonneg_left (show 1 ≤ b by omega) q0
  omega
end Go.Proofs.YtgfjjlopfoenkaaGreatDoor.L
