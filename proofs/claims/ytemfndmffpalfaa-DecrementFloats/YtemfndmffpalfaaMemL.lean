import Derived.WalkKit
import Derived.WalkSpells
import Derived.WalkSmall
import Derived.Deep.QuietTactic
import Derived.BigQuiet
import Derived.Test.YtemfndmffpalfaaWL
namespace Go.Proofs.Ytemfndmffpalfaa.L
open Go.RowKit Tl
/-- A word of a row, kept from the walk's own rules. -/
def nth (xs : List Int) (i : Nat) : Int := xs.getD i 0
theorem nth_bd {xs : List Int} (h : Wd xs) (i : Nat) : 0 ≤ nth xs i ∧ nth xs i < 1073741824 := h.get i
theorem nth_set_same (xs : List Int) (k : Nat) (v : Int) (h : k < xs.length) : nth (xs.set k v) k = v := by simp [nth, List.getD_eq_getElem?_getD, h]
theorem nth_set_other (xs : List Int) (k j : Nat) (v : Int) (h : k ≠ j) : nth (xs.set k v) j = nth xs j := by simp [nth, List.getD_eq_getElem?_getD, h]
theorem nth_drop (xs : List Int) (k j : Nat) : nth (xs.drop k) j = nth xs (k + j) := by simp [nth, List.getD_eq_getElem?_getD]
theorem nth_take (xs : List Int) (k j : Nat) (h : j < k) : nth (xs.take k) j = nth xs j := by simp [nth, List.getD_eq_getElem?_getD, h]

/-- X is S, rewritten up to place k. -/
structure Part (X S : List Int) (k : Nat) : Prop where
  len : X.length = S.length
  wd : Wd X
  drop : X.drop k = S.drop k
theorem Part.refl {S : List Int} (h : Wd S) (k : Nat) : Part S S k := ⟨rfl, h, rfl⟩
theorem Part.nth {X S : List Int} {k : Nat} (h : Part X S k) : nth X k = nth S k := by
  have e := congrArg (fun l => Go.Proofs.Ytemfndmffpalfaa.L.nth l 0) h.drop
  simpa [nth_drop] using e
theorem Part.step {X S : List Int} {k : Nat} (h : Part X S k) {v : Int} (h0 : 0 ≤ v) (h1 : v < 1073741824) : Part (X.set k v) S (k + 1) := by
  refine ⟨by rw [List.length_set, h.len], h.wd.set k h0 h1, ?_⟩
  rw [drop_set_succ]
  have e := congrArg (List.drop 1) h.drop
  simpa [List.drop_drop, Nat.add_comm] using e
theorem Part.val {X S : List Int} {k : Nat} (h : Part X S k) (hk : k < S.length) (v : Int) : val ((X.set k v).take (k + 1)) = val (X.take k) + pw k * v := by
  have hl := h.len
  rw [take_set_succ X k v (by omega), val_append, List.length_take, Nat.min_eq_left (by omega)]; simp [Tl.val]
theorem Part.whole {X S : List Int} {k : Nat} (h : Part X S k) (hk : k ≤ S.length) : Tl.val X - Tl.val (X.take k) = Tl.val S - Tl.val (S.take k) := by
  have hl := h.len
  have e1 := val_split X k (by omega); have e2 := val_split S k hk; rw [h.drop] at e1; omega
theorem val_at (xs : List Int) (k : Nat) (h : k < xs.length) : val (xs.take (k + 1)) = val (xs.take k) + pw k * nth xs k := val_take_succ xs k h

/-- The cells of block b from o on hold the words xs. -/
def Cells (w : World) (b o : Nat) (xs : List Int) : Prop := ∀ i, i < xs.length → w.cell? ⟨b, o + i, none⟩ = some (.int .i64 (nth xs i))
/-- n cells of block b from o on may be written. -/
def Free (w : World) (b o n : Nat) : Prop := ∀ i, i < n → w.frozen? ⟨b, o + i, none⟩ = false

/-- Nothing that lay in w has turned, but n cells of block b from o on. -/
structure Wr (b o n : Nat) (w w' : World) : Prop where
  os : w'.os = w.os
  tape : w'.tape = w.tape
  output : w'.output = w.output
  size : w.heap.size ≤ w'.heap.size
  block : ∀ k, k < w.heap.size → k ≠ b → w'.heap[k]? = w.heap[k]?
  cell : ∀ i, (i < o ∨ o + n ≤ i) → w'.cell? ⟨b, i, none⟩ = w.cell? ⟨b, i, none⟩
  froz : ∀ i, w'.frozen? ⟨b, i, none⟩ = w.frozen? ⟨b, i, none⟩
  own : ∀ c t f, w.heap[b]? = some (.cells c t f) → ∃ c', w'.heap[b]? = some (.cells c' t f) ∧ c'.size = c.size

theorem Wr.refl (b o n : Nat) (w : World) : Wr b o n w w := ⟨rfl, rfl, rfl, Nat.le_refl _, fun _ _ _ => rfl, fun _ _ => rfl, fun _ => rfl, fun c _ _ h => ⟨c, h, rfl⟩⟩
theorem Wr.trans {b o n : Nat} {x y z : World} (h : Wr b o n x y) (k : Wr b o n y z) : Wr b o n x z :=
  ⟨k.os.trans h.os, k.tape.trans h.tape, k.output.trans h.output, Nat.le_trans h.size k.size, fun i hi hb => (k.block i (Nat.lt_of_lt_of_le hi h.size) hb).trans (h.block i hi hb),
    fun i hi => (k.cell i hi).trans (h.cell i hi), fun i => (k.froz i).trans (h.froz i), fun c t f e => by obtain ⟨c1, e1, s1⟩ := h.own c t f e; obtain ⟨c2, e2, s2⟩ := k.own c1 t f e1; exact ⟨c2, e2, s2.trans s1⟩⟩
theorem Wr.drew {b o n : Nat} {x y : World} (h : Wr b o n x y) : Wr b o n x y.drew := ⟨h.os, h.tape, h.output, h.size, h.block, h.cell, h.froz, h.own⟩
theorem Wr.drewN {b o n : Nat} {x y : World} (h : Wr b o n x y) (m : Nat) : Wr b o n x (y.drewN m) := ⟨h.os, h.tape, h.output, h.size, h.block, h.cell, h.froz, h.own⟩
theorem Wr.mono {b o n o' n' : Nat} {x y : World} (h : Wr b o n x y) (h1 : o' ≤ o) (h2 : o + n ≤ o' + n') : Wr b o' n' x y := ⟨h.os, h.tape, h.output, h.size, h.block, fun i hi => h.cell i (by omega), h.froz, h.own⟩
theorem Wr.setCell {b o n : Nat} {x y : World} (h : Wr b o n x y) (i : Nat) (hi : o ≤ i ∧ i < o + n) (v : Value) : Wr b o n x (y.setCell ⟨b, i, none⟩ v) :=
  h.trans ⟨rfl, rfl, rfl, by simp [World.setCell], fun k _ hb => Below.heap_setCell _ _ _ _ hb, fun j hj => World.cell?_setCell_other _ _ _ _ (by simp), fun j => World.frozen?_setCell _ _ _ _, fun c t f e => ⟨c.setIfInBounds i v, by simp [World.setCell, Array.getElem?_modify, e], by simp⟩⟩
theorem Wr.below {b o n : Nat} {x y : World} (h : Wr b o n x y) {B : Nat} (hB : B ≤ b) (hB' : B ≤ x.heap.size) : Below B x y :=
  ⟨h.os, h.tape, h.output, h.size, fun k hk => h.block k (by omega) (by omega)⟩
theorem Wr.of_below {b o n : Nat} {x y : World} (h : Below x.heap.size x y) (hb : b < x.heap.size) : Wr b o n x y :=
  ⟨h.os, h.tape, h.output, h.size, fun k hk _ => h.block k hk, fun _ _ => h.cell hb, fun _ => h.frozen hb, fun c _ _ e => ⟨c, (h.block b hb).trans e, rfl⟩⟩
theorem Wr.alloc {b o n : Nat} {x y : World} (h : Wr b o n x y) (hb : b < x.heap.size) (ob : Obj) : Wr b o n x (y.alloc ob) :=
  h.trans (Wr.of_below ((Below.refl _ _).alloc (Nat.le_refl _) ob) (Nat.lt_of_lt_of_le hb h.size))

theorem lt_of_cell {w : World} {b i : Nat} {v : Value} (h : w.cell? ⟨b, i, none⟩ = some v) : b < w.heap.size := by
  by_cases hb : b < w.heap.size
  · exact hb
  · simp [World.cell?, Array.getElem?_eq_none (Nat.le_of_not_lt hb)] at h
theorem Cells.lt {w : World} {b o : Nat} {xs : List Int} (h : Cells w b o xs) (ne : 0 < xs.length) : b < w.heap.size := lt_of_cell (h 0 ne)
theorem Cells.at {w : World} {b o : Nat} {xs : List Int} (h : Cells w b o xs) {i : Nat} (hi : i < xs.length) : w.cell? ⟨b, o + i, none⟩ = some (.int .i64 (nth xs i)) := h i hi
theorem Cells.below {w w' : World} {B b o : Nat} {xs : List Int} (h : Cells w b o xs) (k : Below B w w') (hb : b < B) : Cells w' b o xs := fun i hi => (k.cell (p := ⟨b, o + i, none⟩) hb).trans (h i hi)
theorem Cells.grow {w w' : World} {b o : Nat} {xs : List Int} (h : Cells w b o xs) (k : Below w.heap.size w w') : Cells w' b o xs := fun i hi => (k.cell (p := ⟨b, o + i, none⟩) (lt_of_cell (h i hi))).trans (h i hi)
/-- Writes to another block turn nothing here. -/
theorem Cells.other {w w' : World} {b o b' o' n' : Nat} {xs : List Int} (h : Cells w b o xs) (k : Wr b' o' n' w w') (hb : b ≠ b') : Cells w' b o xs := fun i hi =>
  (World.cell?_of_block (a := ⟨b, o + i, none⟩) (k.block b (lt_of_cell (h i hi)) hb)).trans (h i hi)
/-- Writes elsewhere in the same block turn nothing here. -/
theorem Cells.apart {w w' : World} {b o o' n' : Nat} {xs : List Int} (h : Cells w b o xs) (k : Wr b o' n' w w') (hb : o + xs.length ≤ o' ∨ o' + n' ≤ o) : Cells w' b o xs := fun i hi =>
  (k.cell (o + i) (by omega)).trans (h i hi)
theorem Cells.set {w : World} {b o : Nat} {xs : List Int} (h : Cells w b o xs) (k : Nat) (hk : k < xs.length) (v : Int) : Cells (w.setCell ⟨b, o + k, none⟩ (.int .i64 v)) b o (xs.set k v) := by
  intro i hi
  rw [List.length_set] at hi
  by_cases e : k = i
  · subst e; rw [nth_set_same _ _ _ hk]; exact World.cell?_setCell_same _ _ _ (h k hk)
  · rw [nth_set_other _ _ _ _ e, World.cell?_setCell_other _ _ _ _ (by simp)]; exact h i hi
theorem Cells.drop {w : World} {b o : Nat} {xs : List Int} (h : Cells w b o xs) (k : Nat) : Cells w b (o + k) (xs.drop k) := by
  intro i hi
  rw [List.length_drop] at hi
  rw [nth_drop, Nat.add_assoc]; exact h (k + i) (by omega)
theorem Cells.take {w : World} {b o : Nat} {xs : List Int} (h : Cells w b o xs) (k : Nat) : Cells w b o (xs.take k) := by
  intro i hi
  rw [List.length_take] at hi
  rw [nth_take _ _ _ (by omega)]; exact h i (by omega)
theorem Cells.append {w : World} {b o : Nat} {xs ys : List Int} (h : Cells w b o xs) (k : Cells w b (o + xs.length) ys) : Cells w b o (xs ++ ys) := by
  intro i hi
  rw [List.length_append] at hi
  by_cases e : i < xs.length
  · have : nth (xs ++ ys) i = nth xs i := by simp [nth, List.getD_eq_getElem?_getD, List.getElem?_append_left e]
    rw [this]; exact h i e
  · have : nth (xs ++ ys) i = nth ys (i - xs.length) := by simp [nth, List.getD_eq_getElem?_getD, List.getElem?_append_right (Nat.le_of_not_lt e)]
    rw [this]; have := k (i - xs.length) (by omega); rwa [Nat.add_assoc, Nat.add_sub_cancel' (Nat.le_of_not_lt e)] at this
theorem Free.drop {w : World} {b o n : Nat} (h : Free w b o n) (k : Nat) : Free w b (o + k) (n - k) := fun i hi => by rw [Nat.add_assoc]; exact h (k + i) (by omega)
theorem Free.mono {w : World} {b o n m : Nat} (h : Free w b o n) (k : m ≤ n) : Free w b o m := fun i hi => h i (by omega)
theorem Free.wr {w w' : World} {b o n b' o' n' : Nat} (h : Free w b o n) (k : Wr b' o' n' w w') (hb : b < w.heap.size) : Free w' b o n := fun i hi => by
  by_cases e : b = b'
  · subst e; exact (k.froz (o + i)).trans (h i hi)
  · exact (World.frozen?_of_block (a := ⟨b, o + i, none⟩) (k.block b hb e)).trans (h i hi)
theorem Free.grow {w w' : World} {b o n : Nat} (h : Free w b o n) (k : Below w.heap.size w w') (hb : b < w.heap.size) : Free w' b o n := fun i hi => (k.frozen (p := ⟨b, o + i, none⟩) hb).trans (h i hi)

/-- What lay in W is read in w1 as it was. -/
theorem bcell {W w1 : World} (hb : Below W.heap.size W w1) : (∀ b o, b < W.heap.size → w1.cell? ⟨b, o, none⟩ = W.cell? ⟨b, o, none⟩) ∧ (∀ b o, b < W.heap.size → w1.frozen? ⟨b, o, none⟩ = W.frozen? ⟨b, o, none⟩) :=
  ⟨fun b o h => hb.cell (p := ⟨b, o, none⟩) h, fun b o h => hb.frozen (p := ⟨b, o, none⟩) h⟩
theorem wcell {g o n : Nat} {W w1 : World} (hb : Wr g o n W w1) (hg : g < W.heap.size) : (∀ b i, b < g → w1.cell? ⟨b, i, none⟩ = W.cell? ⟨b, i, none⟩) ∧ (∀ b i, b < g → w1.frozen? ⟨b, i, none⟩ = W.frozen? ⟨b, i, none⟩) :=
  ⟨fun b i h => World.cell?_of_block (a := ⟨b, i, none⟩) (hb.block b (by omega) (by omega)), fun b i h => World.frozen?_of_block (a := ⟨b, i, none⟩) (hb.block b (by omega) (by omega))⟩
/-- A variable of one cell, in a block of its own. -/
structure Bx (w : World) (n : Nat) (v : Value) : Prop where
  cell : w.cell? ⟨n, 0, none⟩ = some v
  free : w.frozen? ⟨n, 0, none⟩ = false
  blk : ∃ t, w.heap[n]? = some (.cells #[v] t (0, 0))
theorem Bx.lt {w : World} {n : Nat} {v : Value} (h : Bx w n v) : n < w.heap.size := lt_of_cell h.1
theorem Bx.below {W w1 : World} {n : Nat} {v : Value} (h : Bx W n v) (k : Below W.heap.size W w1) : Bx w1 n v := ⟨(k.cell (p := ⟨n, 0, none⟩) h.lt).trans h.1, (k.frozen (p := ⟨n, 0, none⟩) h.lt).trans h.2, by obtain ⟨t, e⟩ := h.3; exact ⟨t, (k.block n h.lt).trans e⟩⟩
theorem Bx.wr {W w1 : World} {n g o m : Nat} {v : Value} (h : Bx W n v) (k : Wr g o m W w1) (hn : n ≠ g) : Bx w1 n v :=
  ⟨(World.cell?_of_block (a := ⟨n, 0, none⟩) (k.block n h.lt hn)).trans h.1, (World.frozen?_of_block (a := ⟨n, 0, none⟩) (k.block n h.lt hn)).trans h.2, by obtain ⟨t, e⟩ := h.3; exact ⟨t, (k.block n h.lt hn).trans e⟩⟩
theorem Bx.new (w : World) (v : Value) (t : TypeId) : Bx (w.alloc (.cells #[v] t)) w.heap.size v := ⟨by simp, by simp, t, heap_alloc_new _ _⟩
theorem Bx.alloc {w : World} {n : Nat} {v : Value} (h : Bx w n v) (o : Obj) : Bx (w.alloc o) n v := h.below ((Below.refl _ _).alloc (Nat.le_refl _) o)
/-- The last step: the result goes into its cell. -/
theorem below_put {B n : Nat} {w w' : World} (h : Below B w w') (hn : B ≤ n) (v : Value) : Below B w (w'.setCell ⟨n, 0, none⟩ v) := h.setCell (p := ⟨n, 0, none⟩) hn v
theorem below_alloc1 {w w1 : World} {o0 : Obj} (k : Below (w.heap.size + 1) (w.alloc o0) w1) : Below w.heap.size w w1 := by
  refine Below.trans ?_ (k.mono (by omega))
  repeat (first | exact Below.refl _ _ | (refine Below.alloc ?_ (by first | exact Nat.le_refl _ | (simp only [World.size_alloc]; omega)) _))
theorem below_alloc2 {w w1 : World} {o0 o1 : Obj} (k : Below (w.heap.size + 1 + 1) ((w.alloc o0).alloc o1) w1) : Below w.heap.size w w1 := by
  refine Below.trans ?_ (k.mono (by omega))
  repeat (first | exact Below.refl _ _ | (refine Below.alloc ?_ (by first | exact Nat.le_refl _ | (simp only [World.size_alloc]; omega)) _))
theorem below_alloc3 {w w1 : World} {o0 o1 o2 : Obj} (k : Below (w.heap.size + 1 + 1 + 1) (((w.alloc o0).alloc o1).alloc o2) w1) : Below w.heap.size w w1 := by
  refine Below.trans ?_ (k.mono (by omega))
  repeat (first | exact Below.refl _ _ | (refine Below.alloc ?_ (by first | exact Nat.le_refl _ | (simp only [World.size_alloc]; omega)) _))
theorem below_alloc4 {w w1 : World} {o0 o1 o2 o3 : Obj} (k : Below (w.heap.size + 1 + 1 + 1 + 1) ((((w.alloc o0).alloc o1).alloc o2).alloc o3) w1) : Below w.heap.size w w1 := by
  refine Below.trans ?_ (k.mono (by omega))
  repeat (first | exact Below.refl _ _ | (refine Below.alloc ?_ (by first | exact Nat.le_refl _ | (simp only [World.size_alloc]; omega)) _))
theorem below_alloc5 {w w1 : World} {o0 o1 o2 o3 o4 : Obj} (k : Below (w.heap.size + 1 + 1 + 1 + 1 + 1) (((((w.alloc o0).alloc o1).alloc o2).alloc o3).alloc o4) w1) : Below w.heap.size w w1 := by
  refine Below.trans ?_ (k.mono (by omega))
  repeat (first | exact Below.refl _ _ | (refine Below.alloc ?_ (by first | exact Nat.le_refl _ | (simp only [World.size_alloc]; omega)) _))
theorem below_alloc6 {w w1 : World} {o0 o1 o2 o3 o4 o5 : Obj} (k : Below (w.heap.size + 1 + 1 + 1 + 1 + 1 + 1) ((((((w.alloc o0).alloc o1).alloc o2).alloc o3).alloc o4).alloc o5) w1) : Below w.heap.size w w1 := by
  refine Below.trans ?_ (k.mono (by omega))
  repeat (first | exact Below.refl _ _ | (refine Below.alloc ?_ (by first | exact Nat.le_refl _ | (simp only [World.size_alloc]; omega)) _))

/-- Block b is one of words' rows that nothing has frozen. -/
def Own (w : World) (b : Nat) : Prop := ∃ c t, w.heap[b]? = some (.cells c t (0, 0))
theorem Own.free {w : World} {b : Nat} (h : Own w b) (o n : Nat) : Free w b o n := by
  obtain ⟨c, t, e⟩ := h
  intro i _
  simp [World.frozen?, e]
theorem Own.lt {w : World} {b : Nat} (h : Own w b) : b < w.heap.size := by
  obtain ⟨c, t, e⟩ := h
  by_cases hb : b < w.heap.size
  · exact hb
  · rw [Array.getElem?_eq_none (Nat.le_of_not_lt hb)] at e; simp at e
theorem Own.wr {w w' : World} {b b' o n : Nat} (h : Own w b) (k : Wr b' o n w w') : Own w' b := by
  have hb := h.lt
  obtain ⟨c, t, e⟩ := h
  by_cases e' : b = b'
  · subst e'; obtain ⟨c', e1, _⟩ := k.own c t _ e; exact ⟨c', t, e1⟩
  · exact ⟨c, t, (k.block b hb e').trans e⟩
theorem Own.grow {w w' : World} {b : Nat} (h : Own w b) (k : Below w.heap.size w w') : Own w' b := by
  have hb := h.lt
  obtain ⟨c, t, e⟩ := h
  exact ⟨c, t, (k.block b hb).trans e⟩

/-- The slice value v reads as the words xs. -/
def Rd (w : World) (v : Value) (xs : List Int) : Prop :=
  Wd xs ∧ ∃ a cap, v = .slice a xs.length cap ∧ xs.length ≤ cap ∧ cap ≤ maxLen ∧ (0 < xs.length → ∃ b o, a = some ⟨b, o, none⟩ ∧ Cells w b o xs)
theorem Rd.grow {w w' : World} {v : Value} {xs : List Int} (h : Rd w v xs) (k : Below w.heap.size w w') : Rd w' v xs := by
  obtain ⟨h1, a, cap, h2, h3, h4, h5⟩ := h
  exact ⟨h1, a, cap, h2, h3, h4, fun l => by obtain ⟨b, o, e, c⟩ := h5 l; exact ⟨b, o, e, c.grow k⟩⟩
theorem Rd.nil (w : World) : Rd w (.slice none 0 0) [] := ⟨Wd.nil, none, 0, rfl, Nat.le_refl _, by decide, fun h => by simp at h⟩
theorem Rd.put {w : World} {n : Nat} {v u : Value} {xs : List Int} (h : Rd w v xs) (hn : ∀ b o l c, v = .slice (some ⟨b, o, none⟩) l c → b ≠ n) : Rd (w.setCell ⟨n, 0, none⟩ u) v xs := by
  obtain ⟨h1, a, cap, h2, h3, h4, h5⟩ := h
  refine ⟨h1, a, cap, h2, h3, h4, fun l => ?_⟩
  obtain ⟨b, o, e, c⟩ := h5 l
  refine ⟨b, o, e, fun i hi => ?_⟩
  rw [World.cell?_setCell_other _ _ _ _ (by have := hn b o _ _ (by rw [h2, e]); simp; try omega)]
  exact c i hi
/-- A variable that holds a slice lies apart from all words: its cell may be written. -/
theorem Rd.box {w : World} {n : Nat} {v u : Value} {xs : List Int} {a : Option Addr} {l c : Nat} (h : Rd w v xs) (hb : Bx w n (.slice a l c)) : Rd (w.setCell ⟨n, 0, none⟩ u) v xs := by
  obtain ⟨h1, a, cap, h2, h3, h4, h5⟩ := h
  refine ⟨h1, a, cap, h2, h3, h4, fun l => ?_⟩
  obtain ⟨b, o, e, hc⟩ := h5 l
  refine ⟨b, o, e, fun i hi => ?_⟩
  have hne : b ≠ n := by
    rintro rfl
    obtain ⟨t, hb⟩ := hb.3
    have := hc 0 (by omega)
    simp only [World.cell?, hb] at this
    by_cases h0 : o = 0
    · subst h0; simp at this
    · simp [h0] at this
  rw [World.cell?_setCell_other _ _ _ _ (by simp; try omega)]
  exact hc i hi
theorem Cells.drew {w : World} {b o : Nat} {xs : List Int} (h : Cells w b o xs) : Cells w.drew b o xs := h
theorem Free.drew {w : World} {b o n : Nat} (h : Free w b o n) : Free w.drew b o n := h
theorem Own.drew {w : World} {b : Nat} (h : Own w b) : Own w.drew b := h
theorem Bx.drew {w : World} {n : Nat} {v : Value} (h : Bx w n v) : Bx w.drew n v := ⟨h.1, h.2, h.3⟩
theorem Wr.undrew {b o n : Nat} {x y : World} (h : Wr b o n x.drew y) : Wr b o n x y := ⟨h.os, h.tape, h.output, h.size, h.block, h.cell, h.froz, h.own⟩
theorem below_undrew {B : Nat} {x y : World} (h : Below B x.drew y) : Below B x y := ⟨h.os, h.tape, h.output, h.size, h.block⟩
theorem Rd.drew {w : World} {v : Value} {xs : List Int} (h : Rd w v xs) : Rd w.drew v xs := h.grow ((Below.refl _ _).drew)
end Go.Proofs.Ytemfndmffpalfaa.L
