import Derived.WalkKit
import Derived.WalkSpells
import Derived.WalkSmall
import Derived.Deep.QuietTactic
import Derived.BigQuiet
import Derived.Test.YtfalncbcomlelaaGreatDoorPart01

namespace Tn
/-- The number of a row of words of 64 bits, the lowest first. -/
def val : List Int → Int
  | [] => 0
  | x :: xs => x + 18446744073709551616 * val xs
/-- The unit behind n words. -/
def pw : Nat → Int
  | 0 => 1
  | n + 1 => 18446744073709551616 * pw n
/-- Each is a word. -/
def Wd (xs : List Int) : Prop := ∀ x, x ∈ xs → 0 ≤ x ∧ x < 18446744073709551616

theorem pw_pos (n : Nat) : 0 < pw n := by
  induction n with
  | zero => simp [pw]
  | succ n ih => simp only [pw]; omega
theorem pw_add (m n : Nat) : pw (m + n) = pw m * pw n := by
  induction m with
  | zero => simp [pw]
  | succ m ih => rw [Nat.succ_add]; simp only [pw, ih]; grind
theorem pw_mono {m n : Nat} (h : m ≤ n) : pw m ≤ pw n := by
  obtain ⟨k, rfl⟩ := Nat.exists_eq_add_of_le h
  rw [pw_add]
  have h1 := pw_pos m
  have h2 : 1 ≤ pw k := pw_pos k
  have := Int.mul_le_mul_of_nonneg_left h2 (Int.le_of_lt h1)
  omega
theorem Wd.nil : Wd [] := by intro x h; simp at h
theorem Wd.cons {x : Int} {xs : List Int} (h0 : 0 ≤ x) (h1 : x < 18446744073709551616) (h : Wd xs) : Wd (x :: xs) := by
  intro y hy
  rcases List.mem_cons.1 hy with rfl | hy
  · exact ⟨h0, h1⟩
  · exact h y hy
theorem Wd.head {x : Int} {xs : List Int} (h : Wd (x :: xs)) : 0 ≤ x ∧ x < 18446744073709551616 := h x (by simp)
theorem Wd.tail {x : Int} {xs : List Int} (h : Wd (x :: xs)) : Wd xs := fun y hy => h y (by simp [hy])
theorem Wd.append {xs ys : List Int} (h : Wd xs) (k : Wd ys) : Wd (xs ++ ys) := by
  intro y hy
  rcases List.mem_append.1 hy with hy | hy
  · exact h y hy
  · exact k y hy
theorem Wd.left {xs ys : List Int} (h : Wd (xs ++ ys)) : Wd xs := fun y hy => h y (by simp [hy])
theorem Wd.right {xs ys : List Int} (h : Wd (xs ++ ys)) : Wd ys := fun y hy => h y (by simp [hy])
theorem Wd.take {xs : List Int} (h : Wd xs) (n : Nat) : Wd (xs.take n) := fun y hy => h y (List.mem_of_mem_take hy)
theorem Wd.drop {xs : List Int} (h : Wd xs) (n : Nat) : Wd (xs.drop n) := fun y hy => h y (List.mem_of_mem_drop hy)
theorem Wd.set {xs : List Int} (h : Wd xs) (n : Nat) {v : Int} (h0 : 0 ≤ v) (h1 : v < 18446744073709551616) : Wd (xs.set n v) := by
  intro y hy
  rcases List.mem_or_eq_of_mem_set hy with hy | rfl
  · exact h y hy
  · exact ⟨h0, h1⟩
theorem Wd.zeros (n : Nat) : Wd (List.replicate n 0) := by
  intro y hy; have := List.eq_of_mem_replicate hy; omega
theorem Wd.get {xs : List Int} (h : Wd xs) (i : Nat) : 0 ≤ xs.getD i 0 ∧ xs.getD i 0 < 18446744073709551616 := by
  by_cases hi : i < xs.length
  · simp only [List.getD_eq_getElem?_getD, List.getElem?_eq_getElem hi, Option.getD_some]; exact h _ (List.getElem_mem hi)
  · simp [List.getD_eq_getElem?_getD, List.getElem?_eq_none (Nat.le_of_not_lt hi)]

theorem val_append (xs ys : List Int) : val (xs ++ ys) = val xs + pw xs.length * val ys := by
  induction xs with
  | nil => simp [val, pw]
  | cons x xs ih => simp only [List.cons_append, val, ih, List.length_cons, pw]; grind
theorem val_nonneg {xs : List Int} (h : Wd xs) : 0 ≤ val xs := by
  induction xs with
  | nil => simp [val]
  | cons x xs ih => have := ih h.tail; have := h.head; simp only [val]; omega
theorem val_lt {xs : List Int} (h : Wd xs) : val xs < pw xs.length := by
  induction xs with
  | nil => simp [val, pw]
  | cons x xs ih => have := ih h.tail; have := h.head; simp only [val, List.length_cons, pw]; omega
theorem val_zeros (n : Nat) : val (List.replicate n 0) = 0 := by
  induction n with
  | zero => rfl
  | succ n ih => simp [List.replicate_succ, val, ih]
theorem val_split (xs : List Int) (n : Nat) (h : n ≤ xs.length) : val xs = val (xs.take n) + pw n * val (xs.drop n) := by
  conv => lhs; rw [← List.take_append_drop n xs]
  rw [val_append, List.length_take, Nat.min_eq_left h]
theorem take_succ_getD (xs : List Int) (k : Nat) (h : k < xs.length) : xs.take (k + 1) = xs.take k ++ [xs.getD k 0] := by
  rw [List.take_succ_eq_append_getElem h]; simp [List.getD_eq_getElem?_getD, List.getElem?_eq_getElem h]
theorem drop_getD (xs : List Int) (k : Nat) (h : k < xs.length) : xs.drop k = xs.getD k 0 :: xs.drop (k + 1) := by
  rw [List.drop_eq_getElem_cons h]; simp [List.getD_eq_getElem?_getD, List.getElem?_eq_getElem h]
theorem val_take_succ (xs : List Int) (k : Nat) (h : k < xs.length) : val (xs.take (k + 1)) = val (xs.take k) + pw k * xs.getD k 0 := by
  rw [take_succ_getD xs k h, val_append, List.length_take, Nat.min_eq_left (Nat.le_of_lt h)]; simp [val]
theorem take_set_succ (xs : List Int) (k : Nat) (v : Int) (h : k < xs.length) : (xs.set k v).take (k + 1) = xs.take k ++ [v] := by
  rw [take_succ_getD _ k (by simpa using h)]
  congr 1
  · rw [List.take_set]; exact List.set_eq_of_length_le (by simp; omega)
  · simp [List.getD_eq_getElem?_getD, h]
theorem drop_set_succ (xs : List Int) (k : Nat) (v : Int) : (xs.set k v).drop (k + 1) = xs.drop (k + 1) := by
  rw [List.drop_set_of_lt (by omega)]
/-- No nought at the high end. -/
def Nm (xs : List Int) : Prop := xs = [] ∨ xs.getD (xs.length - 1) 0 ≠ 0
theorem Nm.nil : Nm [] := Or.inl rfl
theorem val_low {xs : List Int} (h : Wd xs) (n : Nm xs) (ne : xs ≠ []) : pw (xs.length - 1) ≤ val xs := by
  have hl : 0 < xs.length := by cases xs with | nil => exact absurd rfl ne | cons => simp
  have e := val_split xs (xs.length - 1) (by omega)
  rw [drop_getD xs _ (by omega), Nat.sub_add_cancel hl, List.drop_length] at e
  rcases n with n | n
  · exact absurd n ne
  · have h1 := (h.get (xs.length - 1)).1
    have h2 := val_nonneg (h.take (xs.length - 1))
    have h3 := Int.mul_le_mul_of_nonneg_left (show 1 ≤ xs.getD (xs.length - 1) 0 by omega) (Int.le_of_lt (pw_pos (xs.length - 1)))
    simp only [val, Int.mul_zero, Int.add_zero] at e
    omega
/-- More words, a greater number. -/
theorem val_lt_of_length {xs ys : List Int} (h : Wd xs) (k : Wd ys) (n : Nm ys) (hl : xs.length < ys.length) : val xs < val ys := by
  have h1 := val_lt h
  have h2 := val_low k n (by intro e; simp [e] at hl)
  have h3 := pw_mono (show xs.length ≤ ys.length - 1 by omega)
  omega
theorem val_eq_zero {xs : List Int} (h : Wd xs) (n : Nm xs) : val xs = 0 ↔ xs = [] := by
  constructor
  · intro e
    by_cases ne : xs = []
    · exact ne
    · have := val_low h n ne; have := pw_pos (xs.length - 1); omega
  · rintro rfl; rfl
end Tn

namespace Go.Proofs.YtfalncbcomlelaaGreatDoor
open Go.RowKit Tn
/-- A word of a row, kept from the walk's own rules. -/
def nth (xs : List Int) (i : Nat) : Int := xs.getD i 0
theorem nth_bd {xs : List Int} (h : Wd xs) (i : Nat) : 0 ≤ nth xs i ∧ nth xs i < 18446744073709551616 := h.get i
theorem nth_set_same (xs : List Int) (k : Nat) (v : Int) (h : k < xs.length) : nth (xs.set k v) k = v := by simp [nth, List.getD_eq_getElem?_getD, h]
theorem nth_set_other (xs : List Int) (k j : Nat) (v : Int) (h : k ≠ j) : nth (xs.set k v) j = nth xs j := by simp [nth, List.getD_eq_getElem?_getD, h]
theorem nth_drop (xs : List Int) (k j : Nat) : nth (xs.drop k) j = nth xs (k + j) := by simp [nth, List.getD_eq_getElem?_getD]
theorem nth_take (xs : List Int) (k j : Nat) (h : j < k) : nth (xs.take k) j = nth xs j := by simp [nth, List.getD_eq_getElem?_getD, h]

/-- X is S, rewritten up to place k. -/
structure Part (X S : List Int) (k : Nat) : Prop where
  len : X.length = S.length
  wd : Wd X
  drop : X.drop k = S.drop k
theorem Part.refl {S : List Int} (h : Wd S) (k : Nat) : Part S S k := ⟨rfl, h, rfl⟩
theorem Part.nth {X S : List Int} {k : Nat} (h : Part X S k) : nth X k = nth S k := by
  have e := congrArg (fun l => Go.Proofs.YtfalncbcomlelaaGreatDoor.nth l 0) h.drop
  simpa [nth_drop] using e
theorem Part.step {X S : List Int} {k : Nat} (h : Part X S k) {v : Int} (h0 : 0 ≤ v) (h1 : v < 18446744073709551616) : Part (X.set k v) S (k + 1) := by
  refine ⟨by rw [List.length_set, h.len], h.wd.set k h0 h1, ?_⟩
  rw [drop_set_succ]
  have e := congrArg (List.drop 1) h.drop
  simpa [List.drop_drop, Nat.add_comm] using e
theorem Part.val {X S : List Int} {k : Nat} (h : Part X S k) (hk : k < S.length) (v : Int) : val ((X.set k v).take (k + 1)) = val (X.take k) + pw k * v := by
  have hl := h.len
  rw [take_set_succ X k v (by omega), val_append, List.length_take, Nat.min_eq_left (by omega)]; simp [Tn.val]
theorem Part.whole {X S : List Int} {k : Nat} (h : Part X S k) (hk : k ≤ S.length) : Tn.val X - Tn.val (X.take k) = Tn.val S - Tn.val (S.take k) := by
  have hl := h.len
  have e1 := val_split X k (by omega); have e2 := val_split S k hk; rw [h.drop] at e1; omega
theorem val_at (xs : List Int) (k : Nat) (h : k < xs.length) : val (xs.take (k + 1)) = val (xs.take k) + pw k * nth xs k := val_take_succ xs k h

/-- The cells of block b from o on hold the words xs. -/
def Cells (w : World) (b o : Nat) (xs : List Int) : Prop := ∀ i, i < xs.length → w.cell? ⟨b, o + i, none⟩ = some (.int .u64 (nth xs i))
/-- n cells of block b from o on may be written. -/
def Free (w : World) (b o n : Nat) : Prop := ∀ i, i < n → w.frozen? ⟨b, o + i, none⟩ = false

/-- Nothing that lay in w has turned, but n cells of block b from o on. -/
structure Wr (b o n : Nat) (w w' : World) : Prop where
  os : w'.os = w.os
  tape : w'.tape = w.tape
  output : w'.output = w.output
  size : w.heap.size ≤ w'.heap.size
  block : ∀ k, k < w.heap.size → k ≠ b → w'.heap[k]? = w.heap[k]?
  cell : ∀ i, (i < o ∨ o + n ≤ i) → w'.cell? ⟨b, i, none⟩ = w.cell? ⟨b, i, none⟩
  froz : ∀ i, w'.frozen? ⟨b, i, none⟩ = w.frozen? ⟨b, i, none⟩
  own : ∀ c t f, w.heap[b]? = some (.cells c t f) → ∃ c', w'.heap[b]? = some (.cells c' t f) ∧ c'.size = c.size

theorem Wr.refl (b o n : Nat) (w : World) : Wr b o n w w := ⟨rfl, rfl, rfl, Nat.le_refl _, fun _ _ _ => rfl, fun _ _ => rfl, fun _ => rfl, fun c _ _ h => ⟨c, h, rfl⟩⟩
theorem Wr.trans {b o n : Nat} {x y z : World} (h : Wr b o n x y) (k : Wr b o n y z) : Wr b o n x z :=
  ⟨k.os.trans h.os, k.tape.trans h.tape, k.output.trans h.output, Nat.le_trans h.size k.size, fun i hi hb => (k.block i (Nat.lt_of_lt_of_le hi h.size) hb).trans (h.block i hi hb),
    fun i hi => (k.cell i hi).trans (h.cell i hi), fun i => (k.froz i).trans (h.froz i), fun c t f e => by obtain ⟨c1, e1, s1⟩ := h.own c t f e; obtain ⟨c2, e2, s2⟩ := k.own c1 t f e1; exact ⟨c2, e2, s2.trans s1⟩⟩
theorem Wr.drew {b o n : Nat} {x y : World} (h : Wr b o n x y) : Wr b o n x y.drew := ⟨h.os, h.tape, h.output, h.size, h.block, h.cell, h.froz, h.own⟩
theorem Wr.drewN {b o n : Nat} {x y : World} (h : Wr b o n x y) (m : Nat) : Wr b o n x (y.drewN m) := ⟨h.os, h.tape, h.output, h.size, h.block, h.cell, h.froz, h.own⟩
theorem Wr.mono {b o n o' n' : Nat} {x y : World} (h : Wr b o n x y) (h1 : o' ≤ o) (h2 : o + n ≤ o' + n') : Wr b o' n' x y := ⟨h.os, h.tape, h.output, h.size, h.block, fun i hi => h.cell i (by omega), h.froz, h.own⟩
theorem Wr.setCell {b o n : Nat} {x y : World} (h : Wr b o n x y) (i : Nat) (hi : o ≤ i ∧ i < o + n) (v : Value) : Wr b o n x (y.setCell ⟨b, i, none⟩ v) :=
  h.trans ⟨rfl, rfl, rfl, by simp [World.setCell], fun k _ hb => Below.heap_setCell _ _ _ _ hb, fun j hj => World.cell?_setCell_other _ _ _ _ (by simp), fun j => World.frozen?_setCell _ _ _ _, fun c t f e => ⟨c.setIfInBounds i v, by simp [World.setCell, Array.getElem?_modify, e], by simp⟩⟩
theorem Wr.below {b o n : Nat} {x y : World} (h : Wr b o n x y) {B : Nat} (hB : B ≤ b) (hB' : B ≤ x.heap.size) : Below B x y :=
  ⟨h.os, h.tape, h.output, h.size, fun k hk => h.block k (by omega) (by omega)⟩
theorem Wr.of_below {b o n : Nat} {x y : World} (h : Below x.heap.size x y) (hb : b < x.heap.size) : Wr b o n x y :=
  ⟨h.os, h.tape, h.output, h.size, fun k hk _ => h.block k hk, fun _ _ => h.cell hb, fun _ => h.frozen hb, fun c _ _ e => ⟨c, (h.block b hb).trans e, rfl⟩⟩
theorem Wr.alloc {b o n : Nat} {x y : World} (h : Wr b o n x y) (hb : b < x.heap.size) (ob : Obj) : Wr b o n x (y.alloc ob) :=
  h.trans (Wr.of_below ((Below.refl _ _).alloc (Nat.le_refl _) ob) (Nat.lt_of_lt_of_le hb h.size))

theorem lt_of_cell {w : World} {b i : Nat} {v : Value} (h : w.cell? ⟨b, i, none⟩ = some v) : b < w.heap.size := by
  by_cases hb : b < w.heap.size
  · exact hb
  · simp [World.cell?, Array.getElem?_eq_none (Nat.le_of_not_lt hb)] at h
theorem Cells.lt {w : World} {b o : Nat} {xs : List Int} (h : Cells w b o xs) (ne : 0 < xs.length) : b < w.heap.size := lt_of_cell (h 0 ne)
theorem Cells.at {w : World} {b o : Nat} {xs : List Int} (h : Cells w b o xs) {i : Nat} (hi : i < xs.length) : w.cell? ⟨b, o + i, none⟩ = some (.int .u64 (nth xs i)) := h i hi
theorem Cells.below {w w' : World} {B b o : Nat} {xs : List Int} (h : Cells w b o xs) (k : Below B w w') (hb : b < B) : Cells w' b o xs := fun i hi => (k.cell (p := ⟨b, o + i, none⟩) hb).trans (h i hi)
theorem Cells.grow {w w' : World} {b o : Nat} {xs : List Int} (h : Cells w b o xs) (k : Below w.heap.size w w') : Cells w' b o xs := fun i hi => (k.cell (p := ⟨b, o + i, none⟩) (lt_of_cell (h i hi))).trans (h i hi)
/-- Writes to another block turn nothing here. -/
theorem Cells.other {w w' : World} {b o b' o' n' : Nat} {xs : List Int} (h : Cells w b o xs) (k : Wr b' o' n' w w') (hb : b ≠ b') : Cells w' b o xs := fun i hi =>
  (World.cell?_of_block (a := ⟨b, o + i, none⟩) (k.block b (lt_of_cell (h i hi)) hb)).trans (h i hi)
/-- Writes elsewhere in the same block turn nothing here. -/
theorem Cells.apart {w w' : World} {b o o' n' : Nat} {xs : List Int} (h : Cells w b o xs) (k : Wr b o' n' w w') (hb : o + xs.length ≤ o' ∨ o' + n' ≤ o) : Cells w' b o xs := fun i hi =>
  (k.cell (o + i) (by omega)).trans (h i hi)
theorem Cells.set {w : World} {b o : Nat} {xs : List Int} (h : Cells w b o xs) (k : Nat) (hk : k < xs.length) (v : Int) : Cells (w.setCell ⟨b, o + k, none⟩ (.int .u64 v)) b o (xs.set k v) := by
  intro i hi
  rw [List.length_set] at hi
  by_cases e : k = i
  · subst e; rw [nth_set_same _ _ _ hk]; exact World.cell?_setCell_same _ _ _ (h k hk)
  · rw [nth_set_other _ _ _ _ e, World.cell?_setCell_other _ _ _ _ (by simp)]; exact h i hi
theorem Cells.drop {w : World} {b o : Nat} {xs : List Int} (h : Cells w b o xs) (k : Nat) : Cells w b (o + k) (xs.drop k) := by
  intro i hi
  rw [List.length_drop] at hi
  rw [nth_drop, Nat.add_assoc]; exact h (k + i) (by omega)
theorem Cells.take {w : World} {b o : Nat} {xs : List Int} (h : Cells w b o xs) (k : Nat) : Cells w b o (xs.take k) := by
  intro i hi
  rw [List.length_take] at hi
  rw [nth_take _ _ _ (by omega)]; exact h i (by omega)
theorem Cells.append {w : World} {b o : Nat} {xs ys : List Int} (h : Cells w b o xs) (k : Cells w b (o + xs.length) ys) : Cells w b o (xs ++ ys) := by
  intro i hi
  rw [List.length_append] at hi
  by_cases e : i < xs.length
  · have : nth (xs ++ ys) i = nth xs i := by simp [nth, List.getD_eq_getElem?_getD, List.getElem?_append_left e]
    rw [this]; exact h i e
  · have : nth (xs ++ ys) i = nth ys (i - xs.length) := by simp [nth, List.getD_eq_getElem?_getD, List.getElem?_append_right (Nat.le_of_not_lt e)]
    rw [this]; have := k (i - xs.length) (by omega); rwa [Nat.add_assoc, Nat.add_sub_cancel' (Nat.le_of_not_lt e)] at this
theorem Free.drop {w : World} {b o n : Nat} (h : Free w b o n) (k : Nat) : Free w b (o + k) (n - k) := fun i hi => by rw [Nat.add_assoc]; exact h (k + i) (by omega)
theorem Free.mono {w : World} {b o n m : Nat} (h : Free w b o n) (k : m ≤ n) : Free w b o m := fun i hi => h i (by omega)
theorem Free.wr {w w' : World} {b o n b' o' n' : Nat} (h : Free w b o n) (k : Wr b' o' n' w w') (hb : b < w.heap.size) : Free w' b o n := fun i hi => by
  by_cases e : b = b'
  · subst e; exact (k.froz (o + i)).trans (h i hi)
  · exact (World.frozen?_of_block (a := ⟨b, o + i, none⟩) (k.block b hb e)).trans (h i hi)
theorem Free.grow {w w' : World} {b o n : Nat} (h : Free w b o n) (k : Below w.heap.size w w') (hb : b < w.heap.size) : Free w' b o n := fun i hi => (k.frozen (p := ⟨b, o + i, none⟩) hb).trans (h i hi)

/-- A variable of one cell, in a block of its own. -/
structure Bx (w : World) (n : Nat) (v : Value) : Prop where
  cell : w.cell? ⟨n, 0, none⟩ = some v
  free : w.frozen? ⟨n, 0, none⟩ = false
  blk : ∃ t, w.heap[n]? = some (.cells #[v] t (0, 0))
theorem Bx.lt {w : World} {n : Nat} {v : Value} (h : Bx w n v) : n < w.heap.size := lt_of_cell h.1
theorem Bx.below {W w1 : World} {n : Nat} {v : Value} (h : Bx W n v) (k : Below W.heap.size W w1) : Bx w1 n v := ⟨(k.cell (p := ⟨n, 0, none⟩) h.lt).trans h.1, (k.frozen (p := ⟨n, 0, none⟩) h.lt).trans h.2, by obtain ⟨t, e⟩ := h.3; exact ⟨t, (k.block n h.lt).trans e⟩⟩
theorem Bx.wr {W w1 : World} {n g o m : Nat} {v : Value} (h : Bx W n v) (k : Wr g o m W w1) (hn : n ≠ g) : Bx w1 n v :=
  ⟨(World.cell?_of_block (a := ⟨n, 0, none⟩) (k.block n h.lt hn)).trans h.1, (World.frozen?_of_block (a := ⟨n, 0, none⟩) (k.block n h.lt hn)).trans h.2, by obtain ⟨t, e⟩ := h.3; exact ⟨t, (k.block n h.lt hn).trans e⟩⟩
theorem Bx.new (w : World) (v : Value) (t : TypeId) : Bx (w.alloc (.cells #[v] t)) w.heap.size v := ⟨by simp, by simp, t, heap_alloc_new _ _⟩
theorem Bx.alloc {w : World} {n : Nat} {v : Value} (h : Bx w n v) (o : Obj) : Bx (w.alloc o) n v := h.below ((Below.refl _ _).alloc (Nat.le_refl _) o)
/-- The last step: the result goes into its cell. -/
theorem below_put {B n : Nat} {w w' : World} (h : Below B w w') (hn : B ≤ n) (v : Value) : Below B w (w'.setCell ⟨n, 0, none⟩ v) := h.setCell (p := ⟨n, 0, none⟩) hn v
theorem below_alloc2 {w w1 : World} {o0 o1 : Obj} (k : Below (w.heap.size + 1 + 1) ((w.alloc o0).alloc o1) w1) : Below w.heap.size w w1 := by
  refine Below.trans ?_ (k.mono (by omega))
  repeat (first | exact Below.refl _ _ | (refine Below.alloc ?_ (by first | exact Nat.le_refl _ | (simp only [World.size_alloc]; omega)) _))
theorem below_alloc3 {w w1 : World} {o0 o1 o2 : Obj} (k : Below (w.heap.size + 1 + 1 + 1) (((w.alloc o0).alloc o1).alloc o2) w1) : Below w.heap.size w w1 := by
  refine Below.trans ?_ (k.mono (by omega))
  repeat (first | exact Below.refl _ _ | (refine Below.alloc ?_ (by first | exact Nat.le_refl _ | (simp only [World.size_alloc]; omega)) _))
theorem below_alloc4 {w w1 : World} {o0 o1 o2 o3 : Obj} (k : Below (w.heap.size + 1 + 1 + 1 + 1) ((((w.alloc o0).alloc o1).alloc o2).alloc o3) w1) : Below w.heap.size w w1 := by
  refine Below.trans ?_ (k.mono (by omega))
  repeat (first | exact Below.refl _ _ | (refine Below.alloc ?_ (by first | exact Nat.le_refl _ | (simp only [World.size_alloc]; omega)) _))
/-- Block b is one of words' rows that nothing has frozen. -/
def Own (w : World) (b : Nat) : Prop := ∃ c t, w.heap[b]? = some (.cells c t (0, 0))
theorem Own.free {w : World} {b : Nat} (h : Own w b) (o n : Nat) : Free w b o n := by
  obtain ⟨c, t, e⟩ := h
  intro i _
  simp [World.frozen?, e]
theorem Own.lt {w : World} {b : Nat} (h : Own w b) : b < w.heap.size := by
  obtain ⟨c, t, e⟩ := h
  by_cases hb : b < w.heap.size
  · exact hb
  · rw [Array.getElem?_eq_none (Nat.le_of_not_lt hb)] at e; simp at e
theorem Own.wr {w w' : World} {b b' o n : Nat} (h : Own w b) (k : Wr b' o n w w') : Own w' b := by
  have hb := h.lt
  obtain ⟨c, t, e⟩ := h
  by_cases e' : b = b'
  · subst e'; obtain ⟨c', e1, _⟩ := k.own c t _ e; exact ⟨c', t, e1⟩
  · exact ⟨c, t, (k.block b hb e').trans e⟩
theorem Own.grow {w w' : World} {b : Nat} (h : Own w b) (k : Below w.heap.size w w') : Own w' b := by
  have hb := h.lt
  obtain ⟨c, t, e⟩ := h
  exact ⟨c, t, (k.block b hb).trans e⟩

/-- The slice value v reads as the words xs. -/
def Rd (w : World) (v : Value) (xs : List Int) : Prop :=
  Wd xs ∧ ∃ a cap, v = .slice a xs.length cap ∧ xs.length ≤ cap ∧ cap ≤ maxLen ∧ (0 < xs.length → ∃ b o, a = some ⟨b, o, none⟩ ∧ Cells w b o xs)
theorem Rd.grow {w w' : World} {v : Value} {xs : List Int} (h : Rd w v xs) (k : Below w.heap.size w w') : Rd w' v xs := by
  obtain ⟨h1, a, cap, h2, h3, h4, h5⟩ := h
  exact ⟨h1, a, cap, h2, h3, h4, fun l => by obtain ⟨b, o, e, c⟩ := h5 l; exact ⟨b, o, e, c.grow k⟩⟩
theorem Rd.nil (w : World) : Rd w (.slice none 0 0) [] := ⟨Wd.nil, none, 0, rfl, Nat.le_refl _, by decide, fun h => by simp at h⟩
theorem Rd.put {w : World} {n : Nat} {v u : Value} {xs : List Int} (h : Rd w v xs) (hn : ∀ b o l c, v = .slice (some ⟨b, o, none⟩) l c → b ≠ n) : Rd (w.setCell ⟨n, 0, none⟩ u) v xs := by
  obtain ⟨h1, a, cap, h2, h3, h4, h5⟩ := h
  refine ⟨h1, a, cap, h2, h3, h4, fun l => ?_⟩
  obtain ⟨b, o, e, c⟩ := h5 l
  refine ⟨b, o, e, fun i hi => ?_⟩
  rw [World.cell?_setCell_other _ _ _ _ (by have := hn b o _ _ (by rw [h2, e]); simp; try omega)]
  exact c i hi
/-- A variable that holds a slice lies apart from all words: its cell may be written. -/
theorem Rd.box {w : World} {n : Nat} {v u : Value} {xs : List Int} {a : Option Addr} {l c : Nat} (h : Rd w v xs) (hb : Bx w n (.slice a l c)) : Rd (w.setCell ⟨n, 0, none⟩ u) v xs := by
  obtain ⟨h1, a, cap, h2, h3, h4, h5⟩ := h
  refine ⟨h1, a, cap, h2, h3, h4, fun l => ?_⟩
  obtain ⟨b, o, e, hc⟩ := h5 l
  refine ⟨b, o, e, fun i hi => ?_⟩
  have hne : b ≠ n := by
    rintro rfl
    obtain ⟨t, hb⟩ := hb.3
    have := hc 0 (by omega)
    simp only [World.cell?, hb] at this
    by_cases h0 : o = 0
    · subst h0; simp at this
    · simp [h0] at this
  rw [World.cell?_setCell_other _ _ _ _ (by simp; try omega)]
  exact hc i hi
theorem Cells.drew {w : World} {b o : Nat} {xs : List Int} (h : Cells w b o xs) : Cells w.drew b o xs := h
theorem Free.drew {w : World} {b o n : Nat} (h : Free w b o n) : Free w.drew b o n := h
theorem Own.drew {w : World} {b : Nat} (h : Own w b) : Own w.drew b := h
theorem Bx.drew {w : World} {n : Nat} {v : Value} (h : Bx w n v) : Bx w.drew n v := ⟨h.1, h.2, h.3⟩
theorem Wr.undrew {b o n : Nat} {x y : World} (h : Wr b o n x.drew y) : Wr b o n x y := ⟨h.os, h.tape, h.output, h.size, h.block, h.cell, h.froz, h.own⟩
theorem below_undrew {B : Nat} {x y : World} (h : Below B x.drew y) : Below B x y := ⟨h.os, h.tape, h.output, h.size, h.block⟩
theorem Rd.drew {w : World} {v : Value} {xs : List Int} (h : Rd w v xs) : Rd w.drew v xs := h.grow ((Below.refl _ _).drew)
end Go.Proofs.YtfalncbcomlelaaGreatDoor

namespace Go.Proofs.YtfalncbcomlelaaGreatDoor
open Go.RowKit Tn

/-- A block as it lies. -/
def Blk (w : World) (n : Nat) (c : Array Value) (t : TypeId) : Prop := w.heap[n]? = some (.cells c t (0, 0))
theorem Blk.lt {w : World} {n : Nat} {c : Array Value} {t : TypeId} (h : Blk w n c t) : n < w.heap.size := Own.lt ⟨c, t, h⟩
theorem Blk.below {B : Nat} {w w' : World} {n : Nat} {c : Array Value} {t : TypeId} (h : Blk w n c t) (k : Below B w w') (hn : n < B) : Blk w' n c t := (k.block n hn).trans h
theorem Blk.wr {w w' : World} {n g o m : Nat} {c : Array Value} {t : TypeId} (h : Blk w n c t) (k : Wr g o m w w') (hn : n ≠ g) : Blk w' n c t := (k.block n h.lt hn).trans h
theorem Blk.at {w : World} {n : Nat} {c : Array Value} {t : TypeId} (h : Blk w n c t) (i : Nat) : w.cell? ⟨n, i, none⟩ = c[i]? := by
  have h' : w.heap[n]? = some (.cells c t (0, 0)) := h
  simp [World.cell?, h']
theorem Blk.new (w : World) (c : Array Value) (t : TypeId) : Blk (w.alloc (.cells c t)) w.heap.size c t := heap_alloc_new _ _
theorem Blk.alloc {w : World} {n : Nat} {c : Array Value} {t : TypeId} (h : Blk w n c t) (o : Obj) : Blk (w.alloc o) n c t := h.below ((Below.refl _ _).alloc (Nat.le_refl _) o) h.lt
theorem Blk.free {w : World} {n : Nat} {c : Array Value} {t : TypeId} (h : Blk w n c t) (i : Nat) : w.frozen? ⟨n, i, none⟩ = false := by
  have h' : w.heap[n]? = some (.cells c t (0, 0)) := h
  simp [World.frozen?, h']
end Go.Proofs.YtfalncbcomlelaaGreatDoor

namespace Go.Proofs.YtfalncbcomlelaaGreatDoor.Ta
open Go.RowKit Go.Proofs.YtfalncbcomlelaaGreatDoor.L Dc
open Go.Proofs.YtfalncbcomlelaaGreatDoor.Mo (Ri wrapI)

/-- Are these rates, of which the last one alone is one? -/
def rwB (xs : List Int) : Bool := decide (0 < xs.length ∧ ∀ i, i < xs.length → 0 ≤ L.nth xs i ∧ L.nth xs i ≤ 10000000 ∧ (L.nth xs i = 10000000 ↔ i + 1 = xs.length))
theorem rwB_none {xs : List Int} (h : xs.length = 0) : rwB xs = false := by simp [rwB]; omega
theorem rwB_bad {xs : List Int} {k : Nat} (hk : k < xs.length) (h : ¬ (0 ≤ L.nth xs k ∧ L.nth xs k ≤ 10000000 ∧ (L.nth xs k = 10000000 ↔ k + 1 = xs.length))) : rwB xs = false := by
  cases c : rwB xs with
  | false => rfl
  | true =>
    simp only [rwB, decide_eq_true_iff] at c
    exact absurd (c.2 k hk) h
theorem rwB_all {xs : List Int} (h0 : 0 < xs.length) (h : ∀ i, i < xs.length → 0 ≤ L.nth xs i ∧ L.nth xs i ≤ 10000000 ∧ (L.nth xs i = 10000000 ↔ i + 1 = xs.length)) : rwB xs = true := by
  simp only [rwB, decide_eq_true_iff]; exact ⟨h0, h⟩
/-- The slice value v reads as the ints xs; it has no room if it is nil; it is not too long. -/
def Rx (w : World) (v : Value) (xs : List Int) : Prop := Ri w v xs ∧ (∃ ao c, v = .slice ao xs.length c ∧ (ao = none → c = 0)) ∧ xs.length * 8 ≤ 140737488351232
theorem Rx.grow {w w' : World} {v : Value} {xs : List Int} (h : Rx w v xs) (k : Below w.heap.size w w') : Rx w' v xs := ⟨h.1.grow k, h.2⟩
/-- The slice value v reads as the rows xss. -/
def Rr (w : World) (v : Value) (xss : List (List Int)) : Prop :=
  xss.length * 24 ≤ 140737488351232 ∧ ∃ ao c, v = .slice ao xss.length c ∧ (0 < xss.length → ∃ b o, ao = some ⟨b, o, none⟩ ∧ ∀ d, d < xss.length → ∃ vd, w.cell? ⟨b, o + d, none⟩ = some vd ∧ Rx w vd (xss.getD d []))
theorem Rr.grow {w w' : World} {v : Value} {xss : List (List Int)} (h : Rr w v xss) (k : Below w.heap.size w w') : Rr w' v xss := by
  obtain ⟨h1, ao, c, h2, h3⟩ := h
  refine ⟨h1, ao, c, h2, fun l => ?_⟩
  obtain ⟨b, o, e, f⟩ := h3 l
  refine ⟨b, o, e, fun d hd => ?_⟩
  obtain ⟨vd, c1, c2⟩ := f d hd
  exact ⟨vd, (k.cell (p := ⟨b, o + d, none⟩) (lt_of_cell c1)).trans c1, c2.grow k⟩

set_option maxRecDepth 100000 in
set_option maxHeartbeats 1600000 in
theorem row_any (v : Value) (xs : List Int) (w : World) (h : Rx w v xs) :
    Calls Tryz.prog 121 #[v] w fun e w' => e = .returned (.bool (rwB xs)) ∧ w' = w := by
  obtain ⟨⟨hb, a, cap, rfl, hl, hm, g⟩, _, hL⟩ := h
  go_enter Tryz.func121, Tryz.ntmps121
  go_wp2_with fail
  go_loopw [3] (fun i wr => ∃ k : Nat, k ≤ xs.length ∧ i = .int .i64 k ∧ Hid (∀ i, i < k → 0 ≤ L.nth xs i ∧ L.nth xs i ≤ 10000000 ∧ (L.nth xs i = 10000000 ↔ i + 1 = xs.length)) ∧ wr = w) (fun i _ => xs.length - (intOf i).toNat)
  case atStart => exact ⟨0, Nat.zero_le _, rfl, fun j hj => absurd hj (by omega), rfl⟩
  case round =>
    obtain ⟨k, hk, rfl, hd, rfl⟩ := hrel
    by_cases hlt : k < xs.length
    · obtain ⟨b, o, rfl, hc⟩ := g (by omega)
      have hc1 := hc.at hlt
      have b1 := hc.lt (by omega)
      have bn := hb k
      obtain ⟨M, hM⟩ : ∃ M : Int, (xs.length : Int) - 1 = M := ⟨_, rfl⟩
      have x1 : IntKind.i64.wrap ((xs.length : Int) - 1) = M := by rw [← hM]; exact wrapI _ (by omega) (by omega)
      have x3 : -1 ≤ M ∧ M ≤ 17592186043904 := by omega
      obtain ⟨p1, e1⟩ : ∃ p, decide (L.nth xs k < 0) = p := ⟨_, rfl⟩
      obtain ⟨p2, e2⟩ : ∃ p, decide (10000000 < L.nth xs k) = p := ⟨_, rfl⟩
      obtain ⟨p3, e3⟩ : ∃ p, (L.nth xs k == 10000000) = p := ⟨_, rfl⟩
      obtain ⟨p4, e4⟩ : ∃ p, ((k : Int) == M) = p := ⟨_, rfl⟩
      have E : (0 ≤ L.nth xs k ∧ L.nth xs k ≤ 10000000 ∧ (L.nth xs k = 10000000 ↔ k + 1 = xs.length)) ↔ (p1 = false ∧ p2 = false ∧ p3 = p4) := by
        subst e1 e2 e3 e4
        rw [decide_eq_false_iff_not, decide_eq_false_iff_not, Bool.eq_iff_iff, beq_iff_eq, beq_iff_eq]
        omega
      have HM : Hid ((xs.length : Int) - 1 = M) := hM
      clear hM
      by_cases hg : 0 ≤ L.nth xs k ∧ L.nth xs k ≤ 10000000 ∧ (L.nth xs k = 10000000 ↔ k + 1 = xs.length)
      · have N : Hid (∀ i, i < k + 1 → 0 ≤ L.nth xs i ∧ L.nth xs i ≤ 10000000 ∧ (L.nth xs i = 10000000 ↔ i + 1 = xs.length)) := fun j hjk => by
          by_cases e : j = k
          · subst e; exact hg
          · exact hd.out j (by omega)
        rw [E] at hg
        obtain ⟨rfl, rfl, rfl⟩ := hg
        clear E g hb
        generalize L.nth xs k = x at *
        cases p3
        all_goals
          go_wp2
          go_roundw
          case rel => exact ⟨k + 1, by omega, by go_num, N, trivial⟩
          case measure => simp [intOf]; omega
      · have R : Hid (rwB xs = false) := rwB_bad hlt hg
        rw [E] at hg
        clear E g hb
        generalize L.nth xs k = x at *
        cases p1
        · cases p2
          · cases p3 <;> cases p4
            · exact absurd ⟨rfl, rfl, rfl⟩ hg
            · clear hg
              go_wp2
              go_ret
              exact ⟨by rw [R.out]; rfl, rfl⟩
            · clear hg
              go_wp2
              go_ret
              exact ⟨by rw [R.out]; rfl, rfl⟩
            · exact absurd ⟨rfl, rfl, rfl⟩ hg
          · clear hg
            go_wp2
            go_ret
            exact ⟨by rw [R.out]; rfl, rfl⟩
        · clear hg
          go_wp2
          go_ret
          exact ⟨by rw [R.out]; rfl, rfl⟩
    · clear g hb
      by_cases z : xs.length = 0
      · have R : Hid (rwB xs = false) := rwB_none z
        have z' : decide (0 < xs.length) = false := decide_eq_false (by omega)
        clear z
        go_wp2
        go_ret
        exact ⟨by rw [R.out]; rfl, rfl⟩
      · have R : Hid (rwB xs = true) := rwB_all (by omega) (fun i hi => hd.out i (by omega))
        have z' : decide (0 < xs.length) = true := decide_eq_true (by omega)
        clear z
        go_wp2
        go_ret
        exact ⟨by rw [R.out]; rfl, rfl⟩

set_option maxRecDepth 100000 in
set_option maxHeartbeats 1600000 in
theorem areRates_any (v : Value) (xs : List Int) (w : World) (h : Rx w v xs) (h0 : 0 < xs.length) :
    Calls Tryz.prog 113 #[v] w fun e w' => e = .returned (.bool (rwB xs)) ∧ w' = w := by
  obtain ⟨⟨hb, a, cap, rfl, hl, hm, g⟩, _, hL⟩ := h
  obtain ⟨b, o, rfl, hc⟩ := g h0
  clear g
  have x1 : IntKind.i64.wrap ((xs.length : Int) - 1) = (xs.length : Int) - 1 := wrapI _ (by omega) (by omega)
  have b1 := hc.lt (by omega)
  obtain ⟨n, hn⟩ : ∃ n : Nat, xs.length = n + 1 := ⟨xs.length - 1, by omega⟩
  have x2 : ((xs.length : Int) - 1) = (n : Int) := by omega
  have hn1 : n < xs.length := by omega
  have hnL : n * 8 ≤ 140737488351232 := by omega
  rw [x2] at x1
  go_enter Tryz.func113, Tryz.ntmps113
  go_wp2_with fail
  go_loopw [9] (fun i wr => ∃ k : Nat, k ≤ n ∧ i = .int .i64 k ∧ Hid (∀ i, i < k → 0 ≤ L.nth xs i ∧ L.nth xs i ≤ 10000000 ∧ (L.nth xs i = 10000000 ↔ i + 1 = xs.length)) ∧ wr = w) (fun i _ => n - (intOf i).toNat)
  case atStart => exact ⟨0, Nat.zero_le _, rfl, fun j hj => absurd hj (by omega), rfl⟩
  case round =>
    obtain ⟨k, hk, rfl, hd, rfl⟩ := hrel
    by_cases hlt : k < n
    · have hc1 := hc.at (show k < xs.length by omega)
      have bn := hb k
      by_cases hg : 0 ≤ L.nth xs k ∧ L.nth xs k ≤ 10000000 ∧ (L.nth xs k = 10000000 ↔ k + 1 = xs.length)
      · have N : Hid (∀ i, i < k + 1 → 0 ≤ L.nth xs i ∧ L.nth xs i ≤ 10000000 ∧ (L.nth xs i = 10000000 ↔ i + 1 = xs.length)) := fun j hjk => by
          by_cases e : j = k
          · subst e; exact hg
          · exact hd.out j (by omega)
        have q1 : ¬ L.nth xs k < 0 := by omega
        have q2 : ¬ 10000000 ≤ L.nth xs k := by omega
        clear hg hb
        generalize L.nth xs k = x at *
        go_wp2
        go_roundw
        case rel => exact ⟨k + 1, by omega, by go_num, N, trivial⟩
        case measure => simp [intOf]; omega
      · have R : Hid (rwB xs = false) := rwB_bad (by omega) hg
        have q : L.nth xs k < 0 ∨ (¬ L.nth xs k < 0 ∧ 10000000 ≤ L.nth xs k) := by omega
        clear hg hb
        generalize L.nth xs k = x at *
        rcases q with q | ⟨q, q2⟩
        · go_wp2
          go_ret
          exact ⟨by rw [R.out]; rfl, rfl⟩
        · go_wp2
          go_ret
          exact ⟨by rw [R.out]; rfl, rfl⟩
    · obtain rfl : k = n := by omega
      have hc1 := hc.at hn1
      have bn := hb k
      by_cases hg : L.nth xs k = 10000000
      · have R : Hid (rwB xs = true) := rwB_all h0 (fun i hi => by
          by_cases e : i = k
          · subst e; omega
          · exact hd.out i (by omega))
        have q : (L.nth xs k == 10000000) = true := by rw [hg]; rfl
        clear hg hb
        generalize L.nth xs k = x at *
        go_wp2
        go_ret
        exact ⟨by rw [R.out]; rfl, rfl⟩
      · have R : Hid (rwB xs = false) := rwB_bad hn1 (by omega)
        have q : (L.nth xs k == 10000000) = false := by simpa using hg
        clear hg hb
        generalize L.nth xs k = x at *
        go_wp2
        go_ret
        exact ⟨by rw [R.out]; rfl, rfl⟩
/-- An age. -/
def isAg (p : Int) : Bool := decide (0 ≤ p ∧ p ≤ 130)
theorem isAge_any (p : Int) (w : World) : Calls Tryz.prog 112 #[.int .i64 p] w fun e w' => e = .returned (.bool (isAg p)) ∧ w' = w := by
  by_cases h1 : 0 ≤ p
  · by_cases h2 : p ≤ 130
    · have R : Hid (isAg p = true) := by show _ = _; simp [isAg]; omega
      go_enter Tryz.func112, Tryz.ntmps112
      go_wp2
      go_ret
      exact ⟨by rw [R.out]; rfl, rfl⟩
    · have R : Hid (isAg p = false) := by show _ = _; simp [isAg]; omega
      go_enter Tryz.func112, Tryz.ntmps112
      go_wp2
      go_ret
      exact ⟨by rw [R.out]; rfl, rfl⟩
  · have R : Hid (isAg p = false) := by show _ = _; simp [isAg]; omega
    go_enter Tryz.func112, Tryz.ntmps112
    go_wp2
    go_ret
    exact ⟨by rw [R.out]; rfl, rfl⟩
end Go.Proofs.YtfalncbcomlelaaGreatDoor.Ta

namespace Go.Proofs.YtfalncbcomlelaaGreatDoor.Ta
open Go.RowKit Go.Proofs.YtfalncbcomlelaaGreatDoor.L Dc
open Go.Proofs.YtfalncbcomlelaaGreatDoor.Mo (Ri wrapI)

/-- Select fits the rates. -/
def selB (rs : List Int) (sel : List (List Int)) : Bool := decide (sel.length ≤ 10 ∧ sel.length ≤ rs.length ∧ ∀ d, d < sel.length → (sel.getD d []).length + d = rs.length ∧ rwB (sel.getD d []) = true)
theorem selB_long {rs : List Int} {sel : List (List Int)} (h : 10 < sel.length ∨ rs.length < sel.length) : selB rs sel = false := by simp only [selB, decide_eq_false_iff_not]; omega
theorem selB_bad {rs : List Int} {sel : List (List Int)} {d : Nat} (hd : d < sel.length) (h : ¬ ((sel.getD d []).length + d = rs.length ∧ rwB (sel.getD d []) = true)) : selB rs sel = false := by
  simp only [selB, decide_eq_false_iff_not]
  intro c
  exact h (c.2.2 d hd)
theorem selB_all {rs : List Int} {sel : List (List Int)} (h1 : sel.length ≤ 10) (h2 : sel.length ≤ rs.length) (h : ∀ d, d < sel.length → (sel.getD d []).length + d = rs.length ∧ rwB (sel.getD d []) = true) : selB rs sel = true := by
  simp only [selB, decide_eq_true_iff]; exact ⟨h1, h2, h⟩

set_option maxHeartbeats 400000 in
theorem last_any (s : ByteArray) (f : Int) (ao : Option Addr) (n c : Nat) (vs : Value) (w : World) (h0 : 0 ≤ f) (h1 : f ≤ 130) (hL : n * 8 ≤ 140737488351232) :
    Calls Tryz.prog 80 #[.agg #[.string s, .int .i64 f, .slice ao n c, vs]] w fun e w' => e = .returned (.int .i64 (f + n - 1)) ∧ Below w.heap.size w w' := by
  have x1 : IntKind.i64.wrap (f + (n : Int)) = f + n := wrapI _ (by omega) (by omega)
  have x2 : IntKind.i64.wrap (f + (n : Int) - 1) = f + n - 1 := wrapI _ (by omega) (by omega)
  go_enter Tryz.func80, Tryz.ntmps80
  go_wp2
  go_ret
  exact ⟨rfl, (Below.refl _ _).alloc (Nat.le_refl _) _⟩
set_option maxHeartbeats 400000 in
theorem RLast_any (s : ByteArray) (f : Int) (ao : Option Addr) (n c : Nat) (vs : Value) (w : World) (h0 : 0 ≤ f) (h1 : f ≤ 130) (hL : n * 8 ≤ 140737488351232) :
    Calls Tryz.prog 90 #[.agg #[.string s, .int .i64 f, .slice ao n c, vs]] w fun e w' => e = .returned (.int .i64 (f + n - 1)) ∧ Below w.heap.size w w' := by
  have x1 : IntKind.i64.wrap (f + (n : Int)) = f + n := wrapI _ (by omega) (by omega)
  have x2 : IntKind.i64.wrap (f + (n : Int) - 1) = f + n - 1 := wrapI _ (by omega) (by omega)
  go_enter Tryz.func90, Tryz.ntmps90
  go_wp2
  go_ret
  exact ⟨rfl, (Below.refl _ _).alloc (Nat.le_refl _) _⟩

set_option maxRecDepth 100000 in
set_option maxHeartbeats 1600000 in
theorem isSelect_any (s : ByteArray) (f : Int) (vr vs : Value) (rs : List Int) (sel : List (List Int)) (w : World) (hr : Rx w vr rs) (hs : Rr w vs sel) :
    Calls Tryz.prog 114 #[.agg #[.string s, .int .i64 f, vr, vs]] w fun e w' => e = .returned (.bool (selB rs sel)) ∧ Below w.heap.size w w' := by
  obtain ⟨_, ⟨ar, cr, rfl, _⟩, hL⟩ := hr
  obtain ⟨hLs, az, cs, rfl, g⟩ := hs
  by_cases h1 : 10 < sel.length
  · have R : Hid (selB rs sel = false) := selB_long (Or.inl h1)
    have h1' : (10 : Int) < (sel.length : Int) := by omega
    clear g
    go_enter Tryz.func114, Tryz.ntmps114
    go_wp2
    go_ret
    exact ⟨by rw [R.out]; rfl, (Below.refl _ _).alloc (Nat.le_refl _) _⟩
  · have h1' : ¬ (10 : Int) < (sel.length : Int) := by omega
    by_cases h2 : rs.length < sel.length
    · have R : Hid (selB rs sel = false) := selB_long (Or.inr h2)
      have h2' : (rs.length : Int) < (sel.length : Int) := by omega
      clear g h1
      go_enter Tryz.func114, Tryz.ntmps114
      go_wp2
      go_ret
      exact ⟨by rw [R.out]; rfl, (Below.refl _ _).alloc (Nat.le_refl _) _⟩
    · have h2' : ¬ (rs.length : Int) < (sel.length : Int) := by omega
      go_enter Tryz.func114, Tryz.ntmps114
      go_wp2_with fail
      go_loopw [20] (fun i wr => ∃ k : Nat, k ≤ sel.length ∧ i = .int .i64 k ∧ Hid (∀ d, d < k → (sel.getD d []).length + d = rs.length ∧ rwB (sel.getD d []) = true) ∧ Blk wr w.heap.size #[.string s, .int .i64 f, .slice ar rs.length cr, .slice az sel.length cs] 46 ∧ Below w.heap.size w wr) (fun i _ => sel.length - (intOf i).toNat)
      case atStart => exact ⟨0, Nat.zero_le _, rfl, fun j hj => absurd hj (by omega), Blk.new _ _ _, (Below.refl _ _).alloc (Nat.le_refl _) _⟩
      case round =>
        obtain ⟨k, hk, rfl, hd, hB, HB⟩ := hrel
        have q2 := hB.at 2
        have q3 := hB.at 3
        simp at q2 q3
        have hBl := hB.lt
        by_cases hlt : k < sel.length
        · obtain ⟨b, o, rfl, hc⟩ := g (by omega)
          obtain ⟨vd, c0, r1⟩ := hc k hlt
          have b1 : b < w.heap.size := lt_of_cell c0
          have c1 : wr.cell? ⟨b, o + k, none⟩ = some vd := (HB.cell (p := ⟨b, o + k, none⟩) b1).trans c0
          have r2 : ∀ j, Rx (wr.drewN j) vd (sel.getD k []) := fun j => (r1.grow HB).grow (below_drewN (Below.refl _ _) j)
          obtain ⟨_, ⟨ad, cd, rfl, _⟩, hLd⟩ := r1
          have x0 : (0 : Int) ≤ (k : Int) := by omega
          have x1 : ((k : Int)).toNat = k := by omega
          obtain ⟨M, hM⟩ : ∃ M : Int, (rs.length : Int) - (k : Int) = M := ⟨_, rfl⟩
          have x2 : IntKind.i64.wrap ((rs.length : Int) - (k : Int)) = M := by rw [← hM]; exact wrapI _ (by omega) (by omega)
          clear g hc c0
          by_cases hg : (sel.getD k []).length + k = rs.length
          · have y : (((sel.getD k []).length : Int) != M) = false := by rw [bne_eq_false_iff_eq]; omega
            have A := fun j => areRates_any _ (sel.getD k []) _ (r2 j) (by omega)
            rcases hw : rwB (sel.getD k []) with _ | _
            · have R : Hid (selB rs sel = false) := selB_bad hlt (by rw [hw]; simp)
              rw [hw] at A
              clear hM r2
              generalize (sel.getD k []).length = L at *
              go_wp2_with fail
              go_quiet ((go_at_call 113; exact Calls.quiet_of_same (A _)))
              go_wp2
              go_ret
              exact ⟨by rw [R.out]; rfl, below_drewN HB _⟩
            · have N : Hid (∀ d, d < k + 1 → (sel.getD d []).length + d = rs.length ∧ rwB (sel.getD d []) = true) := fun j hjk => by
                by_cases e : j = k
                · subst e; exact ⟨hg, hw⟩
                · exact hd.out j (by omega)
              rw [hw] at A
              clear hM r2
              generalize (sel.getD k []).length = L at *
              go_wp2_with fail
              go_quiet ((go_at_call 113; exact Calls.quiet_of_same (A _)))
              go_wp2
              go_roundw
              case rel => exact ⟨k + 1, by omega, by go_num, N, hB, below_drewN HB _⟩
              case measure => simp [intOf]; omega
          · have R : Hid (selB rs sel = false) := selB_bad hlt (fun h => hg h.1)
            have y : (((sel.getD k []).length : Int) != M) = true := by rw [bne_iff_ne]; omega
            clear hM r2 hg
            generalize (sel.getD k []).length = L at *
            go_wp2_with fail
            go_quiet (fail)
            go_wp2
            go_ret
            exact ⟨by rw [R.out]; rfl, below_drewN HB _⟩
        · have R : Hid (selB rs sel = true) := selB_all (by omega) (by omega) (fun i hi => hd.out i (by omega))
          clear g
          go_wp2
          go_ret
          exact ⟨by rw [R.out]; rfl, HB⟩
end Go.Proofs.YtfalncbcomlelaaGreatDoor.Ta

namespace Go.Proofs.YtfalncbcomlelaaGreatDoor.Ta
open Go.RowKit Go.Proofs.YtfalncbcomlelaaGreatDoor.L Dc
open Go.Proofs.YtfalncbcomlelaaGreatDoor.Mo (Ri wrapI)

theorem bel' {w W w1 : World} (pr : Below w.heap.size w W) (b1 : Below W.heap.size W w1) : Below w.heap.size w w1 := pr.trans (b1.mono pr.size)
/-- What is wrong with a table. -/
def chk (s : ByteArray) (f : Int) (rs : List Int) (sel : List (List Int)) : Int :=
  if nmB s = false then 2 else if ¬ (0 ≤ f ∧ f ≤ 130 ∧ 0 < rs.length ∧ f + rs.length ≤ 131) then 8 else if (rwB rs && selB rs sel) = true then 0 else 90
theorem chk_2 {s : ByteArray} {f : Int} {rs : List Int} {sel : List (List Int)} (h : nmB s = false) : chk s f rs sel = 2 := by simp [chk, h]
theorem chk_8 {s : ByteArray} {f : Int} {rs : List Int} {sel : List (List Int)} (h : nmB s = true) (h2 : ¬ (0 ≤ f ∧ f ≤ 130 ∧ 0 < rs.length ∧ f + rs.length ≤ 131)) : chk s f rs sel = 8 := by
  unfold chk; rw [if_neg (by rw [h]; simp), if_pos h2]
theorem chk_90 {s : ByteArray} {f : Int} {rs : List Int} {sel : List (List Int)} (h : nmB s = true) (h2 : 0 ≤ f ∧ f ≤ 130 ∧ 0 < rs.length ∧ f + rs.length ≤ 131) (h3 : (rwB rs && selB rs sel) = false) : chk s f rs sel = 90 := by
  unfold chk; rw [if_neg (by rw [h]; simp), if_neg (fun c => c h2), if_neg (by rw [h3]; simp)]
theorem chk_0 {s : ByteArray} {f : Int} {rs : List Int} {sel : List (List Int)} (h : nmB s = true) (h2 : 0 ≤ f ∧ f ≤ 130 ∧ 0 < rs.length ∧ f + rs.length ≤ 131) (h3 : (rwB rs && selB rs sel) = true) : chk s f rs sel = 0 := by
  unfold chk; rw [if_neg (by rw [h]; simp), if_neg (fun c => c h2), if_pos h3]
theorem of_chk_0 {s : ByteArray} {f : Int} {rs : List Int} {sel : List (List Int)} (h : chk s f rs sel = 0) : nmB s = true ∧ (0 ≤ f ∧ f ≤ 130 ∧ 0 < rs.length ∧ f + rs.length ≤ 131) ∧ rwB rs = true ∧ selB rs sel = true := by
  unfold chk at h
  split at h
  · cases h
  · rename_i a
    split at h
    · cases h
    · rename_i b
      split at h
      · rename_i c
        rw [Bool.and_eq_true] at c
        exact ⟨by simpa using a, Classical.not_not.1 b, c.1, c.2⟩
      · cases h

set_option maxRecDepth 100000 in
set_option maxHeartbeats 3200000 in
theorem Check_any (s : ByteArray) (f : Int) (vr vs : Value) (rs : List Int) (sel : List (List Int)) (w : World) (hs : s.size ≤ 140737488351232) (hr : Rx w vr rs) (hsel : Rr w vs sel) :
    Calls Tryz.prog 79 #[.agg #[.string s, .int .i64 f, vr, vs]] w fun e w' => e = .returned (.int .i64 (chk s f rs sel)) ∧ Below w.heap.size w w' := by
  have Nm := fun W => isName_any s W hs
  rcases hn : nmB s with _ | _
  · have R : Hid (chk s f rs sel = 2) := chk_2 hn
    rw [hn] at Nm
    go_enter Tryz.func79, Tryz.ntmps79
    go_wp2_with (go_at_call 111; refine (Nm _).mono ?_; rintro e w' ⟨rfl, m, rfl⟩)
    go_ret
    exact ⟨by rw [R.out]; rfl, below_drewN ((Below.refl _ _).alloc (Nat.le_refl _) _) _⟩
  · rw [hn] at Nm
    have A1 := fun W => isAge_any f W
    rcases ha : isAg f with _ | _
    · have R : Hid (chk s f rs sel = 8) := chk_8 hn (by simp [isAg] at ha; omega)
      rw [ha] at A1
      go_enter Tryz.func79, Tryz.ntmps79
      go_wp2_with (first | (go_at_call 111; refine (Nm _).mono ?_; rintro e w' ⟨rfl, m, rfl⟩) | (go_at_call 112; refine (A1 _).mono ?_; rintro e w' ⟨rfl, rfl⟩))
      go_ret
      exact ⟨by rw [R.out]; rfl, below_drewN ((Below.refl _ _).alloc (Nat.le_refl _) _) _⟩
    · have hf : 0 ≤ f ∧ f ≤ 130 := by simpa [isAg] using ha
      rw [ha] at A1
      have hr' := hr
      obtain ⟨_, ⟨ar, cr, rfl, _⟩, hL⟩ := hr'
      by_cases h0 : rs.length = 0
      · have R : Hid (chk s f rs sel = 8) := chk_8 hn (by omega)
        have z : ((rs.length : Int) == 0) = true := by rw [beq_iff_eq]; omega
        generalize rs.length = n at *
        subst h0
        go_enter Tryz.func79, Tryz.ntmps79
        go_wp2_with (first | (go_at_call 111; refine (Nm _).mono ?_; rintro e w' ⟨rfl, m, rfl⟩) | (go_at_call 112; refine (A1 _).mono ?_; rintro e w' ⟨rfl, rfl⟩))
        go_ret
        exact ⟨by rw [R.out]; rfl, below_drewN ((Below.refl _ _).alloc (Nat.le_refl _) _) _⟩
      · have z : ((rs.length : Int) == 0) = false := by rw [beq_eq_false_iff_ne]; omega
        have La := fun W => last_any s f ar rs.length cr vs W hf.1 hf.2 hL
        obtain ⟨M, hM⟩ : ∃ M : Int, f + (rs.length : Int) - 1 = M := ⟨_, rfl⟩
        rw [hM] at La
        have A2 := fun W => isAge_any M W
        rcases hb : isAg M with _ | _
        · have R : Hid (chk s f rs sel = 8) := chk_8 hn (by simp [isAg] at hb; omega)
          rw [hb] at A2
          clear hM
          go_enter Tryz.func79, Tryz.ntmps79
          go_wp2_with (first
            | (go_at_call 111; refine (Nm _).mono ?_; rintro e w' ⟨rfl, m, rfl⟩)
            | (go_at_call 112; (with_reducible refine (A2 _).mono ?_); rintro e w' ⟨rfl, rfl⟩)
            | (go_at_call 112; (with_reducible refine (A1 _).mono ?_); rintro e w' ⟨rfl, rfl⟩)
            | (go_at_call 80; refine (La _).mono ?_; rintro e w1 ⟨rfl, B1⟩))
          go_ret
          exact ⟨by rw [R.out]; rfl, bel' (below_drewN ((Below.refl _ _).alloc (Nat.le_refl _) _) _) B1⟩
        · have hb' : 0 ≤ M ∧ M ≤ 130 := by simpa [isAg] using hb
          have h2 : 0 ≤ f ∧ f ≤ 130 ∧ 0 < rs.length ∧ f + rs.length ≤ 131 := by omega
          rw [hb] at A2
          have Ar := fun W H => areRates_any (.slice ar rs.length cr) rs W H (by omega)
          rcases hw : rwB rs with _ | _
          · have R : Hid (chk s f rs sel = 90) := chk_90 hn h2 (by rw [hw]; rfl)
            rw [hw] at Ar
            clear hM h2 hb'
            go_enter Tryz.func79, Tryz.ntmps79
            go_wp2_with (first
              | (go_at_call 111; refine (Nm _).mono ?_; rintro e w' ⟨rfl, m, rfl⟩)
              | (go_at_call 112; (with_reducible refine (A2 _).mono ?_); rintro e w' ⟨rfl, rfl⟩)
              | (go_at_call 112; (with_reducible refine (A1 _).mono ?_); rintro e w' ⟨rfl, rfl⟩)
              | (go_at_call 80; refine (La _).mono ?_; rintro e w1 ⟨rfl, B1⟩; go_must ((have B2 := bel' (below_drewN ((Below.refl w.heap.size w).alloc (Nat.le_refl _) (.cells #[.string s, .int .i64 f, .slice ar rs.length cr, vs] 46)) m) B1); (have K0 : Blk ((w.alloc (.cells #[.string s, .int .i64 f, .slice ar rs.length cr, vs] 46)).drewN m) w.heap.size #[.string s, .int .i64 f, .slice ar rs.length cr, vs] 46 := Blk.new w _ _); (have K1 := K0.below B1 K0.lt); (have k2 := K1.at 2); (simp at k2)))
              | (go_at_call 113; refine (Ar _ (hr.grow B2)).mono ?_; rintro e w' ⟨rfl, rfl⟩))
            go_ret
            exact ⟨by rw [R.out]; rfl, B2⟩
          · have Se := fun W H1 H2 => isSelect_any s f (.slice ar rs.length cr) vs rs sel W H1 H2
            have R : Hid (chk s f rs sel = if selB rs sel then 0 else 90) := by
              show _ = _
              rcases h : selB rs sel with _ | _
              · rw [chk_90 hn h2 (by rw [hw, h]; rfl)]; rfl
              · rw [chk_0 hn h2 (by rw [hw, h]; rfl)]; rfl
            rw [hw] at Ar
            clear hM h2 hb'
            generalize selB rs sel = q at *
            go_enter Tryz.func79, Tryz.ntmps79
            cases q
            all_goals
              go_wp2_with (first
                | (go_at_call 111; refine (Nm _).mono ?_; rintro e w' ⟨rfl, m, rfl⟩)
                | (go_at_call 112; (with_reducible refine (A2 _).mono ?_); rintro e w' ⟨rfl, rfl⟩)
                | (go_at_call 112; (with_reducible refine (A1 _).mono ?_); rintro e w' ⟨rfl, rfl⟩)
                | (go_at_call 80; refine (La _).mono ?_; rintro e w1 ⟨rfl, B1⟩; go_must ((have B2 := bel' (below_drewN ((Below.refl w.heap.size w).alloc (Nat.le_refl _) (.cells #[.string s, .int .i64 f, .slice ar rs.length cr, vs] 46)) m) B1); (have K0 : Blk ((w.alloc (.cells #[.string s, .int .i64 f, .slice ar rs.length cr, vs] 46)).drewN m) w.heap.size #[.string s, .int .i64 f, .slice ar rs.length cr, vs] 46 := Blk.new w _ _); (have K1 := K0.below B1 K0.lt); (have k0 := K1.at 0); (have k1 := K1.at 1); (have k2 := K1.at 2); (have k3 := K1.at 3); (simp at k0 k1 k2 k3)))
                | (go_at_call 113; refine (Ar _ (hr.grow B2)).mono ?_; rintro e w' ⟨rfl, rfl⟩)
                | (go_at_call 114; refine (Se _ (hr.grow B2) (hsel.grow B2)).mono ?_; rintro e w2 ⟨rfl, B3⟩))
              go_ret
              exact ⟨by rw [R.out]; rfl, bel' B2 B3⟩
end Go.Proofs.YtfalncbcomlelaaGreatDoor.Ta

namespace Go.Proofs.YtfalncbcomlelaaGreatDoor.Ta
open Go.RowKit

/-- The rate in n years of a life taken on en years old, ys years ago. -/
def rt (f : Int) (rs : List Int) (sel : List (List Int)) (en ys : Int) (n : Nat) : Int := if ys + n < (sel.length : Int) then L.nth (sel.getD (ys + n).toNat []) (en - f).toNat else L.nth rs (en + (ys + n) - f).toNat
/-- Is a life of a right table? -/
def okL (f : Int) (rs : List Int) (en ys : Int) : Bool := decide (0 ≤ ys ∧ f ≤ en ∧ en ≤ f + rs.length - 1 ∧ ys ≤ f + rs.length - 1 - en)
theorem rw_bd {xs : List Int} (h : rwB xs = true) {i : Nat} (hi : i < xs.length) : 0 ≤ L.nth xs i ∧ L.nth xs i ≤ 10000000 ∧ (L.nth xs i = 10000000 ↔ i + 1 = xs.length) := by
  unfold rwB at h
  exact (of_decide_eq_true h).2 i hi
theorem sel_bd {rs : List Int} {sel : List (List Int)} (h : selB rs sel = true) : sel.length ≤ 10 ∧ sel.length ≤ rs.length ∧ ∀ d, d < sel.length → (sel.getD d []).length + d = rs.length ∧ rwB (sel.getD d []) = true := by
  unfold selB at h
  exact of_decide_eq_true h
theorem rt_bd {f : Int} {rs : List Int} {sel : List (List Int)} {en ys : Int} (hr : rwB rs = true) (hs : selB rs sel = true) (ho : okL f rs en ys = true) {n : Nat} (hn : (n : Int) < f + rs.length - en - ys) :
    0 ≤ rt f rs sel en ys n ∧ rt f rs sel en ys n ≤ 10000000 ∧ (rt f rs sel en ys n = 10000000 ↔ (n : Int) + 1 = f + rs.length - en - ys) := by
  obtain ⟨o1, o2, o3, o4⟩ := of_decide_eq_true ho
  obtain ⟨s1, s2, s3⟩ := sel_bd hs
  unfold rt
  by_cases c : ys + n < (sel.length : Int)
  · rw [if_pos c]
    obtain ⟨e, hw⟩ := s3 (ys + n).toNat (by omega)
    obtain ⟨a, b, d⟩ := rw_bd hw (i := (en - f).toNat) (by omega)
    exact ⟨a, b, d.trans (by constructor <;> intro h <;> omega)⟩
  · rw [if_neg c]
    obtain ⟨a, b, d⟩ := rw_bd hr (i := (en + (ys + n) - f).toNat) (by omega)
    exact ⟨a, b, d.trans (by constructor <;> intro h <;> omega)⟩
end Go.Proofs.YtfalncbcomlelaaGreatDoor.Ta
