import Derived.WalkKit
import Derived.WalkSpells
import Derived.WalkSmall
import Derived.Deep.QuietTactic
import Derived.BigQuiet
import Derived.Test.YtebilgnmnambnaaGreatDoorProg

namespace Tn
def val : List Int → Int
  | [] => 0
  | x :: xs => x + 18446744073709551616 * val xs
def pw : Nat → Int
  | 0 => 1
  | n + 1 => 18446744073709551616 * pw n
def Wd (xs : List Int) : Prop := ∀ x, x ∈ xs → 0 ≤ x ∧ x < 18446744073709551616
theorem pw_pos (n : Nat) : 0 < pw n := by
  induction n with
  | zero => simp [pw]
  | succ n ih => simp only [pw]; omega
theorem pw_add (m n : Nat) : pw (m + n) = pw m * pw n := by
  induction m with
  | zero => simp [pw]
  | succ m ih => rw [Nat.succ_add]; simp only [pw, ih]; grind
theorem pw_mono {m n : Nat} (h : m ≤ n) : pw m ≤ pw n := by
  obtain ⟨k, rfl⟩ := Nat.exists_eq_add_of_le h
  rw [pw_add]
  have h1 := pw_pos m
  have h2 : 1 ≤ pw k := pw_pos k
  have := Int.mul_le_mul_of_nonneg_left h2 (Int.le_of_lt h1)
  omega
theorem Wd.nil : Wd [] := by intro x h; simp at h
theorem Wd.cons {x : Int} {xs : List Int} (h0 : 0 ≤ x) (h1 : x < 18446744073709551616) (h : Wd xs) : Wd (x :: xs) := by
  intro y hy
  rcases List.mem_cons.1 hy with rfl | hy
  · exact ⟨h0, h1⟩
  · exact h y hy
theorem Wd.head {x : Int} {xs : List Int} (h : Wd (x :: xs)) : 0 ≤ x ∧ x < 18446744073709551616 := h x (by simp)
theorem Wd.tail {x : Int} {xs : List Int} (h : Wd (x :: xs)) : Wd xs := fun y hy => h y (by simp [hy])
theorem Wd.append {xs ys : List Int} (h : Wd xs) (k : Wd ys) : Wd (xs ++ ys) := by
  intro y hy
  rcases List.mem_append.1 hy with hy | hy
  · exact h y hy
  · exact k y hy
theorem Wd.take {xs : List Int} (h : Wd xs) (n : Nat) : Wd (xs.take n) := fun y hy => h y (List.mem_of_mem_take hy)
theorem Wd.drop {xs : List Int} (h : Wd xs) (n : Nat) : Wd (xs.drop n) := fun y hy => h y (List.mem_of_mem_drop hy)
theorem Wd.set {xs : List Int} (h : Wd xs) (n : Nat) {v : Int} (h0 : 0 ≤ v) (h1 : v < 18446744073709551616) : Wd (xs.set n v) := by
  intro y hy
  rcases List.mem_or_eq_of_mem_set hy with hy | rfl
  · exact h y hy
  · exact ⟨h0, h1⟩
theorem Wd.zeros (n : Nat) : Wd (List.replicate n 0) := by
  intro y hy; have := List.eq_of_mem_replicate hy; omega
theorem Wd.get {xs : List Int} (h : Wd xs) (i : Nat) : 0 ≤ xs.getD i 0 ∧ xs.getD i 0 < 18446744073709551616 := by
  by_cases hi : i < xs.length
  · simp only [List.getD_eq_getElem?_getD, List.getElem?_eq_getElem hi, Option.getD_some]; exact h _ (List.getElem_mem hi)
  · simp [List.getD_eq_getElem?_getD, List.getElem?_eq_none (Nat.le_of_not_lt hi)]
theorem val_append (xs ys : List Int) : val (xs ++ ys) = val xs + pw xs.length * val ys := by
  induction xs with
  | nil => simp [val, pw]
  | cons x xs ih => simp only [List.cons_append, val, ih, List.length_cons, pw]; grind
theorem val_nonneg {xs : List Int} (h : Wd xs) : 0 ≤ val xs := by
  induction xs with
  | nil => simp [val]
  | cons x xs ih => have := ih h.tail; have := h.head; simp only [val]; omega
theorem val_lt {xs : List Int} (h : Wd xs) : val xs < pw xs.length := by
  induction xs with
  | nil => simp [val, pw]
  | cons x xs ih => have := ih h.tail; have := h.head; simp only [val, List.length_cons, pw]; omega
theorem val_zeros (n : Nat) : val (List.replicate n 0) = 0 := by
  induction n with
  | zero => rfl
  | succ n ih => simp [List.replicate_succ, val, ih]
theorem val_split (xs : List Int) (n : Nat) (h : n ≤ xs.length) : val xs = val (xs.take n) + pw n * val (xs.drop n) := by
  conv => lhs; rw [← List.take_append_drop n xs]
  rw [val_append, List.length_take, Nat.min_eq_left h]
theorem take_succ_getD (xs : List Int) (k : Nat) (h : k < xs.length) : xs.take (k + 1) = xs.take k ++ [xs.getD k 0] := by
  rw [List.take_succ_eq_append_getElem h]; simp [List.getD_eq_getElem?_getD, List.getElem?_eq_getElem h]
theorem drop_getD (xs : List Int) (k : Nat) (h : k < xs.length) : xs.drop k = xs.getD k 0 :: xs.drop (k + 1) := by
  rw [List.drop_eq_getElem_cons h]; simp [List.getD_eq_getElem?_getD, List.getElem?_eq_getElem h]
theorem val_take_succ (xs : List Int) (k : Nat) (h : k < xs.length) : val (xs.take (k + 1)) = val (xs.take k) + pw k * xs.getD k 0 := by
  rw [take_succ_getD xs k h, val_append, List.length_take, Nat.min_eq_left (Nat.le_of_lt h)]; simp [val]
theorem take_set_succ (xs : List Int) (k : Nat) (v : Int) (h : k < xs.length) : (xs.set k v).take (k + 1) = xs.take k ++ [v] := by
  rw [take_succ_getD _ k (by simpa using h)]
  congr 1
  · rw [List.take_set]; exact List.set_eq_of_length_le (by simp; omega)
  · simp [List.getD_eq_getElem?_getD, h]
theorem drop_set_succ (xs : List Int) (k : Nat) (v : Int) : (xs.set k v).drop (k + 1) = xs.drop (k + 1) := by
  rw [List.drop_set_of_lt (by omega)]
def Nm (xs : List Int) : Prop := xs = [] ∨ xs.getD (xs.length - 1) 0 ≠ 0
theorem Nm.nil : Nm [] := Or.inl rfl
theorem val_low {xs : List Int} (h : Wd xs) (n : Nm xs) (ne : xs ≠ []) : pw (xs.length - 1) ≤ val xs := by
  have hl : 0 < xs.length := by cases xs with | nil => exact absurd rfl ne | cons => simp
  have e := val_split xs (xs.length - 1) (by omega)
  rw [drop_getD xs _ (by omega), Nat.sub_add_cancel hl, List.drop_length] at e
  rcases n with n | n
  · exact absurd n ne
  · have h1 := (h.get (xs.length - 1)).1
    have h2 := val_nonneg (h.take (xs.length - 1))
    have h3 := Int.mul_le_mul_of_nonneg_left (show 1 ≤ xs.getD (xs.length - 1) 0 by omega) (Int.le_of_lt (pw_pos (xs.length - 1)))
    simp only [val, Int.mul_zero, Int.add_zero] at e
    omega
theorem val_lt_of_length {xs ys : List Int} (h : Wd xs) (k : Wd ys) (n : Nm ys) (hl : xs.length < ys.length) : val xs < val ys := by
  have h1 := val_lt h
  have h2 := val_low k n (by intro e; simp [e] at hl)
  have h3 := pw_mono (show xs.length ≤ ys.length - 1 by omega)
  omega
theorem val_eq_zero {xs : List Int} (h : Wd xs) (n : Nm xs) : val xs = 0 ↔ xs = [] := by
  constructor
  · intro e
    by_cases ne : xs = []
    · exact ne
    · have := val_low h n ne; have := pw_pos (xs.length - 1); omega
  · rintro rfl; rfl
end Tn

namespace Go.Proofs.YtebilgnmnambnaaGreatDoor
open Go.RowKit Tn
def nth (xs : List Int) (i : Nat) : Int := xs.getD i 0
theorem nth_bd {xs : List Int} (h : Wd xs) (i : Nat) : 0 ≤ nth xs i ∧ nth xs i < 18446744073709551616 := h.get i
theorem nth_set_same (xs : List Int) (k : Nat) (v : Int) (h : k < xs.length) : nth (xs.set k v) k = v := by simp [nth, List.getD_eq_getElem?_getD, h]
theorem nth_set_other (xs : List Int) (k j : Nat) (v : Int) (h : k ≠ j) : nth (xs.set k v) j = nth xs j := by simp [nth, List.getD_eq_getElem?_getD, h]
theorem nth_drop (xs : List Int) (k j : Nat) : nth (xs.drop k) j = nth xs (k + j) := by simp [nth, List.getD_eq_getElem?_getD]
theorem nth_take (xs : List Int) (k j : Nat) (h : j < k) : nth (xs.take k) j = nth xs j := by simp [nth, List.getD_eq_getElem?_getD, h]
structure Part (X S : List Int) (k : Nat) : Prop where
  len : X.length = S.length
  wd : Wd X
  drop : X.drop k = S.drop k
theorem Part.refl {S : List Int} (h : Wd S) (k : Nat) : Part S S k := ⟨rfl, h, rfl⟩
theorem Part.nth {X S : List Int} {k : Nat} (h : Part X S k) : nth X k = nth S k := by
  have e := congrArg (fun l => Go.Proofs.YtebilgnmnambnaaGreatDoor.nth l 0) h.drop
  simpa [nth_drop] using e
theorem Part.step {X S : List Int} {k : Nat} (h : Part X S k) {v : Int} (h0 : 0 ≤ v) (h1 : v < 18446744073709551616) : Part (X.set k v) S (k + 1) := by
  refine ⟨by rw [List.length_set, h.len], h.wd.set k h0 h1, ?_⟩
  rw [drop_set_succ]
  have e := congrArg (List.drop 1) h.drop
  simpa [List.drop_drop, Nat.add_comm] using e
theorem Part.val {X S : List Int} {k : Nat} (h : Part X S k) (hk : k < S.length) (v : Int) : val ((X.set k v).take (k + 1)) = val (X.take k) + pw k * v := by
  have hl := h.len
  rw [take_set_succ X k v (by omega), val_append, List.length_take, Nat.min_eq_left (by omega)]; simp [Tn.val]
theorem Part.whole {X S : List Int} {k : Nat} (h : Part X S k) (hk : k ≤ S.length) : Tn.val X - Tn.val (X.take k) = Tn.val S - Tn.val (S.take k) := by
  have hl := h.len
  have e1 := val_split X k (by omega); have e2 := val_split S k hk; rw [h.drop] at e1; omega
theorem val_at (xs : List Int) (k : Nat) (h : k < xs.length) : val (xs.take (k + 1)) = val (xs.take k) + pw k * nth xs k := val_take_succ xs k h
def Cells (w : World) (b o : Nat) (xs : List Int) : Prop := ∀ i, i < xs.length → w.cell? ⟨b, o + i, none⟩ = some (.int .u64 (nth xs i))
def Free (w : World) (b o n : Nat) : Prop := ∀ i, i < n → w.frozen? ⟨b, o + i, none⟩ = false
structure Wr (b o n : Nat) (w w' : World) : Prop where
  os : w'.os = w.os
  tape : w'.tape = w.tape
  output : w'.output = w.output
  size : w.heap.size ≤ w'.heap.size
  block : ∀ k, k < w.heap.size → k ≠ b → w'.heap[k]? = w.heap[k]?
  cell : ∀ i, (i < o ∨ o + n ≤ i) → w'.cell? ⟨b, i, none⟩ = w.cell? ⟨b, i, none⟩
  froz : ∀ i, w'.frozen? ⟨b, i, none⟩ = w.frozen? ⟨b, i, none⟩
  own : ∀ c t f, w.heap[b]? = some (.cells c t f) → ∃ c', w'.heap[b]? = some (.cells c' t f) ∧ c'.size = c.size
theorem Wr.refl (b o n : Nat) (w : World) : Wr b o n w w := ⟨rfl, rfl, rfl, Nat.le_refl _, fun _ _ _ => rfl, fun _ _ => rfl, fun _ => rfl, fun c _ _ h => ⟨c, h, rfl⟩⟩
theorem Wr.trans {b o n : Nat} {x y z : World} (h : Wr b o n x y) (k : Wr b o n y z) : Wr b o n x z :=
  ⟨k.os.trans h.os, k.tape.trans h.tape, k.output.trans h.output, Nat.le_trans h.size k.size, fun i hi hb => (k.block i (Nat.lt_of_lt_of_le hi h.size) hb).trans (h.block i hi hb),
    fun i hi => (k.cell i hi).trans (h.cell i hi), fun i => (k.froz i).trans (h.froz i), fun c t f e => by obtain ⟨c1, e1, s1⟩ := h.own c t f e; obtain ⟨c2, e2, s2⟩ := k.own c1 t f e1; exact ⟨c2, e2, s2.trans s1⟩⟩
theorem Wr.drewN {b o n : Nat} {x y : World} (h : Wr b o n x y) (m : Nat) : Wr b o n x (y.drewN m) := ⟨h.os, h.tape, h.output, h.size, h.block, h.cell, h.froz, h.own⟩
theorem Wr.mono {b o n o' n' : Nat} {x y : World} (h : Wr b o n x y) (h1 : o' ≤ o) (h2 : o + n ≤ o' + n') : Wr b o' n' x y := ⟨h.os, h.tape, h.output, h.size, h.block, fun i hi => h.cell i (by omega), h.froz, h.own⟩
theorem Wr.setCell {b o n : Nat} {x y : World} (h : Wr b o n x y) (i : Nat) (hi : o ≤ i ∧ i < o + n) (v : Value) : Wr b o n x (y.setCell ⟨b, i, none⟩ v) :=
  h.trans ⟨rfl, rfl, rfl, by simp [World.setCell], fun k _ hb => Below.heap_setCell _ _ _ _ hb, fun j hj => World.cell?_setCell_other _ _ _ _ (by simp), fun j => World.frozen?_setCell _ _ _ _, fun c t f e => ⟨c.setIfInBounds i v, by simp [World.setCell, Array.getElem?_modify, e], by simp⟩⟩
theorem Wr.below {b o n : Nat} {x y : World} (h : Wr b o n x y) {B : Nat} (hB : B ≤ b) (hB' : B ≤ x.heap.size) : Below B x y :=
  ⟨h.os, h.tape, h.output, h.size, fun k hk => h.block k (by omega) (by omega)⟩
theorem lt_of_cell {w : World} {b i : Nat} {v : Value} (h : w.cell? ⟨b, i, none⟩ = some v) : b < w.heap.size := by
  by_cases hb : b < w.heap.size
  · exact hb
  · simp [World.cell?, Array.getElem?_eq_none (Nat.le_of_not_lt hb)] at h
theorem Cells.lt {w : World} {b o : Nat} {xs : List Int} (h : Cells w b o xs) (ne : 0 < xs.length) : b < w.heap.size := lt_of_cell (h 0 ne)
theorem Cells.at {w : World} {b o : Nat} {xs : List Int} (h : Cells w b o xs) {i : Nat} (hi : i < xs.length) : w.cell? ⟨b, o + i, none⟩ = some (.int .u64 (nth xs i)) := h i hi
theorem Cells.grow {w w' : World} {b o : Nat} {xs : List Int} (h : Cells w b o xs) (k : Below w.heap.size w w') : Cells w' b o xs := fun i hi => (k.cell (p := ⟨b, o + i, none⟩) (lt_of_cell (h i hi))).trans (h i hi)
theorem Cells.other {w w' : World} {b o b' o' n' : Nat} {xs : List Int} (h : Cells w b o xs) (k : Wr b' o' n' w w') (hb : b ≠ b') : Cells w' b o xs := fun i hi =>
  (World.cell?_of_block (a := ⟨b, o + i, none⟩) (k.block b (lt_of_cell (h i hi)) hb)).trans (h i hi)
theorem Cells.apart {w w' : World} {b o o' n' : Nat} {xs : List Int} (h : Cells w b o xs) (k : Wr b o' n' w w') (hb : o + xs.length ≤ o' ∨ o' + n' ≤ o) : Cells w' b o xs := fun i hi =>
  (k.cell (o + i) (by omega)).trans (h i hi)
theorem Cells.set {w : World} {b o : Nat} {xs : List Int} (h : Cells w b o xs) (k : Nat) (hk : k < xs.length) (v : Int) : Cells (w.setCell ⟨b, o + k, none⟩ (.int .u64 v)) b o (xs.set k v) := by
  intro i hi
  rw [List.length_set] at hi
  by_cases e : k = i
  · subst e; rw [nth_set_same _ _ _ hk]; exact World.cell?_setCell_same _ _ _ (h k hk)
  · rw [nth_set_other _ _ _ _ e, World.cell?_setCell_other _ _ _ _ (by simp)]; exact h i hi
theorem Cells.drop {w : World} {b o : Nat} {xs : List Int} (h : Cells w b o xs) (k : Nat) : Cells w b (o + k) (xs.drop k) := by
  intro i hi
  rw [List.length_drop] at hi
  rw [nth_drop, Nat.add_assoc]; exact h (k + i) (by omega)
theorem Cells.take {w : World} {b o : Nat} {xs : List Int} (h : Cells w b o xs) (k : Nat) : Cells w b o (xs.take k) := by
  intro i hi
  rw [List.length_take] at hi
  rw [nth_take _ _ _ (by omega)]; exact h i (by omega)
theorem Cells.append {w : World} {b o : Nat} {xs ys : List Int} (h : Cells w b o xs) (k : Cells w b (o + xs.length) ys) : Cells w b o (xs ++ ys) := by
  intro i hi
  rw [List.length_append] at hi
  by_cases e : i < xs.length
  · have : nth (xs ++ ys) i = nth xs i := by simp [nth, List.getD_eq_getElem?_getD, List.getElem?_append_left e]
    rw [this]; exact h i e
  · have : nth (xs ++ ys) i = nth ys (i - xs.length) := by simp [nth, List.getD_eq_getElem?_getD, List.getElem?_append_right (Nat.le_of_not_lt e)]
    rw [this]; have := k (i - xs.length) (by omega); rwa [Nat.add_assoc, Nat.add_sub_cancel' (Nat.le_of_not_lt e)] at this
theorem Free.wr {w w' : World} {b o n b' o' n' : Nat} (h : Free w b o n) (k : Wr b' o' n' w w') (hb : b < w.heap.size) : Free w' b o n := fun i hi => by
  by_cases e : b = b'
  · subst e; exact (k.froz (o + i)).trans (h i hi)
  · exact (World.frozen?_of_block (a := ⟨b, o + i, none⟩) (k.block b hb e)).trans (h i hi)
structure Bx (w : World) (n : Nat) (v : Value) : Prop where
  cell : w.cell? ⟨n, 0, none⟩ = some v
  free : w.frozen? ⟨n, 0, none⟩ = false
  blk : ∃ t, w.heap[n]? = some (.cells #[v] t (0, 0))
theorem Bx.lt {w : World} {n : Nat} {v : Value} (h : Bx w n v) : n < w.heap.size := lt_of_cell h.1
theorem Bx.below {W w1 : World} {n : Nat} {v : Value} (h : Bx W n v) (k : Below W.heap.size W w1) : Bx w1 n v := ⟨(k.cell (p := ⟨n, 0, none⟩) h.lt).trans h.1, (k.frozen (p := ⟨n, 0, none⟩) h.lt).trans h.2, by obtain ⟨t, e⟩ := h.3; exact ⟨t, (k.block n h.lt).trans e⟩⟩
theorem Bx.wr {W w1 : World} {n g o m : Nat} {v : Value} (h : Bx W n v) (k : Wr g o m W w1) (hn : n ≠ g) : Bx w1 n v :=
  ⟨(World.cell?_of_block (a := ⟨n, 0, none⟩) (k.block n h.lt hn)).trans h.1, (World.frozen?_of_block (a := ⟨n, 0, none⟩) (k.block n h.lt hn)).trans h.2, by obtain ⟨t, e⟩ := h.3; exact ⟨t, (k.block n h.lt hn).trans e⟩⟩
theorem Bx.new (w : World) (v : Value) (t : TypeId) : Bx (w.alloc (.cells #[v] t)) w.heap.size v := ⟨by simp, by simp, t, heap_alloc_new _ _⟩
theorem Bx.alloc {w : World} {n : Nat} {v : Value} (h : Bx w n v) (o : Obj) : Bx (w.alloc o) n v := h.below ((Below.refl _ _).alloc (Nat.le_refl _) o)
theorem below_put {B n : Nat} {w w' : World} (h : Below B w w') (hn : B ≤ n) (v : Value) : Below B w (w'.setCell ⟨n, 0, none⟩ v) := h.setCell (p := ⟨n, 0, none⟩) hn v
theorem below_alloc1 {w w1 : World} {o0 : Obj} (k : Below (w.heap.size + 1) (w.alloc o0) w1) : Below w.heap.size w w1 := by
  refine Below.trans ?_ (k.mono (by omega))
  repeat (first | exact Below.refl _ _ | (refine Below.alloc ?_ (by first | exact Nat.le_refl _ | (simp only [World.size_alloc]; omega)) _))
theorem below_alloc2 {w w1 : World} {o0 o1 : Obj} (k : Below (w.heap.size + 1 + 1) ((w.alloc o0).alloc o1) w1) : Below w.heap.size w w1 := by
  refine Below.trans ?_ (k.mono (by omega))
  repeat (first | exact Below.refl _ _ | (refine Below.alloc ?_ (by first | exact Nat.le_refl _ | (simp only [World.size_alloc]; omega)) _))
theorem below_alloc3 {w w1 : World} {o0 o1 o2 : Obj} (k : Below (w.heap.size + 1 + 1 + 1) (((w.alloc o0).alloc o1).alloc o2) w1) : Below w.heap.size w w1 := by
  refine Below.trans ?_ (k.mono (by omega))
  repeat (first | exact Below.refl _ _ | (refine Below.alloc ?_ (by first | exact Nat.le_refl _ | (simp only [World.size_alloc]; omega)) _))
theorem below_alloc4 {w w1 : World} {o0 o1 o2 o3 : Obj} (k : Below (w.heap.size + 1 + 1 + 1 + 1) ((((w.alloc o0).alloc o1).alloc o2).alloc o3) w1) : Below w.heap.size w w1 := by
  refine Below.trans ?_ (k.mono (by omega))
  repeat (first | exact Below.refl _ _ | (refine Below.alloc ?_ (by first | exact Nat.le_refl _ | (simp only [World.size_alloc]; omega)) _))
def Own (w : World) (b : Nat) : Prop := ∃ c t, w.heap[b]? = some (.cells c t (0, 0))
theorem Own.free {w : World} {b : Nat} (h : Own w b) (o n : Nat) : Free w b o n := by
  obtain ⟨c, t, e⟩ := h
  intro i _
  simp [World.frozen?, e]
theorem Own.lt {w : World} {b : Nat} (h : Own w b) : b < w.heap.size := by
  obtain ⟨c, t, e⟩ := h
  by_cases hb : b < w.heap.size
  · exact hb
  · rw [Array.getElem?_eq_none (Nat.le_of_not_lt hb)] at e; simp at e
theorem Own.wr {w w' : World} {b b' o n : Nat} (h : Own w b) (k : Wr b' o n w w') : Own w' b := by
  have hb := h.lt
  obtain ⟨c, t, e⟩ := h
  by_cases e' : b = b'
  · subst e'; obtain ⟨c', e1, _⟩ := k.own c t _ e; exact ⟨c', t, e1⟩
  · exact ⟨c, t, (k.block b hb e').trans e⟩
theorem Own.grow {w w' : World} {b : Nat} (h : Own w b) (k : Below w.heap.size w w') : Own w' b := by
  have hb := h.lt
  obtain ⟨c, t, e⟩ := h
  exact ⟨c, t, (k.block b hb).trans e⟩
def Rd (w : World) (v : Value) (xs : List Int) : Prop :=
  Wd xs ∧ ∃ a cap, v = .slice a xs.length cap ∧ xs.length ≤ cap ∧ cap ≤ maxLen ∧ (0 < xs.length → ∃ b o, a = some ⟨b, o, none⟩ ∧ Cells w b o xs)
theorem Rd.grow {w w' : World} {v : Value} {xs : List Int} (h : Rd w v xs) (k : Below w.heap.size w w') : Rd w' v xs := by
  obtain ⟨h1, a, cap, h2, h3, h4, h5⟩ := h
  exact ⟨h1, a, cap, h2, h3, h4, fun l => by obtain ⟨b, o, e, c⟩ := h5 l; exact ⟨b, o, e, c.grow k⟩⟩
theorem Rd.nil (w : World) : Rd w (.slice none 0 0) [] := ⟨Wd.nil, none, 0, rfl, Nat.le_refl _, by decide, fun h => by simp at h⟩
theorem Rd.put {w : World} {n : Nat} {v u : Value} {xs : List Int} (h : Rd w v xs) (hn : ∀ b o l c, v = .slice (some ⟨b, o, none⟩) l c → b ≠ n) : Rd (w.setCell ⟨n, 0, none⟩ u) v xs := by
  obtain ⟨h1, a, cap, h2, h3, h4, h5⟩ := h
  refine ⟨h1, a, cap, h2, h3, h4, fun l => ?_⟩
  obtain ⟨b, o, e, c⟩ := h5 l
  refine ⟨b, o, e, fun i hi => ?_⟩
  rw [World.cell?_setCell_other _ _ _ _ (by have := hn b o _ _ (by rw [h2, e]); simp; try omega)]
  exact c i hi
theorem Rd.box {w : World} {n : Nat} {v u : Value} {xs : List Int} {a : Option Addr} {l c : Nat} (h : Rd w v xs) (hb : Bx w n (.slice a l c)) : Rd (w.setCell ⟨n, 0, none⟩ u) v xs := by
  obtain ⟨h1, a, cap, h2, h3, h4, h5⟩ := h
  refine ⟨h1, a, cap, h2, h3, h4, fun l => ?_⟩
  obtain ⟨b, o, e, hc⟩ := h5 l
  refine ⟨b, o, e, fun i hi => ?_⟩
  have hne : b ≠ n := by
    rintro rfl
    obtain ⟨t, hb⟩ := hb.3
    have := hc 0 (by omega)
    simp only [World.cell?, hb] at this
    by_cases h0 : o = 0
    · subst h0; simp at this
    · simp [h0] at this
  rw [World.cell?_setCell_other _ _ _ _ (by simp; try omega)]
  exact hc i hi
theorem Cells.drew {w : World} {b o : Nat} {xs : List Int} (h : Cells w b o xs) : Cells w.drew b o xs := h
theorem Free.drew {w : World} {b o n : Nat} (h : Free w b o n) : Free w.drew b o n := h
theorem Own.drew {w : World} {b : Nat} (h : Own w b) : Own w.drew b := h
theorem Bx.drew {w : World} {n : Nat} {v : Value} (h : Bx w n v) : Bx w.drew n v := ⟨h.1, h.2, h.3⟩
theorem Wr.undrew {b o n : Nat} {x y : World} (h : Wr b o n x.drew y) : Wr b o n x y := ⟨h.os, h.tape, h.output, h.size, h.block, h.cell, h.froz, h.own⟩
theorem below_undrew {B : Nat} {x y : World} (h : Below B x.drew y) : Below B x y := ⟨h.os, h.tape, h.output, h.size, h.block⟩
theorem Rd.drew {w : World} {v : Value} {xs : List Int} (h : Rd w v xs) : Rd w.drew v xs := h.grow ((Below.refl _ _).drew)
end Go.Proofs.YtebilgnmnambnaaGreatDoor

namespace Go.Proofs.YtebilgnmnambnaaGreatDoor
open Go.RowKit Tn
theorem order_any (t : Bool) (w : World) : Calls Tryz.prog 146 #[.bool t] w fun e w' => e = .returned (.int .i64 (if t then -1 else 1)) ∧ w' = w := by
  cases t
  · go_enter Tryz.func146, Tryz.ntmps146
    go_wp2
    go_ret
    exact ⟨rfl, rfl⟩
  · go_enter Tryz.func146, Tryz.ntmps146
    go_wp2
    go_ret
    exact ⟨rfl, rfl⟩
theorem take_less (xs : List Int) (k : Nat) (h0 : 0 < k) (hk : k ≤ xs.length) (h : nth xs (k - 1) = 0) : val (xs.take k) = val (xs.take (k - 1)) := by
  have := val_take_succ xs (k - 1) (by omega)
  rw [Nat.sub_add_cancel h0] at this
  unfold nth at h
  rw [this, h]; simp
theorem nm_take (xs : List Int) (k : Nat) (h0 : 0 < k) (hk : k ≤ xs.length) (h : ¬ nth xs (k - 1) = 0) : Nm (xs.take k) := by
  refine Or.inr ?_
  rw [List.length_take, Nat.min_eq_left hk]
  have := nth_take xs k (k - 1) (by omega)
  unfold nth at h this
  rw [this]; exact h
set_option maxHeartbeats 400000 in
theorem trim_any (a : Option Addr) (xs : List Int) (cap : Nat) (w : World) (hl : xs.length ≤ cap) (hcap : cap ≤ 9223372036854775807) (ha : 0 < xs.length → ∃ b o, a = some ⟨b, o, none⟩ ∧ Cells w b o xs) :
    Calls Tryz.prog 123 #[.slice a xs.length cap] w fun e w' => ∃ n, n ≤ xs.length ∧ e = .returned (.agg #[.slice a n cap]) ∧ Nm (xs.take n) ∧ val (xs.take n) = val xs ∧ Below w.heap.size w w' := by
  go_enter Tryz.func123, Tryz.ntmps123
  go_wp2
  go_loop [3] (fun t => ∃ k : Nat, k ≤ xs.length ∧ t = .int .i64 k ∧ val (xs.take k) = val xs) (fun t => (intOf t).toNat)
  case atStart => exact ⟨xs.length, Nat.le_refl _, rfl, by rw [List.take_length]⟩
  case round =>
    obtain ⟨k, hk, rfl, hv⟩ := hrel
    have HV : Hid (val (xs.take k) = val xs) := hv
    clear hv
    by_cases h0 : k = 0
    · subst h0
      go_wp2
      refine bodyPost_ret (v := .agg #[.slice a 0 cap]) (by simp [results, Tryz.results123, go_sem]) rfl ⟨0, by omega, rfl, by simp [Nm], HV.out, ?_⟩
      exact (Below.refl _ _).alloc (Nat.le_refl _) _
    · obtain ⟨b, o, rfl, hc⟩ := ha (by omega)
      have hb := hc.lt (by omega)
      have hc1 := hc.at (i := k - 1) (by omega)
      by_cases hz : nth xs (k - 1) = 0
      · rw [hz] at hc1
        have HZ : Hid (nth xs (k - 1) = 0) := hz
        clear hz
        go_wp2
        go_round
        case rel => exact ⟨k - 1, by omega, by go_num, by rw [← HV.out]; exact (take_less xs k (by omega) (by omega) HZ.out).symm⟩
        case measure => simp [intOf]; omega
      · go_wp2
        refine bodyPost_ret (v := .agg #[.slice (some ⟨b, o, none⟩) k cap]) (by simp [results, Tryz.results123, go_sem]) rfl ⟨k, by omega, rfl, nm_take xs k (by omega) (by omega) hz, HV.out, ?_⟩
        exact (Below.refl _ _).alloc (Nat.le_refl _) _
theorem trim_rd (a : Option Addr) (m cap : Nat) (xs : List Int) (w : World) (em : m = xs.length) (hw : Wd xs) (hl : xs.length ≤ cap) (hcap : cap ≤ 9223372036854775807) (ha : 0 < xs.length → ∃ b o, a = some ⟨b, o, none⟩ ∧ Cells w b o xs) :
    Calls Tryz.prog 123 #[.slice a m cap] w fun e w' => ∃ n zs, e = .returned (.agg #[.slice a n cap]) ∧ zs = xs.take n ∧ Rd w' (.slice a n cap) zs ∧ Nm zs ∧ val zs = val xs ∧ Below w.heap.size w w' := by
  subst em
  refine (trim_any a xs cap w hl hcap ha).mono ?_
  rintro e w' ⟨n, hn, rfl, hnm, hv, hb⟩
  refine ⟨n, xs.take n, rfl, rfl, ⟨hw.take n, a, cap, ?_, ?_, hcap, ?_⟩, hnm, hv, hb⟩
  · rw [List.length_take, Nat.min_eq_left hn]
  · rw [List.length_take]; omega
  · intro l
    rw [List.length_take] at l
    obtain ⟨b, o, e, c⟩ := ha (by omega)
    exact ⟨b, o, e, (c.take n).grow hb⟩
end Go.Proofs.YtebilgnmnambnaaGreatDoor
