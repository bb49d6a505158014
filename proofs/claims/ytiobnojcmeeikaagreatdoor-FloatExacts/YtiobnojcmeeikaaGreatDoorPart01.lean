import Derived.Laws.BytesArg
import Derived.Lib.ItoaNum
import Derived.Lib.ParseIntB
import Derived.WalkKit
import Derived.WalkSpells
import Derived.WalkSmall
import Derived.Deep.QuietTactic
import Derived.BigQuiet
import Derived.Test.YtiobnojcmeeikaaGreatDoorProg
import Derived.Laws.Strings

namespace Dc
open Go Go.Lib

theorem pow_le_of_pos (u : Nat) (h : 0 < u) : 10 ^ (nDigits u - 1) ≤ u := by
  induction u using Nat.strongRecOn with
  | _ u ih =>
    by_cases h1 : u < 10
    · rw [nDigits_small h1]; simp; omega
    · rw [nDigits_big h1]
      have := ih (u / 10) (by omega) (by omega)
      have p := nDigits_pos (u / 10)
      rw [show nDigits (u / 10) + 1 - 1 = nDigits (u / 10) - 1 + 1 from by omega, Nat.pow_succ]
      omega
theorem nDigits_le {u n : Nat} (hn : 0 < n) (h : u < 10 ^ n) : nDigits u ≤ n := by
  by_cases h0 : u = 0
  · subst h0; rw [nDigits_small (by decide)]; exact hn
  · have := pow_le_of_pos u (by omega)
    have l : 10 ^ (nDigits u - 1) < 10 ^ n := by omega
    have := (Nat.pow_lt_pow_iff_right (by decide : 1 < 10)).1 l
    omega
/-- The first c of N places of V. -/
def dgs (V N c : Nat) : List Int := (List.range c).map fun s => 48 + ((V / 10 ^ (N - 1 - s) % 10 : Nat) : Int)
theorem dgs_zero (V N : Nat) : dgs V N 0 = [] := rfl
theorem dgs_succ (V N c : Nat) : dgs V N (c + 1) = dgs V N c ++ [48 + ((V / 10 ^ (N - 1 - c) % 10 : Nat) : Int)] := by
  simp [dgs, List.range_succ]
theorem dgs_length (V N c : Nat) : (dgs V N c).length = c := by simp [dgs]
theorem dgs_at (V N c i : Nat) (h : i < c) : (dgs V N c).getD i 0 = 48 + ((V / 10 ^ (N - 1 - i) % 10 : Nat) : Int) := by
  simp [dgs, List.getD_eq_getElem?_getD, h]
theorem top_digit (V : Nat) (h : 0 < V) : V / 10 ^ (nDigits V - 1) % 10 ≠ 0 := by
  have a := pow_le_of_pos V h
  have b := lt_pow_nDigits V
  have p := nDigits_pos V
  rw [show nDigits V = nDigits V - 1 + 1 from by omega, Nat.pow_succ] at b
  have q : 0 < 10 ^ (nDigits V - 1) := Nat.pow_pos (by decide)
  generalize 10 ^ (nDigits V - 1) = t at *
  have h1 : 1 ≤ V / t := (Nat.le_div_iff_mul_le q).2 (by omega)
  have h2 : V / t < 10 := (Nat.div_lt_iff_lt_mul q).2 (by omega)
  omega
theorem high_digit (V j : Nat) (h : nDigits V ≤ j) : V / 10 ^ j = 0 := by
  rw [Nat.div_eq_zero_iff]
  right
  exact Nat.lt_of_lt_of_le (lt_pow_nDigits V) (Nat.pow_le_pow_right (by decide) h)
theorem dgs_str (V N : Nat) (h : nDigits V ≤ N) : strOfNums ((dgs V N N).drop (N - nDigits V)) = ⟨(decDigits V).toArray⟩ := by
  unfold strOfNums
  congr 2
  rw [decDigits_eq]
  apply List.ext_getElem
  · simp [dgs_length]; omega
  · intro i h1 h2
    simp [dgs, dg] at h1 h2 ⊢
    rw [show N - 1 - (N - nDigits V + i) = nDigits V - 1 - i from by omega]
    have : (48 + (V : Int) / 10 ^ (nDigits V - 1 - i) % 10).toNat = 48 + V / 10 ^ (nDigits V - 1 - i) % 10 := by
      have : ((V / 10 ^ (nDigits V - 1 - i) % 10 : Nat) : Int) = (V : Int) / 10 ^ (nDigits V - 1 - i) % 10 := by simp
      omega
    rw [this]
    simp
/-- One digit of a part of nine. -/
theorem part_digit (A t : Nat) (h : t ≤ 8) : (A % 1000000000) / (100000000 / 10 ^ t) % 10 = A / 10 ^ (8 - t) % 10 := by
  have e : (100000000 : Nat) / 10 ^ t = 10 ^ (8 - t) := by
    rw [show (100000000 : Nat) = 10 ^ 8 from rfl, Nat.pow_div h (by decide)]
  rw [e, show (1000000000 : Nat) = 10 ^ (8 - t) * 10 ^ (t + 1) from by rw [← Nat.pow_add, show 8 - t + (t + 1) = 9 from by omega], Nat.mod_mul_right_div_self]
  rw [Nat.mod_mod_of_dvd]
  exact ⟨10 ^ t, by rw [Nat.pow_succ, Nat.mul_comm]⟩
theorem unit_next (t : Nat) : (100000000 : Nat) / 10 ^ t / 10 = 100000000 / 10 ^ (t + 1) := by
  rw [Nat.div_div_eq_div_mul, Nat.pow_succ]
theorem unit_pos {t : Nat} (h : t ≤ 8) : 0 < (100000000 : Nat) / 10 ^ t := by
  rw [show (100000000 : Nat) = 10 ^ 8 from rfl, Nat.pow_div h (by decide)]
  exact Nat.pow_pos (by decide)
theorem unit_end : (100000000 : Nat) / 10 ^ 9 = 0 := by decide
theorem unit_le (t : Nat) : (100000000 : Nat) / 10 ^ t ≤ 100000000 := Nat.div_le_self _ _
theorem place (V i t m : Nat) (hi : i < m) (ht : t ≤ 8) : (V / 10 ^ (9 * i) % 1000000000) / (100000000 / 10 ^ t) % 10 = V / 10 ^ (9 * m - 1 - (9 * (m - 1 - i) + t)) % 10 := by
  rw [part_digit _ _ ht, Nat.div_div_eq_div_mul, ← Nat.pow_add]
  congr 3
  omega
/-- The number of a row of digits. -/
def num : List UInt8 → Nat := List.foldl (fun a c => 10 * a + (c.toNat - 48)) 0
theorem num_append (a b : List UInt8) : num (a ++ b) = num a * 10 ^ b.length + num b := by
  unfold num
  rw [List.foldl_append]
  generalize List.foldl (fun a c => 10 * a + (UInt8.toNat c - 48)) 0 a = x
  induction b generalizing x with
  | nil => simp
  | cons c b ih =>
    rw [List.foldl_cons, ih, List.foldl_cons, ih (10 * 0 + (c.toNat - 48)), List.length_cons, Nat.pow_succ]
    grind
theorem num_single (c : UInt8) : num [c] = c.toNat - 48 := by simp [num]
end Dc

namespace Dc
open Go Go.Lib
/-- A byte that is a decimal digit. -/
def Dg (b : UInt8) : Prop := 48 ≤ b.toNat ∧ b.toNat ≤ 57
theorem num_take (l : List UInt8) (k : Nat) (h : k < l.length) : num (l.take (k + 1)) = num (l.take k) * 10 + ((l[k]).toNat - 48) := by
  rw [List.take_add_one, num_append]
  simp [List.getElem?_eq_getElem h, num_single]
theorem num_lt_take (l : List UInt8) (h : ∀ c ∈ l, Dg c) (k : Nat) (hk : k ≤ l.length) : num (l.take k) < 10 ^ k := by
  induction k with
  | zero => simp [num]
  | succ k ih =>
    have a := ih (by omega)
    have b := h l[k] (List.getElem_mem _)
    unfold Dg at b
    rw [num_take l k (by omega), Nat.pow_succ]
    omega
theorem num_lt (l : List UInt8) (h : ∀ c ∈ l, Dg c) : num l < 10 ^ l.length := by
  have := num_lt_take l h l.length (Nat.le_refl _)
  rwa [List.take_length] at this
end Dc

namespace Dc
/-- The byte at a place, or 256 behind the end. -/
def bt (s : ByteArray) (i : Nat) : Nat := if h : i < s.size then s[i].toNat else 256
/-- Does a digit stand there? -/
def dgt (s : ByteArray) (i : Nat) : Bool := decide (48 ≤ bt s i ∧ bt s i ≤ 57)
def run (s : ByteArray) (i : Nat) : Nat → Nat
  | 0 => 0
  | f + 1 => if dgt s i = true then run s (i + 1) f + 1 else 0
/-- How many digits stand from a place on. -/
def nd (s : ByteArray) (i : Nat) : Nat := run s i (s.size - i)
/-- The sign, where the pounds begin, and where they end. -/
def neg (s : ByteArray) : Bool := decide (bt s 0 = 45)
def fr (s : ByteArray) : Nat := if neg s then 1 else 0
def rest (s : ByteArray) : ByteArray := if neg s then s.extract 1 s.size else s
end Dc

namespace Tl
/-- The number of a row of limbs of 30 bits, the lowest first. -/
def val : List Int → Int
  | [] => 0
  | x :: xs => x + 1073741824 * val xs
/-- The unit behind n words. -/
def pw : Nat → Int
  | 0 => 1
  | n + 1 => 1073741824 * pw n
/-- Each is a word. -/
def Wd (xs : List Int) : Prop := ∀ x, x ∈ xs → 0 ≤ x ∧ x < 1073741824

theorem pw_pos (n : Nat) : 0 < pw n := by
  induction n with
  | zero => simp [pw]
  | succ n ih => simp only [pw]; omega
theorem pw_add (m n : Nat) : pw (m + n) = pw m * pw n := by
  induction m with
  | zero => simp [pw]
  | succ m ih => rw [Nat.succ_add]; simp only [pw, ih]; grind
theorem pw_mono {m n : Nat} (h : m ≤ n) : pw m ≤ pw n := by
  obtain ⟨k, rfl⟩ := Nat.exists_eq_add_of_le h
  rw [pw_add]
  have h1 := pw_pos m
  have h2 : 1 ≤ pw k := pw_pos k
  have := Int.mul_le_mul_of_nonneg_left h2 (Int.le_of_lt h1)
  omega
theorem Wd.nil : Wd [] := by intro x h; simp at h
theorem Wd.cons {x : Int} {xs : List Int} (h0 : 0 ≤ x) (h1 : x < 1073741824) (h : Wd xs) : Wd (x :: xs) := by
  intro y hy
  rcases List.mem_cons.1 hy with rfl | hy
  · exact ⟨h0, h1⟩
  · exact h y hy
theorem Wd.head {x : Int} {xs : List Int} (h : Wd (x :: xs)) : 0 ≤ x ∧ x < 1073741824 := h x (by simp)
theorem Wd.tail {x : Int} {xs : List Int} (h : Wd (x :: xs)) : Wd xs := fun y hy => h y (by simp [hy])
theorem Wd.append {xs ys : List Int} (h : Wd xs) (k : Wd ys) : Wd (xs ++ ys) := by
  intro y hy
  rcases List.mem_append.1 hy with hy | hy
  · exact h y hy
  · exact k y hy
theorem Wd.left {xs ys : List Int} (h : Wd (xs ++ ys)) : Wd xs := fun y hy => h y (by simp [hy])
theorem Wd.right {xs ys : List Int} (h : Wd (xs ++ ys)) : Wd ys := fun y hy => h y (by simp [hy])
theorem Wd.take {xs : List Int} (h : Wd xs) (n : Nat) : Wd (xs.take n) := fun y hy => h y (List.mem_of_mem_take hy)
theorem Wd.drop {xs : List Int} (h : Wd xs) (n : Nat) : Wd (xs.drop n) := fun y hy => h y (List.mem_of_mem_drop hy)
theorem Wd.set {xs : List Int} (h : Wd xs) (n : Nat) {v : Int} (h0 : 0 ≤ v) (h1 : v < 1073741824) : Wd (xs.set n v) := by
  intro y hy
  rcases List.mem_or_eq_of_mem_set hy with hy | rfl
  · exact h y hy
  · exact ⟨h0, h1⟩
theorem Wd.zeros (n : Nat) : Wd (List.replicate n 0) := by
  intro y hy; have := List.eq_of_mem_replicate hy; omega
theorem Wd.get {xs : List Int} (h : Wd xs) (i : Nat) : 0 ≤ xs.getD i 0 ∧ xs.getD i 0 < 1073741824 := by
  by_cases hi : i < xs.length
  · simp only [List.getD_eq_getElem?_getD, List.getElem?_eq_getElem hi, Option.getD_some]; exact h _ (List.getElem_mem hi)
  · simp [List.getD_eq_getElem?_getD, List.getElem?_eq_none (Nat.le_of_not_lt hi)]

theorem val_append (xs ys : List Int) : val (xs ++ ys) = val xs + pw xs.length * val ys := by
  induction xs with
  | nil => simp [val, pw]
  | cons x xs ih => simp only [List.cons_append, val, ih, List.length_cons, pw]; grind
theorem val_nonneg {xs : List Int} (h : Wd xs) : 0 ≤ val xs := by
  induction xs with
  | nil => simp [val]
  | cons x xs ih => have := ih h.tail; have := h.head; simp only [val]; omega
theorem val_lt {xs : List Int} (h : Wd xs) : val xs < pw xs.length := by
  induction xs with
  | nil => simp [val, pw]
  | cons x xs ih => have := ih h.tail; have := h.head; simp only [val, List.length_cons, pw]; omega
theorem val_zeros (n : Nat) : val (List.replicate n 0) = 0 := by
  induction n with
  | zero => rfl
  | succ n ih => simp [List.replicate_succ, val, ih]
theorem val_split (xs : List Int) (n : Nat) (h : n ≤ xs.length) : val xs = val (xs.take n) + pw n * val (xs.drop n) := by
  conv => lhs; rw [← List.take_append_drop n xs]
  rw [val_append, List.length_take, Nat.min_eq_left h]
theorem take_succ_getD (xs : List Int) (k : Nat) (h : k < xs.length) : xs.take (k + 1) = xs.take k ++ [xs.getD k 0] := by
  rw [List.take_succ_eq_append_getElem h]; simp [List.getD_eq_getElem?_getD, List.getElem?_eq_getElem h]
theorem drop_getD (xs : List Int) (k : Nat) (h : k < xs.length) : xs.drop k = xs.getD k 0 :: xs.drop (k + 1) := by
  rw [List.drop_eq_getElem_cons h]; simp [List.getD_eq_getElem?_getD, List.getElem?_eq_getElem h]
theorem val_take_succ (xs : List Int) (k : Nat) (h : k < xs.length) : val (xs.take (k + 1)) = val (xs.take k) + pw k * xs.getD k 0 := by
  rw [take_succ_getD xs k h, val_append, List.length_take, Nat.min_eq_left (Nat.le_of_lt h)]; simp [val]
theorem take_set_succ (xs : List Int) (k : Nat) (v : Int) (h : k < xs.length) : (xs.set k v).take (k + 1) = xs.take k ++ [v] := by
  rw [take_succ_getD _ k (by simpa using h)]
  congr 1
  · rw [List.take_set]; exact List.set_eq_of_length_le (by simp; omega)
  · simp [List.getD_eq_getElem?_getD, h]
theorem drop_set_succ (xs : List Int) (k : Nat) (v : Int) : (xs.set k v).drop (k + 1) = xs.drop (k + 1) := by
  rw [List.drop_set_of_lt (by omega)]
/-- No nought at the high end. -/
def Nm (xs : List Int) : Prop := xs = [] ∨ xs.getD (xs.length - 1) 0 ≠ 0
theorem Nm.nil : Nm [] := Or.inl rfl
theorem val_low {xs : List Int} (h : Wd xs) (n : Nm xs) (ne : xs ≠ []) : pw (xs.length - 1) ≤ val xs := by
  have hl : 0 < xs.length := by cases xs with | nil => exact absurd rfl ne | cons => simp
  have e := val_split xs (xs.length - 1) (by omega)
  rw [drop_getD xs _ (by omega), Nat.sub_add_cancel hl, List.drop_length] at e
  rcases n with n | n
  · exact absurd n ne
  · have h1 := (h.get (xs.length - 1)).1
    have h2 := val_nonneg (h.take (xs.length - 1))
    have h3 := Int.mul_le_mul_of_nonneg_left (show 1 ≤ xs.getD (xs.length - 1) 0 by omega) (Int.le_of_lt (pw_pos (xs.length - 1)))
    simp only [val, Int.mul_zero, Int.add_zero] at e
    omega
/-- More words, a greater number. -/
theorem val_lt_of_length {xs ys : List Int} (h : Wd xs) (k : Wd ys) (n : Nm ys) (hl : xs.length < ys.length) : val xs < val ys := by
  have h1 := val_lt h
  have h2 := val_low k n (by intro e; simp [e] at hl)
  have h3 := pw_mono (show xs.length ≤ ys.length - 1 by omega)
  omega
theorem val_eq_zero {xs : List Int} (h : Wd xs) (n : Nm xs) : val xs = 0 ↔ xs = [] := by
  constructor
  · intro e
    by_cases ne : xs = []
    · exact ne
    · have := val_low h n ne; have := pw_pos (xs.length - 1); omega
  · rintro rfl; rfl
end Tl

namespace Go.Proofs.YtiobnojcmeeikaaGreatDoor.L
open Go.RowKit Tl
/-- A word of a row, kept from the walk's own rules. -/
def nth (xs : List Int) (i : Nat) : Int := xs.getD i 0
theorem nth_bd {xs : List Int} (h : Wd xs) (i : Nat) : 0 ≤ nth xs i ∧ nth xs i < 1073741824 := h.get i
theorem nth_set_same (xs : List Int) (k : Nat) (v : Int) (h : k < xs.length) : nth (xs.set k v) k = v := by simp [nth, List.getD_eq_getElem?_getD, h]
theorem nth_set_other (xs : List Int) (k j : Nat) (v : Int) (h : k ≠ j) : nth (xs.set k v) j = nth xs j := by simp [nth, List.getD_eq_getElem?_getD, h]
theorem nth_drop (xs : List Int) (k j : Nat) : nth (xs.drop k) j = nth xs (k + j) := by simp [nth, List.getD_eq_getElem?_getD]
theorem nth_take (xs : List Int) (k j : Nat) (h : j < k) : nth (xs.take k) j = nth xs j := by simp [nth, List.getD_eq_getElem?_getD, h]

/-- X is S, rewritten up to place k. -/
structure Part (X S : List Int) (k : Nat) : Prop where
  len : X.length = S.length
  wd : Wd X
  drop : X.drop k = S.drop k
theorem Part.refl {S : List Int} (h : Wd S) (k : Nat) : Part S S k := ⟨rfl, h, rfl⟩
theorem Part.nth {X S : List Int} {k : Nat} (h : Part X S k) : nth X k = nth S k := by
  have e := congrArg (fun l => Go.Proofs.YtiobnojcmeeikaaGreatDoor.L.nth l 0) h.drop
  simpa [nth_drop] using e
theorem Part.step {X S : List Int} {k : Nat} (h : Part X S k) {v : Int} (h0 : 0 ≤ v) (h1 : v < 1073741824) : Part (X.set k v) S (k + 1) := by
  refine ⟨by rw [List.length_set, h.len], h.wd.set k h0 h1, ?_⟩
  rw [drop_set_succ]
  have e := congrArg (List.drop 1) h.drop
  simpa [List.drop_drop, Nat.add_comm] using e
theorem Part.val {X S : List Int} {k : Nat} (h : Part X S k) (hk : k < S.length) (v : Int) : val ((X.set k v).take (k + 1)) = val (X.take k) + pw k * v := by
  have hl := h.len
  rw [take_set_succ X k v (by omega), val_append, List.length_take, Nat.min_eq_left (by omega)]; simp [Tl.val]
theorem Part.whole {X S : List Int} {k : Nat} (h : Part X S k) (hk : k ≤ S.length) : Tl.val X - Tl.val (X.take k) = Tl.val S - Tl.val (S.take k) := by
  have hl := h.len
  have e1 := val_split X k (by omega); have e2 := val_split S k hk; rw [h.drop] at e1; omega
theorem val_at (xs : List Int) (k : Nat) (h : k < xs.length) : val (xs.take (k + 1)) = val (xs.take k) + pw k * nth xs k := val_take_succ xs k h

/-- The cells of block b from o on hold the words xs. -/
def Cells (w : World) (b o : Nat) (xs : List Int) : Prop := ∀ i, i < xs.length → w.cell? ⟨b, o + i, none⟩ = some (.int .i64 (nth xs i))
/-- n cells of block b from o on may be written. -/
def Free (w : World) (b o n : Nat) : Prop := ∀ i, i < n → w.frozen? ⟨b, o + i, none⟩ = false

/-- Nothing that lay in w has turned, but n cells of block b from o on. -/
structure Wr (b o n : Nat) (w w' : World) : Prop where
  os : w'.os = w.os
  tape : w'.tape = w.tape
  output : w'.output = w.output
  size : w.heap.size ≤ w'.heap.size
  block : ∀ k, k < w.heap.size → k ≠ b → w'.heap[k]? = w.heap[k]?
  cell : ∀ i, (i < o ∨ o + n ≤ i) → w'.cell? ⟨b, i, none⟩ = w.cell? ⟨b, i, none⟩
  froz : ∀ i, w'.frozen? ⟨b, i, none⟩ = w.frozen? ⟨b, i, none⟩
  own : ∀ c t f, w.heap[b]? = some (.cells c t f) → ∃ c', w'.heap[b]? = some (.cells c' t f) ∧ c'.size = c.size

theorem Wr.refl (b o n : Nat) (w : World) : Wr b o n w w := ⟨rfl, rfl, rfl, Nat.le_refl _, fun _ _ _ => rfl, fun _ _ => rfl, fun _ => rfl, fun c _ _ h => ⟨c, h, rfl⟩⟩
theorem Wr.trans {b o n : Nat} {x y z : World} (h : Wr b o n x y) (k : Wr b o n y z) : Wr b o n x z :=
  ⟨k.os.trans h.os, k.tape.trans h.tape, k.output.trans h.output, Nat.le_trans h.size k.size, fun i hi hb => (k.block i (Nat.lt_of_lt_of_le hi h.size) hb).trans (h.block i hi hb),
    fun i hi => (k.cell i hi).trans (h.cell i hi), fun i => (k.froz i).trans (h.froz i), fun c t f e => by obtain ⟨c1, e1, s1⟩ := h.own c t f e; obtain ⟨c2, e2, s2⟩ := k.own c1 t f e1; exact ⟨c2, e2, s2.trans s1⟩⟩
theorem Wr.drew {b o n : Nat} {x y : World} (h : Wr b o n x y) : Wr b o n x y.drew := ⟨h.os, h.tape, h.output, h.size, h.block, h.cell, h.froz, h.own⟩
theorem Wr.drewN {b o n : Nat} {x y : World} (h : Wr b o n x y) (m : Nat) : Wr b o n x (y.drewN m) := ⟨h.os, h.tape, h.output, h.size, h.block, h.cell, h.froz, h.own⟩
theorem Wr.mono {b o n o' n' : Nat} {x y : World} (h : Wr b o n x y) (h1 : o' ≤ o) (h2 : o + n ≤ o' + n') : Wr b o' n' x y := ⟨h.os, h.tape, h.output, h.size, h.block, fun i hi => h.cell i (by omega), h.froz, h.own⟩
theorem Wr.setCell {b o n : Nat} {x y : World} (h : Wr b o n x y) (i : Nat) (hi : o ≤ i ∧ i < o + n) (v : Value) : Wr b o n x (y.setCell ⟨b, i, none⟩ v) :=
  h.trans ⟨rfl, rfl, rfl, by simp [World.setCell], fun k _ hb => Below.heap_setCell _ _ _ _ hb, fun j hj => World.cell?_setCell_other _ _ _ _ (by simp), fun j => World.frozen?_setCell _ _ _ _, fun c t f e => ⟨c.setIfInBounds i v, by simp [World.setCell, Array.getElem?_modify, e], by simp⟩⟩
theorem Wr.below {b o n : Nat} {x y : World} (h : Wr b o n x y) {B : Nat} (hB : B ≤ b) (hB' : B ≤ x.heap.size) : Below B x y :=
  ⟨h.os, h.tape, h.output, h.size, fun k hk => h.block k (by omega) (by omega)⟩
theorem Wr.of_below {b o n : Nat} {x y : World} (h : Below x.heap.size x y) (hb : b < x.heap.size) : Wr b o n x y :=
  ⟨h.os, h.tape, h.output, h.size, fun k hk _ => h.block k hk, fun _ _ => h.cell hb, fun _ => h.frozen hb, fun c _ _ e => ⟨c, (h.block b hb).trans e, rfl⟩⟩
theorem Wr.alloc {b o n : Nat} {x y : World} (h : Wr b o n x y) (hb : b < x.heap.size) (ob : Obj) : Wr b o n x (y.alloc ob) :=
  h.trans (Wr.of_below ((Below.refl _ _).alloc (Nat.le_refl _) ob) (Nat.lt_of_lt_of_le hb h.size))

theorem lt_of_cell {w : World} {b i : Nat} {v : Value} (h : w.cell? ⟨b, i, none⟩ = some v) : b < w.heap.size := by
  by_cases hb : b < w.heap.size
  · exact hb
  · simp [World.cell?, Array.getElem?_eq_none (Nat.le_of_not_lt hb)] at h
theorem Cells.lt {w : World} {b o : Nat} {xs : List Int} (h : Cells w b o xs) (ne : 0 < xs.length) : b < w.heap.size := lt_of_cell (h 0 ne)
theorem Cells.at {w : World} {b o : Nat} {xs : List Int} (h : Cells w b o xs) {i : Nat} (hi : i < xs.length) : w.cell? ⟨b, o + i, none⟩ = some (.int .i64 (nth xs i)) := h i hi
theorem Cells.below {w w' : World} {B b o : Nat} {xs : List Int} (h : Cells w b o xs) (k : Below B w w') (hb : b < B) : Cells w' b o xs := fun i hi => (k.cell (p := ⟨b, o + i, none⟩) hb).trans (h i hi)
theorem Cells.grow {w w' : World} {b o : Nat} {xs : List Int} (h : Cells w b o xs) (k : Below w.heap.size w w') : Cells w' b o xs := fun i hi => (k.cell (p := ⟨b, o + i, none⟩) (lt_of_cell (h i hi))).trans (h i hi)
/-- Writes to another block turn nothing here. -/
theorem Cells.other {w w' : World} {b o b' o' n' : Nat} {xs : List Int} (h : Cells w b o xs) (k : Wr b' o' n' w w') (hb : b ≠ b') : Cells w' b o xs := fun i hi =>
  (World.cell?_of_block (a := ⟨b, o + i, none⟩) (k.block b (lt_of_cell (h i hi)) hb)).trans (h i hi)
/-- Writes elsewhere in the same block turn nothing here. -/
theorem Cells.apart {w w' : World} {b o o' n' : Nat} {xs : List Int} (h : Cells w b o xs) (k : Wr b o' n' w w') (hb : o + xs.length ≤ o' ∨ o' + n' ≤ o) : Cells w' b o xs := fun i hi =>
  (k.cell (o + i) (by omega)).trans (h i hi)
theorem Cells.set {w : World} {b o : Nat} {xs : List Int} (h : Cells w b o xs) (k : Nat) (hk : k < xs.length) (v : Int) : Cells (w.setCell ⟨b, o + k, none⟩ (.int .i64 v)) b o (xs.set k v) := by
  intro i hi
  rw [List.length_set] at hi
  by_cases e : k = i
  · subst e; rw [nth_set_same _ _ _ hk]; exact World.cell?_setCell_same _ _ _ (h k hk)
  · rw [nth_set_other _ _ _ _ e, World.cell?_setCell_other _ _ _ _ (by simp)]; exact h i hi
theorem Cells.drop {w : World} {b o : Nat} {xs : List Int} (h : Cells w b o xs) (k : Nat) : Cells w b (o + k) (xs.drop k) := by
  intro i hi
  rw [List.length_drop] at hi
  rw [nth_drop, Nat.add_assoc]; exact h (k + i) (by omega)
theorem Cells.take {w : World} {b o : Nat} {xs : List Int} (h : Cells w b o xs) (k : Nat) : Cells w b o (xs.take k) := by
  intro i hi
  rw [List.length_take] at hi
  rw [nth_take _ _ _ (by omega)]; exact h i (by omega)
theorem Cells.append {w : World} {b o : Nat} {xs ys : List Int} (h : Cells w b o xs) (k : Cells w b (o + xs.length) ys) : Cells w b o (xs ++ ys) := by
  intro i hi
  rw [List.length_append] at hi
  by_cases e : i < xs.length
  · have : nth (xs ++ ys) i = nth xs i := by simp [nth, List.getD_eq_getElem?_getD, List.getElem?_append_left e]
    rw [this]; exact h i e
  · have : nth (xs ++ ys) i = nth ys (i - xs.length) := by simp [nth, List.getD_eq_getElem?_getD, List.getElem?_append_right (Nat.le_of_not_lt e)]
    rw [this]; have := k (i - xs.length) (by omega); rwa [Nat.add_assoc, Nat.add_sub_cancel' (Nat.le_of_not_lt e)] at this
theorem Free.drop {w : World} {b o n : Nat} (h : Free w b o n) (k : Nat) : Free w b (o + k) (n - k) := fun i hi => by rw [Nat.add_assoc]; exact h (k + i) (by omega)
theorem Free.mono {w : World} {b o n m : Nat} (h : Free w b o n) (k : m ≤ n) : Free w b o m := fun i hi => h i (by omega)
theorem Free.wr {w w' : World} {b o n b' o' n' : Nat} (h : Free w b o n) (k : Wr b' o' n' w w') (hb : b < w.heap.size) : Free w' b o n := fun i hi => by
  by_cases e : b = b'
  · subst e; exact (k.froz (o + i)).trans (h i hi)
  · exact (World.frozen?_of_block (a := ⟨b, o + i, none⟩) (k.block b hb e)).trans (h i hi)
theorem Free.grow {w w' : World} {b o n : Nat} (h : Free w b o n) (k : Below w.heap.size w w') (hb : b < w.heap.size) : Free w' b o n := fun i hi => (k.frozen (p := ⟨b, o + i, none⟩) hb).trans (h i hi)

/-- A variable of one cell, in a block of its own. -/
structure Bx (w : World) (n : Nat) (v : Value) : Prop where
  cell : w.cell? ⟨n, 0, none⟩ = some v
  free : w.frozen? ⟨n, 0, none⟩ = false
  blk : ∃ t, w.heap[n]? = some (.cells #[v] t (0, 0))
theorem Bx.lt {w : World} {n : Nat} {v : Value} (h : Bx w n v) : n < w.heap.size := lt_of_cell h.1
theorem Bx.below {W w1 : World} {n : Nat} {v : Value} (h : Bx W n v) (k : Below W.heap.size W w1) : Bx w1 n v := ⟨(k.cell (p := ⟨n, 0, none⟩) h.lt).trans h.1, (k.frozen (p := ⟨n, 0, none⟩) h.lt).trans h.2, by obtain ⟨t, e⟩ := h.3; exact ⟨t, (k.block n h.lt).trans e⟩⟩
theorem Bx.wr {W w1 : World} {n g o m : Nat} {v : Value} (h : Bx W n v) (k : Wr g o m W w1) (hn : n ≠ g) : Bx w1 n v :=
  ⟨(World.cell?_of_block (a := ⟨n, 0, none⟩) (k.block n h.lt hn)).trans h.1, (World.frozen?_of_block (a := ⟨n, 0, none⟩) (k.block n h.lt hn)).trans h.2, by obtain ⟨t, e⟩ := h.3; exact ⟨t, (k.block n h.lt hn).trans e⟩⟩
theorem Bx.new (w : World) (v : Value) (t : TypeId) : Bx (w.alloc (.cells #[v] t)) w.heap.size v := ⟨by simp, by simp, t, heap_alloc_new _ _⟩
theorem Bx.alloc {w : World} {n : Nat} {v : Value} (h : Bx w n v) (o : Obj) : Bx (w.alloc o) n v := h.below ((Below.refl _ _).alloc (Nat.le_refl _) o)
/-- The last step: the result goes into its cell. -/
theorem below_put {B n : Nat} {w w' : World} (h : Below B w w') (hn : B ≤ n) (v : Value) : Below B w (w'.setCell ⟨n, 0, none⟩ v) := h.setCell (p := ⟨n, 0, none⟩) hn v
theorem below_alloc2 {w w1 : World} {o0 o1 : Obj} (k : Below (w.heap.size + 1 + 1) ((w.alloc o0).alloc o1) w1) : Below w.heap.size w w1 := by
  refine Below.trans ?_ (k.mono (by omega))
  repeat (first | exact Below.refl _ _ | (refine Below.alloc ?_ (by first | exact Nat.le_refl _ | (simp only [World.size_alloc]; omega)) _))
theorem below_alloc3 {w w1 : World} {o0 o1 o2 : Obj} (k : Below (w.heap.size + 1 + 1 + 1) (((w.alloc o0).alloc o1).alloc o2) w1) : Below w.heap.size w w1 := by
  refine Below.trans ?_ (k.mono (by omega))
  repeat (first | exact Below.refl _ _ | (refine Below.alloc ?_ (by first | exact Nat.le_refl _ | (simp only [World.size_alloc]; omega)) _))
theorem below_alloc4 {w w1 : World} {o0 o1 o2 o3 : Obj} (k : Below (w.heap.size + 1 + 1 + 1 + 1) ((((w.alloc o0).alloc o1).alloc o2).alloc o3) w1) : Below w.heap.size w w1 := by
  refine Below.trans ?_ (k.mono (by omega))
  repeat (first | exact Below.refl _ _ | (refine Below.alloc ?_ (by first | exact Nat.le_refl _ | (simp only [World.size_alloc]; omega)) _))
/-- Block b is one of words' rows that nothing has frozen. -/
def Own (w : World) (b : Nat) : Prop := ∃ c t, w.heap[b]? = some (.cells c t (0, 0))
theorem Own.free {w : World} {b : Nat} (h : Own w b) (o n : Nat) : Free w b o n := by
  obtain ⟨c, t, e⟩ := h
  intro i _
  simp [World.frozen?, e]
theorem Own.lt {w : World} {b : Nat} (h : Own w b) : b < w.heap.size := by
  obtain ⟨c, t, e⟩ := h
  by_cases hb : b < w.heap.size
  · exact hb
  · rw [Array.getElem?_eq_none (Nat.le_of_not_lt hb)] at e; simp at e
theorem Own.wr {w w' : World} {b b' o n : Nat} (h : Own w b) (k : Wr b' o n w w') : Own w' b := by
  have hb := h.lt
  obtain ⟨c, t, e⟩ := h
  by_cases e' : b = b'
  · subst e'; obtain ⟨c', e1, _⟩ := k.own c t _ e; exact ⟨c', t, e1⟩
  · exact ⟨c, t, (k.block b hb e').trans e⟩
theorem Own.grow {w w' : World} {b : Nat} (h : Own w b) (k : Below w.heap.size w w') : Own w' b := by
  have hb := h.lt
  obtain ⟨c, t, e⟩ := h
  exact ⟨c, t, (k.block b hb).trans e⟩

/-- The slice value v reads as the words xs. -/
def Rd (w : World) (v : Value) (xs : List Int) : Prop :=
  Wd xs ∧ ∃ a cap, v = .slice a xs.length cap ∧ xs.length ≤ cap ∧ cap ≤ maxLen ∧ (0 < xs.length → ∃ b o, a = some ⟨b, o, none⟩ ∧ Cells w b o xs)
theorem Rd.grow {w w' : World} {v : Value} {xs : List Int} (h : Rd w v xs) (k : Below w.heap.size w w') : Rd w' v xs := by
  obtain ⟨h1, a, cap, h2, h3, h4, h5⟩ := h
  exact ⟨h1, a, cap, h2, h3, h4, fun l => by obtain ⟨b, o, e, c⟩ := h5 l; exact ⟨b, o, e, c.grow k⟩⟩
theorem Rd.nil (w : World) : Rd w (.slice none 0 0) [] := ⟨Wd.nil, none, 0, rfl, Nat.le_refl _, by decide, fun h => by simp at h⟩
theorem Rd.put {w : World} {n : Nat} {v u : Value} {xs : List Int} (h : Rd w v xs) (hn : ∀ b o l c, v = .slice (some ⟨b, o, none⟩) l c → b ≠ n) : Rd (w.setCell ⟨n, 0, none⟩ u) v xs := by
  obtain ⟨h1, a, cap, h2, h3, h4, h5⟩ := h
  refine ⟨h1, a, cap, h2, h3, h4, fun l => ?_⟩
  obtain ⟨b, o, e, c⟩ := h5 l
  refine ⟨b, o, e, fun i hi => ?_⟩
  rw [World.cell?_setCell_other _ _ _ _ (by have := hn b o _ _ (by rw [h2, e]); simp; try omega)]
  exact c i hi
/-- A variable that holds a slice lies apart from all words: its cell may be written. -/
theorem Rd.box {w : World} {n : Nat} {v u : Value} {xs : List Int} {a : Option Addr} {l c : Nat} (h : Rd w v xs) (hb : Bx w n (.slice a l c)) : Rd (w.setCell ⟨n, 0, none⟩ u) v xs := by
  obtain ⟨h1, a, cap, h2, h3, h4, h5⟩ := h
  refine ⟨h1, a, cap, h2, h3, h4, fun l => ?_⟩
  obtain ⟨b, o, e, hc⟩ := h5 l
  refine ⟨b, o, e, fun i hi => ?_⟩
  have hne : b ≠ n := by
    rintro rfl
    obtain ⟨t, hb⟩ := hb.3
    have := hc 0 (by omega)
    simp only [World.cell?, hb] at this
    by_cases h0 : o = 0
    · subst h0; simp at this
    · simp [h0] at this
  rw [World.cell?_setCell_other _ _ _ _ (by simp; try omega)]
  exact hc i hi
theorem Cells.drew {w : World} {b o : Nat} {xs : List Int} (h : Cells w b o xs) : Cells w.drew b o xs := h
theorem Free.drew {w : World} {b o n : Nat} (h : Free w b o n) : Free w.drew b o n := h
theorem Own.drew {w : World} {b : Nat} (h : Own w b) : Own w.drew b := h
theorem Bx.drew {w : World} {n : Nat} {v : Value} (h : Bx w n v) : Bx w.drew n v := ⟨h.1, h.2, h.3⟩
theorem Wr.undrew {b o n : Nat} {x y : World} (h : Wr b o n x.drew y) : Wr b o n x y := ⟨h.os, h.tape, h.output, h.size, h.block, h.cell, h.froz, h.own⟩
theorem below_undrew {B : Nat} {x y : World} (h : Below B x.drew y) : Below B x y := ⟨h.os, h.tape, h.output, h.size, h.block⟩
theorem Rd.drew {w : World} {v : Value} {xs : List Int} (h : Rd w v xs) : Rd w.drew v xs := h.grow ((Below.refl _ _).drew)
end Go.Proofs.YtiobnojcmeeikaaGreatDoor.L

namespace Go.Proofs.YtiobnojcmeeikaaGreatDoor.Mo
open Go.RowKit Go.Lib Dc

end Go.Proofs.YtiobnojcmeeikaaGreatDoor.Mo
