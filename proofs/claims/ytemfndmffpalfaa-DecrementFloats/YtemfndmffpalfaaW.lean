namespace Tn
/-- The number of a row of words of 64 bits, the lowest first. -/
def val : List Int → Int
  | [] => 0
  | x :: xs => x + 18446744073709551616 * val xs
/-- The unit behind n words. -/
def pw : Nat → Int
  | 0 => 1
  | n + 1 => 18446744073709551616 * pw n
/-- Each is a word. -/
def Wd (xs : List Int) : Prop := ∀ x, x ∈ xs → 0 ≤ x ∧ x < 18446744073709551616

theorem pw_pos (n : Nat) : 0 < pw n := by
  induction n with
  | zero => simp [pw]
  | succ n ih => simp only [pw]; omega
theorem pw_add (m n : Nat) : pw (m + n) = pw m * pw n := by
  induction m with
  | zero => simp [pw]
  | succ m ih => rw [Nat.succ_add]; simp only [pw, ih]; grind
theorem pw_mono {m n : Nat} (h : m ≤ n) : pw m ≤ pw n := by
  obtain ⟨k, rfl⟩ := Nat.exists_eq_add_of_le h
  rw [pw_add]
  have h1 := pw_pos m
  have h2 : 1 ≤ pw k := pw_pos k
  have := Int.mul_le_mul_of_nonneg_left h2 (Int.le_of_lt h1)
  omega
theorem Wd.nil : Wd [] := by intro x h; simp at h
theorem Wd.cons {x : Int} {xs : List Int} (h0 : 0 ≤ x) (h1 : x < 18446744073709551616) (h : Wd xs) : Wd (x :: xs) := by
  intro y hy
  rcases List.mem_cons.1 hy with rfl | hy
  · exact ⟨h0, h1⟩
  · exact h y hy
theorem Wd.head {x : Int} {xs : List Int} (h : Wd (x :: xs)) : 0 ≤ x ∧ x < 18446744073709551616 := h x (by simp)
theorem Wd.tail {x : Int} {xs : List Int} (h : Wd (x :: xs)) : Wd xs := fun y hy => h y (by simp [hy])
theorem Wd.append {xs ys : List Int} (h : Wd xs) (k : Wd ys) : Wd (xs ++ ys) := by
  intro y hy
  rcases List.mem_append.1 hy with hy | hy
  · exact h y hy
  · exact k y hy
theorem Wd.left {xs ys : List Int} (h : Wd (xs ++ ys)) : Wd xs := fun y hy => h y (by simp [hy])
theorem Wd.right {xs ys : List Int} (h : Wd (xs ++ ys)) : Wd ys := fun y hy => h y (by simp [hy])
theorem Wd.take {xs : List Int} (h : Wd xs) (n : Nat) : Wd (xs.take n) := fun y hy => h y (List.mem_of_mem_take hy)
theorem Wd.drop {xs : List Int} (h : Wd xs) (n : Nat) : Wd (xs.drop n) := fun y hy => h y (List.mem_of_mem_drop hy)
theorem Wd.set {xs : List Int} (h : Wd xs) (n : Nat) {v : Int} (h0 : 0 ≤ v) (h1 : v < 18446744073709551616) : Wd (xs.set n v) := by
  intro y hy
  rcases List.mem_or_eq_of_mem_set hy with hy | rfl
  · exact h y hy
  · exact ⟨h0, h1⟩
theorem Wd.zeros (n : Nat) : Wd (List.replicate n 0) := by
  intro y hy; have := List.eq_of_mem_replicate hy; omega
theorem Wd.get {xs : List Int} (h : Wd xs) (i : Nat) : 0 ≤ xs.getD i 0 ∧ xs.getD i 0 < 18446744073709551616 := by
  by_cases hi : i < xs.length
  · simp only [List.getD_eq_getElem?_getD, List.getElem?_eq_getElem hi, Option.getD_some]; exact h _ (List.getElem_mem hi)
  · simp [List.getD_eq_getElem?_getD, List.getElem?_eq_none (Nat.le_of_not_lt hi)]

theorem val_append (xs ys : List Int) : val (xs ++ ys) = val xs + pw xs.length * val ys := by
  induction xs with
  | nil => simp [val, pw]
  | cons x xs ih => simp only [List.cons_append, val, ih, List.length_cons, pw]; grind
theorem val_nonneg {xs : List Int} (h : Wd xs) : 0 ≤ val xs := by
  induction xs with
  | nil => simp [val]
  | cons x xs ih => have := ih h.tail; have := h.head; simp only [val]; omega
theorem val_lt {xs : List Int} (h : Wd xs) : val xs < pw xs.length := by
  induction xs with
  | nil => simp [val, pw]
  | cons x xs ih => have := ih h.tail; have := h.head; simp only [val, List.length_cons, pw]; omega
theorem val_zeros (n : Nat) : val (List.replicate n 0) = 0 := by
  induction n with
  | zero => rfl
  | succ n ih => simp [List.replicate_succ, val, ih]
theorem val_split (xs : List Int) (n : Nat) (h : n ≤ xs.length) : val xs = val (xs.take n) + pw n * val (xs.drop n) := by
  conv => lhs; rw [← List.take_append_drop n xs]
  rw [val_append, List.length_take, Nat.min_eq_left h]
theorem take_succ_getD (xs : List Int) (k : Nat) (h : k < xs.length) : xs.take (k + 1) = xs.take k ++ [xs.getD k 0] := by
  rw [List.take_succ_eq_append_getElem h]; simp [List.getD_eq_getElem?_getD, List.getElem?_eq_getElem h]
theorem drop_getD (xs : List Int) (k : Nat) (h : k < xs.length) : xs.drop k = xs.getD k 0 :: xs.drop (k + 1) := by
  rw [List.drop_eq_getElem_cons h]; simp [List.getD_eq_getElem?_getD, List.getElem?_eq_getElem h]
theorem val_take_succ (xs : List Int) (k : Nat) (h : k < xs.length) : val (xs.take (k + 1)) = val (xs.take k) + pw k * xs.getD k 0 := by
  rw [take_succ_getD xs k h, val_append, List.length_take, Nat.min_eq_left (Nat.le_of_lt h)]; simp [val]
theorem take_set_succ (xs : List Int) (k : Nat) (v : Int) (h : k < xs.length) : (xs.set k v).take (k + 1) = xs.take k ++ [v] := by
  rw [take_succ_getD _ k (by simpa using h)]
  congr 1
  · rw [List.take_set]; exact List.set_eq_of_length_le (by simp; omega)
  · simp [List.getD_eq_getElem?_getD, h]
theorem drop_set_succ (xs : List Int) (k : Nat) (v : Int) : (xs.set k v).drop (k + 1) = xs.drop (k + 1) := by
  rw [List.drop_set_of_lt (by omega)]
/-- No nought at the high end. -/
def Nm (xs : List Int) : Prop := xs = [] ∨ xs.getD (xs.length - 1) 0 ≠ 0
theorem Nm.nil : Nm [] := Or.inl rfl
theorem val_low {xs : List Int} (h : Wd xs) (n : Nm xs) (ne : xs ≠ []) : pw (xs.length - 1) ≤ val xs := by
  have hl : 0 < xs.length := by cases xs with | nil => exact absurd rfl ne | cons => simp
  have e := val_split xs (xs.length - 1) (by omega)
  rw [drop_getD xs _ (by omega), Nat.sub_add_cancel hl, List.drop_length] at e
  rcases n with n | n
  · exact absurd n ne
  · have h1 := (h.get (xs.length - 1)).1
    have h2 := val_nonneg (h.take (xs.length - 1))
    have h3 := Int.mul_le_mul_of_nonneg_left (show 1 ≤ xs.getD (xs.length - 1) 0 by omega) (Int.le_of_lt (pw_pos (xs.length - 1)))
    simp only [val, Int.mul_zero, Int.add_zero] at e
    omega
theorem pw_lt {m n : Nat} (h : m < n) : pw m < pw n := by
  have := pw_mono (show m + 1 ≤ n from h); have := pw_pos m; simp only [pw] at *; omega
/-- More words, a greater number. -/
theorem val_lt_of_length {xs ys : List Int} (h : Wd xs) (k : Wd ys) (n : Nm ys) (hl : xs.length < ys.length) : val xs < val ys := by
  have h1 := val_lt h
  have h2 := val_low k n (by intro e; simp [e] at hl)
  have h3 := pw_mono (show xs.length ≤ ys.length - 1 by omega)
  omega
theorem val_eq_zero {xs : List Int} (h : Wd xs) (n : Nm xs) : val xs = 0 ↔ xs = [] := by
  constructor
  · intro e
    by_cases ne : xs = []
    · exact ne
    · have := val_low h n ne; have := pw_pos (xs.length - 1); omega
  · rintro rfl; rfl
/-- A number has one row of words. -/
theorem val_inj {xs : List Int} : ∀ {ys : List Int}, Wd xs → Wd ys → xs.length = ys.length → val xs = val ys → xs = ys := by
  induction xs with
  | nil => intro ys _ _ hl _; cases ys with | nil => rfl | cons => simp at hl
  | cons x xs ih =>
    intro ys h k hl e
    cases ys with
    | nil => simp at hl
    | cons y ys =>
      have := h.head; have := k.head
      simp only [val] at e
      have e1 : x = y := by omega
      have e2 : val xs = val ys := by omega
      rw [e1, ih h.tail k.tail (by simpa using hl) e2]
theorem val_inj_nm {xs ys : List Int} (h : Wd xs) (k : Wd ys) (m : Nm xs) (n : Nm ys) (e : val xs = val ys) : xs = ys := by
  refine val_inj h k ?_ e
  rcases Nat.lt_trichotomy xs.length ys.length with l | l | l
  · have := val_lt_of_length h k n l; omega
  · exact l
  · have := val_lt_of_length k h m l; omega
end Tn
