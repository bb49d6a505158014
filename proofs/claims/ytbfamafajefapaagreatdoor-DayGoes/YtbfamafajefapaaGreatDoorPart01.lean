import Derived.Test.YtbfamafajefapaaGreatDoorProg

/- Plain: the calendar's numbers; no Go here. -/
namespace Go.Proofs.YtbfamafajefapaaGreatDoor.Dy
def lp (y : Int) : Bool := (decide (y % 4 = 0) && !decide (y % 100 = 0)) || decide (y % 400 = 0)
def ml (l : Bool) (m : Int) : Int := if m = 2 then (if l then 29 else 28) else if m = 4 ∨ m = 6 ∨ m = 9 ∨ m = 11 then 30 else 31
def cu (l : Bool) (m : Int) : Int :=
  if m ≤ 1 then 0 else if m = 2 then 31 else
  (if m = 3 then 59 else if m = 4 then 90 else if m = 5 then 120 else if m = 6 then 151 else if m = 7 then 181 else if m = 8 then 212 else if m = 9 then 243 else if m = 10 then 273 else if m = 11 then 304 else if m = 12 then 334 else 365) + (if l then 1 else 0)
def sz (l : Bool) : Int := if l then 366 else 365
def hd (y : Int) : Int := 365 * (y - 1) + (y - 1) / 4 - (y - 1) / 100 + (y - 1) / 400
theorem hd_succ (y : Int) : hd (y + 1) = hd y + sz (lp y) := by
  unfold hd sz lp
  by_cases h4 : y % 4 = 0 <;> by_cases h1 : y % 100 = 0 <;> by_cases h0 : y % 400 = 0 <;> simp [h4, h1, h0] <;> omega
theorem twelve {m : Int} (h1 : 1 ≤ m) (h2 : m ≤ 12) : m = 1 ∨ m = 2 ∨ m = 3 ∨ m = 4 ∨ m = 5 ∨ m = 6 ∨ m = 7 ∨ m = 8 ∨ m = 9 ∨ m = 10 ∨ m = 11 ∨ m = 12 := by omega
theorem cu_succ (l : Bool) {m : Int} (h1 : 1 ≤ m) (h2 : m ≤ 12) : cu l (m + 1) = cu l m + ml l m := by
  rcases twelve h1 h2 with rfl | rfl | rfl | rfl | rfl | rfl | rfl | rfl | rfl | rfl | rfl | rfl <;> cases l <;> decide
theorem cu_end (l : Bool) : cu l 13 = sz l := by cases l <;> decide
theorem cu_one (l : Bool) : cu l 1 = 0 := by cases l <;> decide
theorem ml_bd (l : Bool) (m : Int) : 28 ≤ ml l m ∧ ml l m ≤ 31 := by
  unfold ml; split
  · cases l <;> decide
  · split <;> decide
/-- Days ahead of the k-th month. -/
def mn (k : Int) : Int := hd (k / 12 + 1) + cu (lp (k / 12 + 1)) (k % 12 + 1)
def mk (k : Int) : Int := ml (lp (k / 12 + 1)) (k % 12 + 1)
theorem mk_bd (k : Int) : 28 ≤ mk k ∧ mk k ≤ 31 := ml_bd _ _
theorem mn_succ (k : Int) : mn (k + 1) = mn k + mk k := by
  unfold mn mk
  by_cases h : k % 12 = 11
  · have e1 : (k + 1) / 12 + 1 = (k / 12 + 1) + 1 := by omega
    have e2 : (k + 1) % 12 + 1 = 1 := by omega
    rw [e1, e2, cu_one, hd_succ, h]
    have c1 : cu (lp (k / 12 + 1)) 13 = _ := cu_succ (lp (k / 12 + 1)) (m := 12) (by omega) (by omega)
    have c2 := cu_end (lp (k / 12 + 1))
    show _ = _ + cu (lp (k / 12 + 1)) 12 + ml (lp (k / 12 + 1)) 12
    omega
  · have e1 : (k + 1) / 12 = k / 12 := by omega
    have e2 : (k + 1) % 12 + 1 = (k % 12 + 1) + 1 := by omega
    rw [e1, e2, cu_succ _ (by omega) (by omega)]
    omega
theorem mn_add (j : Int) (n : Nat) : mn j + mk j ≤ mn (j + (n + 1 : Nat)) := by
  induction n with
  | zero => have := mn_succ j; show _ ≤ mn (j + 1); omega
  | succ n ih =>
    have e : j + ((n + 1 + 1 : Nat) : Int) = (j + ((n + 1 : Nat) : Int)) + 1 := by omega
    rw [e, mn_succ]
    have := mk_bd (j + ((n + 1 : Nat) : Int))
    omega
theorem mn_lt {j k : Int} (h : j < k) : mn j + mk j ≤ mn k := by
  have := mn_add j (k - j - 1).toNat
  have e : j + (((k - j - 1).toNat + 1 : Nat) : Int) = k := by omega
  rwa [e] at this
/-- The number of the date n months on. -/
def nu (k d : Int) : Int := mn k + min d (mk k)
def mp (j d k e : Int) : Int := if min d (mk k) > e then k - j - 1 else k - j
theorem mp_iff {j d k e n : Int} (hd : 1 ≤ d) (he : 1 ≤ e) (hk : e ≤ mk k) : nu (j + n) d ≤ mn k + e ↔ n ≤ mp j d k e := by
  unfold nu mp
  have b := mk_bd (j + n)
  rcases Int.lt_trichotomy (j + n) k with h | h | h
  · have := mn_lt h
    constructor
    · intro _; split <;> omega
    · intro _; omega
  · rw [h]; split <;> omega
  · have := mn_lt h
    constructor
    · intro _; omega
    · intro h; split at h <;> omega

/-- The month of a date, from the calendar's beginning on. -/
def mo (y m : Int) : Int := 12 * (y - 1) + (m - 1)
theorem mo_y {y m : Int} (h1 : 1 ≤ m) (h2 : m ≤ 12) : mo y m / 12 + 1 = y := by unfold mo; omega
theorem mo_m {y m : Int} (h1 : 1 ≤ m) (h2 : m ≤ 12) : mo y m % 12 + 1 = m := by unfold mo; omega
theorem mn_mo {y m : Int} (h1 : 1 ≤ m) (h2 : m ≤ 12) : mn (mo y m) = hd y + cu (lp y) m := by unfold mn; rw [mo_y h1 h2, mo_m h1 h2]
theorem mk_mo {y m : Int} (h1 : 1 ≤ m) (h2 : m ≤ 12) : mk (mo y m) = ml (lp y) m := by unfold mk; rw [mo_y h1 h2, mo_m h1 h2]
/-- A right date. -/
def good (y m d : Int) : Bool := decide (1 ≤ y ∧ y ≤ 9999 ∧ 1 ≤ m ∧ m ≤ 12 ∧ 1 ≤ d ∧ d ≤ ml (lp y) m)
theorem good_iff {y m d : Int} : good y m d = true ↔ 1 ≤ y ∧ y ≤ 9999 ∧ 1 ≤ m ∧ m ≤ 12 ∧ 1 ≤ d ∧ d ≤ ml (lp y) m := by simp [good]
/-- The number of a date. -/
def num (y m d : Int) : Int := hd y + cu (lp y) m + d
theorem num_mo {y m d : Int} (h1 : 1 ≤ m) (h2 : m ≤ 12) : num y m d = mn (mo y m) + d := by rw [mn_mo h1 h2]; rfl
theorem hd_bd {y : Int} (h : 1 ≤ y) : 365 * (y - 1) ≤ hd y ∧ hd y ≤ 366 * (y - 1) := by unfold hd; omega
theorem cu_bd (l : Bool) {m : Int} (h1 : 1 ≤ m) (h2 : m ≤ 12) : 0 ≤ cu l m ∧ cu l m + ml l m ≤ sz l := by
  rcases twelve h1 h2 with rfl | rfl | rfl | rfl | rfl | rfl | rfl | rfl | rfl | rfl | rfl | rfl <;> cases l <;> decide
/-- A number has one date at most. -/
theorem mn_inj {j d k e : Int} (h1 : 1 ≤ d) (h2 : d ≤ mk j) (h3 : 1 ≤ e) (h4 : e ≤ mk k) (h : mn j + d = mn k + e) : j = k ∧ d = e := by
  rcases Int.lt_trichotomy j k with g | g | g
  · have := mn_lt g; omega
  · subst g; exact ⟨rfl, by omega⟩
  · have := mn_lt g; omega
theorem num_inj {y m d y' m' d' : Int} (h : good y m d = true) (h' : good y' m' d' = true) (e : num y m d = num y' m' d') : y = y' ∧ m = m' ∧ d = d' := by
  obtain ⟨a1, a2, a3, a4, a5, a6⟩ := good_iff.1 h
  obtain ⟨b1, b2, b3, b4, b5, b6⟩ := good_iff.1 h'
  rw [num_mo a3 a4, num_mo b3 b4] at e
  obtain ⟨f, g⟩ := mn_inj a5 (by rw [mk_mo a3 a4]; exact a6) b5 (by rw [mk_mo b3 b4]; exact b6) e
  refine ⟨?_, ?_, g⟩ <;> unfold mo at f <;> omega
theorem sz_bd (l : Bool) : sz l = 365 ∨ sz l = 366 := by cases l <;> decide
theorem num_lo {y m d : Int} (h : good y m d = true) : 1 ≤ num y m d := by
  obtain ⟨a1, a2, a3, a4, a5, a6⟩ := good_iff.1 h
  have := hd_bd a1
  have := cu_bd (lp y) a3 a4
  unfold num; omega
theorem hd_le {y z : Int} (h : y ≤ z) : hd y ≤ hd z := by
  unfold hd; omega
theorem num_hi {y m d : Int} (h : good y m d = true) : num y m d ≤ 3652059 := by
  obtain ⟨a1, a2, a3, a4, a5, a6⟩ := good_iff.1 h
  have e := hd_succ y
  have := cu_bd (lp y) a3 a4
  have g := hd_le (show y + 1 ≤ 10000 by omega)
  have : hd 10000 = 3652059 := by decide
  unfold num; omega
end Go.Proofs.YtbfamafajefapaaGreatDoor.Dy

namespace Tn
/-- The number of a row of words of 64 bits, the lowest first. -/
def val : List Int → Int
  | [] => 0
  | x :: xs => x + 18446744073709551616 * val xs
/-- The unit behind n words. -/
def pw : Nat → Int
  | 0 => 1
  | n + 1 => 18446744073709551616 * pw n
/-- Each is a word. -/
def Wd (xs : List Int) : Prop := ∀ x, x ∈ xs → 0 ≤ x ∧ x < 18446744073709551616

theorem pw_pos (n : Nat) : 0 < pw n := by
  induction n with
  | zero => simp [pw]
  | succ n ih => simp only [pw]; omega
theorem pw_add (m n : Nat) : pw (m + n) = pw m * pw n := by
  induction m with
  | zero => simp [pw]
  | succ m ih => rw [Nat.succ_add]; simp only [pw, ih]; grind
theorem pw_mono {m n : Nat} (h : m ≤ n) : pw m ≤ pw n := by
  obtain ⟨k, rfl⟩ := Nat.exists_eq_add_of_le h
  rw [pw_add]
  have h1 := pw_pos m
  have h2 : 1 ≤ pw k := pw_pos k
  have := Int.mul_le_mul_of_nonneg_left h2 (Int.le_of_lt h1)
  omega
theorem Wd.nil : Wd [] := by intro x h; simp at h
theorem Wd.cons {x : Int} {xs : List Int} (h0 : 0 ≤ x) (h1 : x < 18446744073709551616) (h : Wd xs) : Wd (x :: xs) := by
  intro y hy
  rcases List.mem_cons.1 hy with rfl | hy
  · exact ⟨h0, h1⟩
  · exact h y hy
theorem Wd.head {x : Int} {xs : List Int} (h : Wd (x :: xs)) : 0 ≤ x ∧ x < 18446744073709551616 := h x (by simp)
theorem Wd.tail {x : Int} {xs : List Int} (h : Wd (x :: xs)) : Wd xs := fun y hy => h y (by simp [hy])
theorem Wd.append {xs ys : List Int} (h : Wd xs) (k : Wd ys) : Wd (xs ++ ys) := by
  intro y hy
  rcases List.mem_append.1 hy with hy | hy
  · exact h y hy
  · exact k y hy
theorem Wd.left {xs ys : List Int} (h : Wd (xs ++ ys)) : Wd xs := fun y hy => h y (by simp [hy])
theorem Wd.right {xs ys : List Int} (h : Wd (xs ++ ys)) : Wd ys := fun y hy => h y (by simp [hy])
theorem Wd.take {xs : List Int} (h : Wd xs) (n : Nat) : Wd (xs.take n) := fun y hy => h y (List.mem_of_mem_take hy)
theorem Wd.drop {xs : List Int} (h : Wd xs) (n : Nat) : Wd (xs.drop n) := fun y hy => h y (List.mem_of_mem_drop hy)
theorem Wd.set {xs : List Int} (h : Wd xs) (n : Nat) {v : Int} (h0 : 0 ≤ v) (h1 : v < 18446744073709551616) : Wd (xs.set n v) := by
  intro y hy
  rcases List.mem_or_eq_of_mem_set hy with hy | rfl
  · exact h y hy
  · exact ⟨h0, h1⟩
theorem Wd.zeros (n : Nat) : Wd (List.replicate n 0) := by
  intro y hy; have := List.eq_of_mem_replicate hy; omega
theorem Wd.get {xs : List Int} (h : Wd xs) (i : Nat) : 0 ≤ xs.getD i 0 ∧ xs.getD i 0 < 18446744073709551616 := by
  by_cases hi : i < xs.length
  · simp only [List.getD_eq_getElem?_getD, List.getElem?_eq_getElem hi, Option.getD_some]; exact h _ (List.getElem_mem hi)
  · simp [List.getD_eq_getElem?_getD, List.getElem?_eq_none (Nat.le_of_not_lt hi)]

theorem val_append (xs ys : List Int) : val (xs ++ ys) = val xs + pw xs.length * val ys := by
  induction xs with
  | nil => simp [val, pw]
  | cons x xs ih => simp only [List.cons_append, val, ih, List.length_cons, pw]; grind
theorem val_nonneg {xs : List Int} (h : Wd xs) : 0 ≤ val xs := by
  induction xs with
  | nil => simp [val]
  | cons x xs ih => have := ih h.tail; have := h.head; simp only [val]; omega
theorem val_lt {xs : List Int} (h : Wd xs) : val xs < pw xs.length := by
  induction xs with
  | nil => simp [val, pw]
  | cons x xs ih => have := ih h.tail; have := h.head; simp only [val, List.length_cons, pw]; omega
theorem val_zeros (n : Nat) : val (List.replicate n 0) = 0 := by
  induction n with
  | zero => rfl
  | succ n ih => simp [List.replicate_succ, val, ih]
theorem val_split (xs : List Int) (n : Nat) (h : n ≤ xs.length) : val xs = val (xs.take n) + pw n * val (xs.drop n) := by
  conv => lhs; rw [← List.take_append_drop n xs]
  rw [val_append, List.length_take, Nat.min_eq_left h]
theorem take_succ_getD (xs : List Int) (k : Nat) (h : k < xs.length) : xs.take (k + 1) = xs.take k ++ [xs.getD k 0] := by
  rw [List.take_succ_eq_append_getElem h]; simp [List.getD_eq_getElem?_getD, List.getElem?_eq_getElem h]
theorem drop_getD (xs : List Int) (k : Nat) (h : k < xs.length) : xs.drop k = xs.getD k 0 :: xs.drop (k + 1) := by
  rw [List.drop_eq_getElem_cons h]; simp [List.getD_eq_getElem?_getD, List.getElem?_eq_getElem h]
theorem val_take_succ (xs : List Int) (k : Nat) (h : k < xs.length) : val (xs.take (k + 1)) = val (xs.take k) + pw k * xs.getD k 0 := by
  rw [take_succ_getD xs k h, val_append, List.length_take, Nat.min_eq_left (Nat.le_of_lt h)]; simp [val]
theorem take_set_succ (xs : List Int) (k : Nat) (v : Int) (h : k < xs.length) : (xs.set k v).take (k + 1) = xs.take k ++ [v] := by
  rw [take_succ_getD _ k (by simpa using h)]
  congr 1
  · rw [List.take_set]; exact List.set_eq_of_length_le (by simp; omega)
  · simp [List.getD_eq_getElem?_getD, h]
theorem drop_set_succ (xs : List Int) (k : Nat) (v : Int) : (xs.set k v).drop (k + 1) = xs.drop (k + 1) := by
  rw [List.drop_set_of_lt (by omega)]
/-- No nought at the high end. -/
def Nm (xs : List Int) : Prop := xs = [] ∨ xs.getD (xs.length - 1) 0 ≠ 0
theorem Nm.nil : Nm [] := Or.inl rfl
theorem val_low {xs : List Int} (h : Wd xs) (n : Nm xs) (ne : xs ≠ []) : pw (xs.length - 1) ≤ val xs := by
  have hl : 0 < xs.length := by cases xs with | nil => exact absurd rfl ne | cons => simp
  have e := val_split xs (xs.length - 1) (by omega)
  rw [drop_getD xs _ (by omega), Nat.sub_add_cancel hl, List.drop_length] at e
  rcases n with n | n
  · exact absurd n ne
  · have h1 := (h.get (xs.length - 1)).1
    have h2 := val_nonneg (h.take (xs.length - 1))
    have h3 := Int.mul_le_mul_of_nonneg_left (show 1 ≤ xs.getD (xs.length - 1) 0 by omega) (Int.le_of_lt (pw_pos (xs.length - 1)))
    simp only [val, Int.mul_zero, Int.add_zero] at e
    omega
theorem pw_lt {m n : Nat} (h : m < n) : pw m < pw n := by
  have := pw_mono (show m + 1 ≤ n from h); have := pw_pos m; simp only [pw] at *; omega
/-- More words, a greater number. -/
theorem val_lt_of_length {xs ys : List Int} (h : Wd xs) (k : Wd ys) (n : Nm ys) (hl : xs.length < ys.length) : val xs < val ys := by
  have h1 := val_lt h
  have h2 := val_low k n (by intro e; simp [e] at hl)
  have h3 := pw_mono (show xs.length ≤ ys.length - 1 by omega)
  omega
theorem val_eq_zero {xs : List Int} (h : Wd xs) (n : Nm xs) : val xs = 0 ↔ xs = [] := by
  constructor
  · intro e
    by_cases ne : xs = []
    · exact ne
    · have := val_low h n ne; have := pw_pos (xs.length - 1); omega
  · rintro rfl; rfl
/-- A number has one row of words. -/
theorem val_inj {xs : List Int} : ∀ {ys : List Int}, Wd xs → Wd ys → xs.length = ys.length → val xs = val ys → xs = ys := by
  induction xs with
  | nil => intro ys _ _ hl _; cases ys with | nil => rfl | cons => simp at hl
  | cons x xs ih =>
    intro ys h k hl e
    cases ys with
    | nil => simp at hl
    | cons y ys =>
      have := h.head; have := k.head
      simp only [val] at e
      have e1 : x = y := by omega
      have e2 : val xs = val ys := by omega
      rw [e1, ih h.tail k.tail (by simpa using hl) e2]
theorem val_inj_nm {xs ys : List Int} (h : Wd xs) (k : Wd ys) (m : Nm xs) (n : Nm ys) (e : val xs = val ys) : xs = ys := by
  refine val_inj h k ?_ e
  rcases Nat.lt_trichotomy xs.length ys.length with l | l | l
  · have := val_lt_of_length h k n l; omega
  · exact l
  · have := val_lt_of_length k h m l; omega
end Tn
