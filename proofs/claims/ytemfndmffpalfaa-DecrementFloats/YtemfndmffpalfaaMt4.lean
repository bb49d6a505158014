import Derived.Test.YtemfndmffpalfaaDp
namespace Dc
/-- The byte at a place, or 256 behind the end. -/
def bt (s : ByteArray) (i : Nat) : Nat := if h : i < s.size then s[i].toNat else 256
theorem bt_in {s : ByteArray} {i : Nat} (h : i < s.size) : bt s i = s[i].toNat := by simp [bt, h]
theorem bt_out {s : ByteArray} {i : Nat} (h : s.size ≤ i) : bt s i = 256 := by simp [bt, Nat.not_lt.2 h]
theorem bt_lt {s : ByteArray} {i : Nat} (h : i < s.size) : bt s i < 256 := by rw [bt_in h]; exact UInt8.toNat_lt _
theorem lt_of_bt {s : ByteArray} {i : Nat} (h : bt s i ≠ 256) : i < s.size := by
  by_cases c : i < s.size
  · exact c
  · exact absurd (bt_out (by omega)) h
theorem ex_size (s : ByteArray) (a : Nat) : (s.extract a s.size).size = s.size - a := by rw [ByteArray.size_extract]; omega
theorem bt_ex (s : ByteArray) (a k : Nat) : bt (s.extract a s.size) k = bt s (a + k) := by
  by_cases h : a + k < s.size
  · rw [bt_in h, bt_in (by rw [ex_size]; omega), ByteArray.getElem_extract]
  · rw [bt_out (s := s) (by omega), bt_out (by rw [ex_size]; omega)]
/-- Does a digit stand there? -/
def dgt (s : ByteArray) (i : Nat) : Bool := decide (48 ≤ bt s i ∧ bt s i ≤ 57)
theorem dgt_lt {s : ByteArray} {i : Nat} (h : dgt s i = true) : i < s.size := lt_of_bt (by simp [dgt] at h; omega)
theorem dgt_ex (s : ByteArray) (a k : Nat) : dgt (s.extract a s.size) k = dgt s (a + k) := by simp [dgt, bt_ex]
def run (s : ByteArray) (i : Nat) : Nat → Nat
  | 0 => 0
  | f + 1 => if dgt s i = true then run s (i + 1) f + 1 else 0
theorem run_spec (s : ByteArray) (f i : Nat) (h : s.size ≤ i + f) : (∀ j, j < run s i f → dgt s (i + j) = true) ∧ dgt s (i + run s i f) = false := by
  induction f generalizing i with
  | zero =>
    refine ⟨fun j hj => by simp [run] at hj, ?_⟩
    simp only [run, Nat.add_zero, dgt, bt_out (show s.size ≤ i by omega)]
    decide
  | succ f ih =>
    by_cases c : dgt s i = true
    · obtain ⟨a, b⟩ := ih (i + 1) (by omega)
      simp only [run, c, if_true]
      refine ⟨fun j hj => ?_, by rw [← b]; congr 1; omega⟩
      rcases j with _ | j
      · exact c
      · have := a j (by omega)
        rw [← this]; congr 1; omega
    · have c' : dgt s i = false := by simpa using c
      simp [run, c']
/-- How many digits stand from a place on. -/
def nd (s : ByteArray) (i : Nat) : Nat := run s i (s.size - i)
theorem nd_spec (s : ByteArray) (i : Nat) : (∀ j, j < nd s i → dgt s (i + j) = true) ∧ dgt s (i + nd s i) = false := run_spec s _ i (by omega)
theorem nd_eq {s : ByteArray} {i k : Nat} (h1 : ∀ j, j < k → dgt s (i + j) = true) (h2 : dgt s (i + k) = false) : k = nd s i := by
  obtain ⟨a, b⟩ := nd_spec s i
  rcases Nat.lt_trichotomy k (nd s i) with c | c | c
  · have := a k c; rw [this] at h2; cases h2
  · exact c
  · have := h1 _ c; rw [this] at b; cases b
theorem nd_ex (s : ByteArray) (a : Nat) : nd (s.extract a s.size) 0 = nd s a := by
  apply nd_eq
  · intro j hj
    have := (nd_spec (s.extract a s.size) 0).1 j hj
    rwa [Nat.zero_add, dgt_ex] at this
  · have := (nd_spec (s.extract a s.size) 0).2
    rwa [Nat.zero_add, dgt_ex] at this
/-- The sign, where the pounds begin, and where they end. -/
def neg (s : ByteArray) : Bool := decide (bt s 0 = 45)
def fr (s : ByteArray) : Nat := if neg s then 1 else 0
def rest (s : ByteArray) : ByteArray := if neg s then s.extract 1 s.size else s
def tw (s : ByteArray) : Nat := if bt s (fr s) = 48 then fr s + 1 else fr s + nd s (fr s)
theorem ex_all (s : ByteArray) : s.extract 0 s.size = s := by
  apply ByteArray.ext
  simp
theorem rest_ex (s : ByteArray) : rest s = s.extract (fr s) s.size := by
  unfold rest fr
  split
  · rfl
  · rw [ex_all]
theorem fr_le (s : ByteArray) : fr s ≤ s.size := by
  unfold fr
  split
  · rename_i h
    have : bt s 0 = 45 := by simpa [neg] using h
    have := lt_of_bt (s := s) (i := 0) (by omega)
    omega
  · omega
theorem tw_le (s : ByteArray) : tw s ≤ s.size := by
  unfold tw
  split
  · rename_i h
    have := lt_of_bt (s := s) (i := fr s) (by omega)
    omega
  · have a := (nd_spec s (fr s)).1
    have b := fr_le s
    by_cases c : nd s (fr s) = 0
    · omega
    · have := dgt_lt (a (nd s (fr s) - 1) (by omega))
      omega
theorem fr_tw (s : ByteArray) : fr s ≤ tw s := by unfold tw; split <;> omega
theorem tw_dgt (s : ByteArray) (j : Nat) (h1 : fr s ≤ j) (h2 : j < tw s) : dgt s j = true := by
  unfold tw at h2
  split at h2
  · rename_i h
    have : j = fr s := by omega
    rw [this, dgt, h]
    decide
  · have := (nd_spec s (fr s)).1 (j - fr s) (by omega)
    rwa [show fr s + (j - fr s) = j from by omega] at this
/-- Is it -0.00? -/
def nought (s : ByteArray) : Bool := neg s && decide (tw s = fr s + 1) && decide (bt s (fr s) = 48) && decide (bt s (tw s + 1) = 48) && decide (bt s (tw s + 2) = 48)
/-- How far a text is an amount's, and whether it is one. -/
def beg (s : ByteArray) : Nat × Bool :=
  if tw s = fr s ∨ bt s (tw s) ≠ 46 then (tw s, false)
  else if dgt s (tw s + 1) = false then (tw s + 1, false)
  else if dgt s (tw s + 2) = false ∨ nought s = true then (tw s + 2, false)
  else (tw s + 3, decide (tw s + 3 = s.size))
/-- Its digits. -/
def digs (s : ByteArray) : List UInt8 := ((s.data.toList.drop (fr s)).take (tw s - fr s)) ++ s.data.toList.drop (tw s + 1)
/-- What a text is read as: the amount, the place, the error. -/
def readS (s : ByteArray) : Int × Int × Int :=
  if 65536 < s.size then (0, 0, 3)
  else if (beg s).2 = false then (0, ((beg s).1 : Int), 2)
  else if num (digs s) ≤ 1000000000000000 then ((if neg s then -(num (digs s) : Int) else (num (digs s) : Int)), 0, 0) else (0, 0, 6)
end Dc
