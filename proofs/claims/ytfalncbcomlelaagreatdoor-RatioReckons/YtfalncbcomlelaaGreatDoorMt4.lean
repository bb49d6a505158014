import Derived.Test.YtfalncbcomlelaaGreatDoorDp
namespace Dc
/-- The byte at a place, or 256 behind the end. -/
def bt (s : ByteArray) (i : Nat) : Nat := if h : i < s.size then s[i].toNat else 256
theorem bt_in {s : ByteArray} {i : Nat} (h : i < s.size) : bt s i = s[i].toNat := by simp [bt, h]
theorem bt_out {s : ByteArray} {i : Nat} (h : s.size ≤ i) : bt s i = 256 := by simp [bt, Nat.not_lt.2 h]
theorem ex_size (s : ByteArray) (a : Nat) : (s.extract a s.size).size = s.size - a := by rw [ByteArray.size_extract]; omega
/-- Does a digit stand there? -/
def dgt (s : ByteArray) (i : Nat) : Bool := decide (48 ≤ bt s i ∧ bt s i ≤ 57)
def run (s : ByteArray) (i : Nat) : Nat → Nat
  | 0 => 0
  | f + 1 => if dgt s i = true then run s (i + 1) f + 1 else 0
/-- How many digits stand from a place on. -/
def nd (s : ByteArray) (i : Nat) : Nat := run s i (s.size - i)
/-- The sign, where the pounds begin, and where they end. -/
def neg (s : ByteArray) : Bool := decide (bt s 0 = 45)
def fr (s : ByteArray) : Nat := if neg s then 1 else 0
def rest (s : ByteArray) : ByteArray := if neg s then s.extract 1 s.size else s
theorem ex_all (s : ByteArray) : s.extract 0 s.size = s := by
  apply ByteArray.ext
  simp
theorem rest_ex (s : ByteArray) : rest s = s.extract (fr s) s.size := by
  unfold rest fr
  split
  · rfl
  · rw [ex_all]
end Dc
