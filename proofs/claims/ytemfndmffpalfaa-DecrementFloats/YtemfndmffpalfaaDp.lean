import Derived.Test.YtemfndmffpalfaaTx1
import Derived.Lib.ParseIntB
namespace Dc
open Go Go.Lib
/-- A byte that is a decimal digit. -/
def Dg (b : UInt8) : Prop := 48 ≤ b.toNat ∧ b.toNat ≤ 57
theorem num_take (l : List UInt8) (k : Nat) (h : k < l.length) : num (l.take (k + 1)) = num (l.take k) * 10 + ((l[k]).toNat - 48) := by
  rw [List.take_add_one, num_append]
  simp [List.getElem?_eq_getElem h, num_single]
theorem num_lt_take (l : List UInt8) (h : ∀ c ∈ l, Dg c) (k : Nat) (hk : k ≤ l.length) : num (l.take k) < 10 ^ k := by
  induction k with
  | zero => simp [num]
  | succ k ih =>
    have a := ih (by omega)
    have b := h l[k] (List.getElem_mem _)
    unfold Dg at b
    rw [num_take l k (by omega), Nat.pow_succ]
    omega
theorem num_lt (l : List UInt8) (h : ∀ c ∈ l, Dg c) : num l < 10 ^ l.length := by
  have := num_lt_take l h l.length (Nat.le_refl _)
  rwa [List.take_length] at this
theorem at_list (s : ByteArray) (k : Nat) (h : k < s.size) : s[k] = s.data.toList[k]'(by simpa using h) := rfl
theorem num_cons (c : UInt8) (r : List UInt8) : num (c :: r) = (c.toNat - 48) * 10 ^ r.length + num r := by
  have := num_append [c] r
  rw [num_single] at this
  exact this
/-- strconv.ParseUint of at most nineteen digits. -/
theorem parse19 (l : List UInt8) (h : ∀ c ∈ l, Dg c) (acc k : Nat) (ha : acc < 10 ^ k) (hk : k + l.length ≤ 19) : Go.Lib.parseUintM (2 ^ 64 - 1) acc l = .ok (acc * 10 ^ l.length + num l) := by
  induction l generalizing acc k with
  | nil => simp [Go.Lib.parseUintM, num]
  | cons c r ih =>
    have hc := h c (by simp)
    unfold Dg at hc
    rw [List.length_cons] at hk
    have p : 10 ^ k ≤ 10 ^ 18 := Nat.pow_le_pow_right (by decide) (by omega)
    have e18 : (10 : Nat) ^ 18 = 1000000000000000000 := by decide
    have e64 : (2 : Nat) ^ 64 - 1 = 18446744073709551615 := by decide
    have step := ih (fun c hc => h c (by simp [hc])) (acc * 10 + (c.toNat - 48)) (k + 1) (by rw [Nat.pow_succ]; omega) (by omega)
    rw [Go.Lib.parseUintM, if_pos hc, if_neg (by omega), if_neg (by rw [e64]; omega), step, num_cons, List.length_cons, Nat.pow_succ]
    congr 1
    grind
theorem parse19B (l : List UInt8) (h : ∀ c ∈ l, Dg c) (ne : l ≠ []) (hk : l.length ≤ 19) : Go.Lib.parseUintB 64 l = .ok (num l) := by
  unfold Go.Lib.parseUintB
  rw [if_neg ne, parse19 l h 0 0 (by decide) (by omega)]
  simp
end Dc
