import Derived.Test.YthadighbhdekdaaDoorB12
namespace Go.Proofs.YthadighbhdekdaaDoor.L
open Go.RowKit Tl

theorem bits_mask (S : Int) (r : Nat) (hr : r < 30) (h0 : 0 ≤ S) (h1 : S ≤ 576460752303423488) : bits .and .i64 S (2 ^ r - 1) = S % 2 ^ r := by
  obtain ⟨a, rfl⟩ := Int.eq_ofNat_of_zero_le h0
  have hp : 2 ^ r ≤ 2 ^ 29 := Nat.pow_le_pow_right (by decide) (by omega)
  have hp0 : 0 < 2 ^ r := Nat.two_pow_pos r
  have e : (2 : Int) ^ r - 1 = ((2 ^ r - 1 : Nat) : Int) := by
    have e : ((2 ^ r : Nat) : Int) = (2 : Int) ^ r := by simp
    omega
  have a1 : (BitVec.ofInt 64 ((a : Nat) : Int)).toNat = a := by
    rw [BitVec.ofInt_natCast, BitVec.toNat_ofNat]; exact Nat.mod_eq_of_lt (by omega)
  have a2 : (BitVec.ofInt 64 ((2 ^ r - 1 : Nat) : Int)).toNat = 2 ^ r - 1 := by
    rw [BitVec.ofInt_natCast, BitVec.toNat_ofNat]; exact Nat.mod_eq_of_lt (by omega)
  rw [e]
  show IntKind.i64.wrap ((BitVec.ofInt 64 ((a : Nat) : Int) &&& BitVec.ofInt 64 ((2 ^ r - 1 : Nat) : Int)).toNat : Int) = _
  rw [BitVec.toNat_and, a1, a2, Nat.and_two_pow_sub_one_eq_mod]
  have hm := Nat.mod_lt a hp0
  rw [wrap_self _ (by omega) (by omega)]
  simp
/-- What is thrown away counts for nothing. -/
theorem shr_val {xs X : List Int} {n q r : Nat} {cy : Int} (hx : Wd xs) (hq : q < xs.length) (en : n = 30 * q + r) (c0 : 0 ≤ cy) (c1 : cy < 2 ^ r) (h : val X * 2 ^ r + cy = val (xs.drop q)) : val X = val xs / 2 ^ n := by
  have p0 : (0 : Int) < 2 ^ r := Int.pow_pos (by decide)
  have e1 := val_split xs q (by omega)
  have t0 := val_nonneg (hx.take q)
  have t1 := val_lt (hx.take q)
  rw [List.length_take, Nat.min_eq_left (by omega)] at t1
  have pq := pw_pos q
  have e2 : val xs / pw q = val (xs.drop q) := by
    rw [e1, Int.add_mul_ediv_left _ _ (by omega), Int.ediv_eq_zero_of_lt t0 t1]; omega
  have e3 : val (xs.drop q) / 2 ^ r = val X := by
    rw [← h, Int.add_comm, Int.add_mul_ediv_right _ _ (by omega), Int.ediv_eq_zero_of_lt c0 c1]; omega
  rw [en, Int.pow_add, ← pw_two, ← Int.ediv_ediv_of_nonneg (Int.le_of_lt pq), e2, e3]
end Go.Proofs.YthadighbhdekdaaDoor.L
