/- Plain: texts of dates are in the order of their dates. -/
import Derived.Test.YthadighbhdekdaaDoorDt2
namespace Go.Proofs.YthadighbhdekdaaDoor.Dt
open Go Go.Lib Go.Proofs.YthadighbhdekdaaDoor.Dy
theorem dgt_lt {a b : Nat} (ha : a < 10) (hb : b < 10) : (UInt8.ofNat (48 + a) < UInt8.ofNat (48 + b)) ↔ a < b := by
  rw [UInt8.lt_iff_toNat_lt]
  simp
  omega
theorem dgt_eq {a b : Nat} (ha : a < 10) (hb : b < 10) : (UInt8.ofNat (48 + a) = UInt8.ofNat (48 + b)) ↔ a = b := by
  rw [← UInt8.toNat_inj]
  simp
  omega
theorem less_cons {a b : Nat} (ha : a < 10) (hb : b < 10) (x y : List UInt8) : Op.bytesLess (UInt8.ofNat (48 + a) :: x) (UInt8.ofNat (48 + b) :: y) = (decide (a < b) || (decide (a = b) && Op.bytesLess x y)) := by
  rw [Op.bytesLess]
  congr 1
  · rw [Bool.eq_iff_iff]; simp only [decide_eq_true_iff]; exact dgt_lt ha hb
  · congr 1
    rw [Bool.eq_iff_iff, beq_iff_eq, decide_eq_true_iff]; exact dgt_eq ha hb
theorem less_same (c : UInt8) (x y : List UInt8) : Op.bytesLess (c :: x) (c :: y) = Op.bytesLess x y := by
  rw [Op.bytesLess]; simp
theorem less4 {n k : Nat} (hk : k < 10000) (h : n < k) (x y : List UInt8) : Op.bytesLess (pad4 n ++ x) (pad4 k ++ y) = true := by
  unfold pad4
  simp only [List.cons_append, List.nil_append]
  rw [less_cons (by omega) (by omega), less_cons (by omega) (by omega), less_cons (by omega) (by omega), less_cons (by omega) (by omega)]
  simp only [Bool.or_eq_true, Bool.and_eq_true, decide_eq_true_iff]
  have dn : n = 1000 * (n / 1000 % 10) + 100 * (n / 100 % 10) + 10 * (n / 10 % 10) + n % 10 := by omega
  have dk : k = 1000 * (k / 1000 % 10) + 100 * (k / 100 % 10) + 10 * (k / 10 % 10) + k % 10 := by omega
  have b1 : n / 100 % 10 < 10 := by omega
  have b2 : n / 10 % 10 < 10 := by omega
  have b3 : n % 10 < 10 := by omega
  have b4 : k / 100 % 10 < 10 := by omega
  have b5 : k / 10 % 10 < 10 := by omega
  have b6 : k % 10 < 10 := by omega
  generalize n / 1000 % 10 = n3 at *
  generalize n / 100 % 10 = n2 at *
  generalize n / 10 % 10 = n1 at *
  generalize n % 10 = n0 at *
  generalize k / 1000 % 10 = k3 at *
  generalize k / 100 % 10 = k2 at *
  generalize k / 10 % 10 = k1 at *
  generalize k % 10 = k0 at *
  omega
theorem same4 (n : Nat) (x y : List UInt8) : Op.bytesLess (pad4 n ++ x) (pad4 n ++ y) = Op.bytesLess x y := by
  unfold pad4
  simp only [List.cons_append, List.nil_append, less_same]
theorem less2 {n k : Nat} (hk : k < 100) (h : n < k) (x y : List UInt8) : Op.bytesLess (pad2 n ++ x) (pad2 k ++ y) = true := by
  unfold pad2
  simp only [List.cons_append, List.nil_append]
  rw [less_cons (by omega) (by omega), less_cons (by omega) (by omega)]
  simp only [Bool.or_eq_true, Bool.and_eq_true, decide_eq_true_iff]
  omega
theorem same2 (n : Nat) (x y : List UInt8) : Op.bytesLess (pad2 n ++ x) (pad2 n ++ y) = Op.bytesLess x y := by
  unfold pad2
  simp only [List.cons_append, List.nil_append, less_same]
/-- The later date has the greater text. -/
theorem txt_less {y m d u v e : Int} (g : good y m d = true) (k : good u v e = true) (h : num y m d < num u v e) : Op.bytesLess (txt y m d) (txt u v e) = true := by
  obtain ⟨g1, g2, g3, g4, g5, g6⟩ := good_iff.1 g
  obtain ⟨h1, h2, h3, h4, h5, h6⟩ := good_iff.1 k
  have mb := ml_bd (lp u) v
  rw [num_mo g3 g4, num_mo h3 h4] at h
  have key : y < u ∨ (y = u ∧ m < v) ∨ (y = u ∧ m = v ∧ d < e) := by
    rcases Int.lt_trichotomy (mo y m) (mo u v) with c | c | c
    · unfold mo at c; omega
    · rw [c] at h; unfold mo at c; omega
    · have := mn_lt c
      rw [mk_mo h3 h4] at this
      omega
  unfold txt
  simp only [List.append_assoc]
  rcases key with c | ⟨rfl, c⟩ | ⟨rfl, rfl, c⟩
  · exact less4 (by omega) (by omega) _ _
  · rw [same4]
    simp only [List.cons_append, List.nil_append]
    rw [less_same]
    exact less2 (by omega) (by omega) _ _
  · rw [same4]
    simp only [List.cons_append, List.nil_append]
    rw [less_same, same2, less_same]
    have q := less2 (n := d.toNat) (k := e.toNat) (by omega) (by omega) [] []
    simpa using q
end Go.Proofs.YthadighbhdekdaaDoor.Dt
