import Derived.Test.YtebilgnmnambnaaGreatDoorPart18

namespace Go.Proofs.YtebilgnmnambnaaGreatDoor
open Go.RowKit Tn
structure Long (X Q D : List Int) (N : Int) (j : Nat) : Prop where
 lenX : X.length = Q.length + D.length
 wX : Wd X
 wQ : Wd Q
 zero : Q.take j = List.replicate j 0
 sum : val X + val Q * val D = N
 less : val (X.drop j) < val D
 le : j ≤ Q.length
theorem Long.high {X Q D : List Int} {N : Int} {j : Nat} (h : Long X Q D N j) (hD : Wd D) : val (X.drop (j + D.length)) = 0 := by
 have l := h.lenX; have l2 := h.le
 have e := val_split (X.drop j) D.length (by simp; omega)
 rw [List.drop_drop] at e
 have a := val_nonneg ((h.wX.drop j).take D.length)
 have b := val_nonneg (h.wX.drop (j + D.length))
 have c := val_lt hD
 have p := pw_pos D.length
 by_cases z : val (X.drop (j + D.length)) = 0
 ·exact z
 ·have := Int.mul_le_mul_of_nonneg_left (show 1 ≤ val (X.drop (j + D.length)) by omega) (Int.le_of_lt p)
  have := h.less; omega
theorem Long.seg {X Q D : List Int} {N : Int} {j : Nat} (h : Long X Q D N (j + 1)) (hD : Wd D) : val ((X.drop j).take (D.length + 1)) = val (X.drop j) ∧ val (X.drop j) < val D * 18446744073709551616 := by
 have l := h.lenX; have l2 := h.le
 have e := val_split (X.drop j) (D.length + 1) (by simp; omega)
 rw [List.drop_drop, show j + (D.length + 1) = j + 1 + D.length from by omega, h.high hD] at e
 have f : val (X.drop j) = nth X j + 18446744073709551616 * val (X.drop (j + 1)) := by
  rw [drop_getD X j (by omega)]; rfl
 have b := nth_bd h.wX j
 have := h.less
 refine ⟨by rw [Int.mul_zero] at e; omega, by omega⟩
theorem Long.next {X Q D S' : List Int} {N q : Int} {j : Nat} (h : Long X Q D N (j + 1)) (hD : Wd D) (hl : S'.length = D.length + 1) (hw : Wd S') (q0 : 0 ≤ q) (q1 : q < 18446744073709551616) (hs : q * val D + val S' = val ((X.drop j).take (D.length + 1))) (hr : val S' < val D) :
  Long (spl X j (D.length + 1) S') (Q.set j q) D N j := by
 have l := h.lenX; have l2 := h.le
 have hz : nth Q j = 0 := by
  have e := congrArg (fun l => nth l j) h.zero
  rw [nth_take _ _ _ (by omega), nth_replicate] at e; exact e
 refine ⟨by rw [spl_len (by omega) hl, List.length_set]; exact l, wd_spl h.wX hw _ _, h.wQ.set _ q0 q1, ?_, ?_, ?_, by rw [List.length_set]; omega⟩
 ·rw [take_set_le _ _ _ _ (by omega)]
  have e := congrArg (List.take j) h.zero
  rw [List.take_take, Nat.min_eq_left (by omega), List.take_replicate, Nat.min_eq_left (by omega)] at e; exact e
 ·rw [val_spl (by omega) hl, val_set _ _ _ (by omega), hz]
  have := h.sum
  grind
 ·have e1 : (spl X j (D.length + 1) S').drop j = S' ++ X.drop (j + (D.length + 1)) := by
   unfold spl
   rw [List.drop_append, List.length_take, Nat.min_eq_left (by omega), Nat.sub_self, List.drop_zero, List.drop_of_length_le (by simp; omega)]; rfl
  have hh := h.high hD
  rw [show j + 1 + D.length = j + (D.length + 1) from by omega] at hh
  rw [e1, val_append, hh]; simp; exact hr
theorem Long.done {X Q D xs ys : List Int} {s : Nat} (h : Long X Q D (val xs * 2 ^ s) 0) (hD : Wd D) (hd : val D = val ys * 2 ^ s) : val (X.take D.length) / 2 ^ s = val xs - val Q * val ys ∧ 0 ≤ val xs - val Q * val ys ∧ val xs - val Q * val ys < val ys := by
 have p := two_pos s
 have l := h.lenX
 have hh := h.high hD
 rw [Nat.zero_add] at hh
 have e := val_split X D.length (by omega)
 rw [hh, Int.mul_zero] at e
 have hl := h.less
 rw [List.drop_zero] at hl
 have x0 := val_nonneg h.wX
 have f : val (X.take D.length) = (val xs - val Q * val ys) * 2 ^ s := by have := h.sum; rw [hd] at this; grind
 refine ⟨by rw [f]; exact Int.mul_ediv_cancel _ (by omega), ?_, ?_⟩
 ·by_cases c : 0 ≤ val xs - val Q * val ys
  ·exact c
  ·have := Int.mul_le_mul_of_nonneg_right (show val xs - val Q * val ys ≤ -1 by omega) (Int.le_of_lt p); omega
 ·have g : (val xs - val Q * val ys) * 2 ^ s < val ys * 2 ^ s := by rw [← hd, ← f]; omega
  exact Int.lt_of_mul_lt_mul_right g (Int.le_of_lt p)
theorem norm_words {ys V : List Int} {s : Nat} {m : Nat} (hy : Wd ys) (hV : Wd V) (hm : ys.length = m + 1) (hl : V.length = ys.length + 1) (hv : val V = val ys * 2 ^ s) (h1 : 9223372036854775808 ≤ nth ys m * 2 ^ s) (h2 : nth ys m * 2 ^ s < 18446744073709551616) (hs : s ≤ 63) :
  val (V.take (m + 1)) = val ys * 2 ^ s ∧ 0 < nth (V.take (m + 1)) m ∧ 9223372036854775808 * pw m ≤ val ys * 2 ^ s := by
 have p := two_pos s
 have q := pw_pos m
 have e1 := val_last (X := ys) (n := m) hm
 have t0 := val_nonneg (hy.take m)
 have t1 := val_lt (hy.take m)
 rw [List.length_take, Nat.min_eq_left (by omega)] at t1
 have e2 := val_last (X := V) (n := m + 1) (by omega)
 have u0 := val_nonneg (hV.take (m + 1))
 have u1 := val_lt (hV.take (m + 1))
 rw [List.length_take, Nat.min_eq_left (by omega)] at u1
 have pe : pw (m + 1) = 18446744073709551616 * pw m := rfl
 have lo : 9223372036854775808 * pw m ≤ val ys * 2 ^ s := by
  have a := Int.mul_le_mul_of_nonneg_right h1 (Int.le_of_lt q)
  have b := Int.mul_nonneg t0 (Int.le_of_lt p)
  rw [e1]; grind
 have hi : val ys * 2 ^ s < pw (m + 1) := by
  have k : nth ys m * 2 ^ s + 2 ^ s ≤ 18446744073709551616 := by
   have e := pow_split (show s ≤ 64 by omega)
   have g : nth ys m < 2 ^ (64 - s) := by
    rw [← e, Int.mul_comm] at h2
    exact Int.lt_of_mul_lt_mul_left h2 (Int.le_of_lt p)
   have := Int.mul_le_mul_of_nonneg_right (show nth ys m + 1 ≤ 2 ^ (64 - s) by omega) (Int.le_of_lt p)
   rw [Int.mul_comm (2 ^ (64 - s)), e] at this
   have e3 : (nth ys m + 1) * 2 ^ s = nth ys m * 2 ^ s + 2 ^ s := by grind
   omega
  have a := Int.mul_le_mul_of_nonneg_right k (Int.le_of_lt q)
  have b := Int.mul_lt_mul_of_pos_right t1 p
  rw [e1, pe]; grind
 have tb := nth_bd hV (m + 1)
 have z : nth V (m + 1) = 0 := by
  by_cases c : nth V (m + 1) = 0
  ·exact c
  ·have := Int.mul_le_mul_of_nonneg_left (show 1 ≤ nth V (m + 1) by omega) (Int.le_of_lt (pw_pos (m + 1))); omega
 rw [z, Int.mul_zero] at e2
 have e3 : val (V.take (m + 1)) = val ys * 2 ^ s := by omega
 refine ⟨e3, ?_, lo⟩
 have e4 := val_last (X := V.take (m + 1)) (n := m) (by rw [List.length_take]; omega)
 have v1 := val_lt ((hV.take (m + 1)).take m)
 rw [List.length_take, List.length_take, Nat.min_eq_left (by omega)] at v1
 have tb2 := nth_bd (hV.take (m + 1)) m
 by_cases c : 0 < nth (V.take (m + 1)) m
 ·exact c
 ·have : nth (V.take (m + 1)) m = 0 := by omega
  rw [this, Int.mul_zero] at e4; omega
theorem Long.first {xs X D : List Int} {s L n : Nat} (hx : Wd xs) (hX : Wd X) (hl : X.length = xs.length + 1) (hL : xs.length + 1 = L + n) (hn : D.length = n) (n1 : 1 ≤ n) (hv : val X = val xs * 2 ^ s) (hs : s ≤ 63) (hd : 9223372036854775808 * pw (n - 1) ≤ val D) : Long X (List.replicate L 0) D (val xs * 2 ^ s) L := by
 refine ⟨by simp; omega, hX, Wd.zeros _, by simp, by rw [val_zeros]; omega, ?_, by simp⟩
 have e := val_split X L (by omega)
 have a := val_nonneg (hX.take L)
 have b := val_lt hx
 have p := two_pos s
 have c := Int.mul_lt_mul_of_pos_right b p
 have e2 : pw xs.length = pw L * pw (n - 1) := by rw [← pw_add]; congr 1; omega
 have sm : (2 : Int) ^ s ≤ 9223372036854775808 := by
  have e3 : (2 : Int) ^ 63 = 2 ^ s * 2 ^ (63 - s) := by rw [← Int.pow_add]; congr 1; omega
  have := Int.mul_le_mul_of_nonneg_left (show (1 : Int) ≤ 2 ^ (63 - s) from two_pos _) (Int.le_of_lt p)
  have e4 : (2 : Int) ^ 63 = 9223372036854775808 := rfl
  omega
 have q := pw_pos (n - 1)
 have d := Int.mul_le_mul_of_nonneg_left sm (Int.le_of_lt q)
 have g : pw L * val (X.drop L) < pw L * (pw (n - 1) * 2 ^ s) := by rw [e2] at c; grind
 have := Int.lt_of_mul_lt_mul_left g (Int.le_of_lt (pw_pos L))
 have : pw (n - 1) * 9223372036854775808 = 9223372036854775808 * pw (n - 1) := Int.mul_comm _ _
 omega
end Go.Proofs.YtebilgnmnambnaaGreatDoor
