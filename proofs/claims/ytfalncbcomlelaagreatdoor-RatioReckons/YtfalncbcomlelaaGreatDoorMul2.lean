import Derived.Test.YtfalncbcomlelaaGreatDoorMul1
import Derived.Deep.RegionWith
import Derived.Deep.RegionHeld3
import Derived.BigRegion
namespace Go.Proofs.YtfalncbcomlelaaGreatDoor
open Go.RowKit Tn

/-- A part of a row rewritten. -/
def spl (X : List Int) (k n : Nat) (S : List Int) : List Int := X.take k ++ (S ++ X.drop (k + n))
theorem spl_len {X S : List Int} {k n : Nat} (h : k + n ≤ X.length) (hS : S.length = n) : (spl X k n S).length = X.length := by simp [spl]; omega
theorem wd_spl {X S : List Int} (h : Wd X) (hS : Wd S) (k n : Nat) : Wd (spl X k n S) := (h.take k).append (hS.append (h.drop _))
theorem Cells.spl {w w2 : World} {b : Nat} {X S : List Int} {k n : Nat} (h : Cells w b 0 X) (hl : k + n ≤ X.length) (hS : S.length = n) (hw : Wr b k n w w2) (hc : Cells w2 b k S) : Cells w2 b 0 (spl X k n S) := by
  refine Cells.append ((h.take k).apart hw (Or.inl (by simp; omega))) ?_
  rw [List.length_take, Nat.min_eq_left (by omega), Nat.zero_add]
  refine Cells.append hc ?_
  have := (h.drop (k + n)).apart hw (Or.inr (by omega))
  rw [Nat.zero_add] at this
  rw [hS]; exact this
theorem val_spl {X S : List Int} {k n : Nat} (hl : k + n ≤ X.length) (hS : S.length = n) : val (spl X k n S) = val X + pw k * (val S - val ((X.drop k).take n)) := by
  have e1 := val_split X k (by omega)
  have e2 := val_split (X.drop k) n (by simp; omega)
  rw [List.drop_drop] at e2
  have h1 : (X.take k).length = k := by simp; omega
  unfold spl
  rw [val_append, val_append, h1, hS, e1, e2]; grind
theorem val_set (X : List Int) (j : Nat) (v : Int) (h : j < X.length) : val (X.set j v) = val X + pw j * (v - nth X j) := by
  have e1 := val_split (X.set j v) (j + 1) (by simp; omega)
  have e2 := val_split X (j + 1) (by omega)
  rw [take_set_succ X j v h, drop_set_succ, val_append, List.length_take, Nat.min_eq_left (by omega)] at e1
  rw [val_at X j h] at e2
  simp only [val] at e1
  grind
theorem nth_spl {X S : List Int} {k n : Nat} (hl : k + n ≤ X.length) (hS : S.length = n) : nth (spl X k n S) (k + n) = nth X (k + n) := by
  have h1 : (X.take k).length = k := by simp; omega
  unfold spl nth
  rw [List.getD_eq_getElem?_getD, List.getElem?_append_right (by omega), List.getElem?_append_right (by omega), List.getElem?_drop, List.getD_eq_getElem?_getD]
  congr 2; omega
theorem nth_zero {X : List Int} {j m : Nat} (h : X.drop j = List.replicate m 0) : nth X j = 0 := by
  have := nth_drop X j 0
  rw [h, nth_replicate] at this
  simpa using this.symm
theorem drop_spl_set {X S : List Int} {k n j : Nat} {v : Int} (hl : k + n ≤ X.length) (hS : S.length = n) (hj : j = k + n) : ((spl X k n S).set j v).drop (j + 1) = X.drop (j + 1) := by
  subst hj
  rw [drop_set_succ]
  have h1 : (X.take k).length = k := by simp; omega
  unfold spl
  rw [List.drop_append, List.drop_append, List.drop_drop, h1, hS]
  rw [List.drop_of_length_le (by omega), List.drop_of_length_le (by omega)]
  simp; congr 1; omega
theorem mul_round {X xs ys S' : List Int} {k : Nat} {c : Int} (hy : k < ys.length) (hl : X.length = xs.length + ys.length) (hw : Wd X) (hd : X.drop (xs.length + k) = List.replicate (ys.length - k) 0) (hv : val X = val xs * val (ys.take k))
    (hS : S'.length = xs.length) (hwS : Wd S') (c0 : 0 ≤ c) (c1 : c < 18446744073709551616) (hs : val S' + pw xs.length * c = val ((X.drop k).take xs.length) + val xs * nth ys k) :
    ((spl X k xs.length S').set (k + xs.length) c).length = xs.length + ys.length ∧ Wd ((spl X k xs.length S').set (k + xs.length) c) ∧ ((spl X k xs.length S').set (k + xs.length) c).drop (xs.length + (k + 1)) = List.replicate (ys.length - (k + 1)) 0 ∧ val ((spl X k xs.length S').set (k + xs.length) c) = val xs * val (ys.take (k + 1)) := by
  have h1 : k + xs.length ≤ X.length := by omega
  have h2 := spl_len (S := S') h1 hS
  refine ⟨by simp; omega, (wd_spl hw hwS k _).set _ c0 c1, ?_, ?_⟩
  · rw [show xs.length + (k + 1) = (k + xs.length) + 1 from by omega, drop_spl_set h1 hS rfl]
    have := congrArg (List.drop 1) hd
    rw [List.drop_drop, List.drop_replicate] at this
    rw [show k + xs.length + 1 = xs.length + k + 1 from by omega, this]
    congr 1
  · rw [val_set _ _ _ (by omega), val_spl h1 hS, nth_spl h1 hS, show k + xs.length = xs.length + k from by omega, nth_zero hd, val_at ys k hy, hv, pw_add]
    grind

end Go.Proofs.YtfalncbcomlelaaGreatDoor
