import Derived.Test.YthadighbhdekdaaDoorTx3
import Derived.Test.YthadighbhdekdaaDoorB19
import Derived.Test.YthadighbhdekdaaDoorLn
import Derived.Test.YthadighbhdekdaaDoorDp
import Derived.Laws.Strings
namespace Go.Proofs.YthadighbhdekdaaDoor.L
open Go.RowKit Tl Go.Lib

theorem ten_pw (n : Nat) : ((10 ^ n : Nat) : Int) ≤ pw n := by
  induction n with
  | zero => decide
  | succ n ih =>
    rw [Nat.pow_succ]
    simp only [pw]
    omega
/-- Where the inner loop of Read stands: the number of j digits from a on. -/
def Rs (l : List UInt8) (a j : Nat) (v u : Int) : Prop := v = (Dc.num ((l.drop a).take j) : Int) ∧ u = ((10 ^ j : Nat) : Int)
theorem Rs.next {l : List UInt8} {a j : Nat} {v u : Int} (h : Rs l a j v u) (hj : a + j < l.length) : Rs l a (j + 1) (v * 10 + (((l[a + j]).toNat - 48 : Nat) : Int)) (u * 10) := by
  obtain ⟨rfl, rfl⟩ := h
  refine ⟨?_, by rw [Nat.pow_succ]; simp⟩
  rw [Dc.num_take _ _ (by rw [List.length_drop]; omega)]
  simp
theorem Rs.bd {l : List UInt8} {a j : Nat} {v u : Int} (h : Rs l a j v u) (hd : ∀ c ∈ l, Dc.Dg c) (hj : a + j ≤ l.length) (h9 : j ≤ 9) : 0 ≤ v ∧ v < 1000000000 ∧ 0 < u ∧ u ≤ 1000000000 := by
  obtain ⟨rfl, rfl⟩ := h
  have a1 := Dc.num_lt ((l.drop a).take j) (fun c hc => hd c (List.mem_of_mem_drop (List.mem_of_mem_take hc)))
  rw [List.length_take, List.length_drop, Nat.min_eq_left (by omega)] at a1
  have b1 : 10 ^ j ≤ 10 ^ 9 := Nat.pow_le_pow_right (by decide) h9
  have b2 : 0 < 10 ^ j := Nat.pow_pos (by decide)
  omega

end Go.Proofs.YthadighbhdekdaaDoor.L
