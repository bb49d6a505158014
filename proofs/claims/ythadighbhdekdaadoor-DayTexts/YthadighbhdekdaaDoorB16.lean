import Derived.Test.YthadighbhdekdaaDoorB15
import Derived.Deep.RegionHeld3
namespace Go.Proofs.YthadighbhdekdaaDoor.L
open Go.RowKit Tl

/-- The number that a row holds. -/
def cellNum (w : World) (p : Addr) : Int := match w.cell? p with | some (.int _ x) => x | _ => 0
def rowNum (w : World) : Value → Nat
  | .slice (some p) l _ => (val ((List.range l).map fun i => cellNum w ⟨p.block, p.off + i, none⟩)).toNat
  | _ => 0
theorem rowNum_rd {w : World} {v : Value} {xs : List Int} (h : Rd w v xs) : rowNum w v = (val xs).toNat := by
  obtain ⟨_, a, c, rfl, _, _, g⟩ := h
  by_cases h0 : xs = []
  · subst h0; cases a <;> simp [rowNum, val]
  · obtain ⟨b, o, rfl, hc⟩ := g (List.length_pos_iff.2 h0)
    simp only [rowNum]
    congr 2
    apply List.ext_getElem?
    intro i
    by_cases hi : i < xs.length
    · have := hc i hi
      simp [List.getElem?_map, List.getElem?_range hi, cellNum, this, nth, List.getD_eq_getElem?_getD, List.getElem?_eq_getElem hi]
    · rw [List.getElem?_eq_none (by simp; omega), List.getElem?_eq_none (by omega)]
theorem len_mono {A B : List Int} (hA : Wd A) (hB : Wd B) (nB : Nm B) (h : val B ≤ val A) : B.length ≤ A.length := by
  by_cases c : B.length ≤ A.length
  · exact c
  · have := val_lt_of_length hA hB nB (by omega); omega
theorem gcd_of_div {a b z r : Int} (h : a = z * b + r) : Int.gcd b r = Int.gcd a b := by
  have e : r = a - z * b := by omega
  rw [e, Int.gcd_comm a b, Int.mul_comm, Int.gcd_sub_mul_left_right]
theorem gcd_nought {a : Int} (h : 0 ≤ a) : a = (Int.gcd a 0 : Int) := by
  rw [Int.gcd_zero_right]; omega
theorem nm_pos {xs : List Int} (h : Wd xs) (n : Nm xs) (l : 0 < xs.length) : 0 < val xs := by
  have := val_low h n (by intro e; rw [e] at l; simp at l)
  have := pw_pos (xs.length - 1)
  omega
theorem nm_nil {xs : List Int} (l : ¬ 0 < xs.length) : xs = [] := List.eq_nil_of_length_eq_zero (by omega)
end Go.Proofs.YthadighbhdekdaaDoor.L
