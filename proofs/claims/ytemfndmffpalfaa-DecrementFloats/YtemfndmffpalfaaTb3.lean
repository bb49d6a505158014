import Derived.Test.YtemfndmffpalfaaTb2
import Derived.Test.YtemfndmffpalfaaBlk
namespace Go.Proofs.Ytemfndmffpalfaa.Ta
open Go.RowKit Go.Proofs.Ytemfndmffpalfaa.L Dc
open Go.Proofs.Ytemfndmffpalfaa.Mo (Ri wrapI)

/-- Are these rates, of which the last one alone is one? -/
def rwB (xs : List Int) : Bool := decide (0 < xs.length ∧ ∀ i, i < xs.length → 0 ≤ L.nth xs i ∧ L.nth xs i ≤ 10000000 ∧ (L.nth xs i = 10000000 ↔ i + 1 = xs.length))
theorem rwB_none {xs : List Int} (h : xs.length = 0) : rwB xs = false := by simp [rwB]; omega
theorem rwB_bad {xs : List Int} {k : Nat} (hk : k < xs.length) (h : ¬ (0 ≤ L.nth xs k ∧ L.nth xs k ≤ 10000000 ∧ (L.nth xs k = 10000000 ↔ k + 1 = xs.length))) : rwB xs = false := by
  cases c : rwB xs with
  | false => rfl
  | true =>
    simp only [rwB, decide_eq_true_iff] at c
    exact absurd (c.2 k hk) h
theorem rwB_all {xs : List Int} (h0 : 0 < xs.length) (h : ∀ i, i < xs.length → 0 ≤ L.nth xs i ∧ L.nth xs i ≤ 10000000 ∧ (L.nth xs i = 10000000 ↔ i + 1 = xs.length)) : rwB xs = true := by
  simp only [rwB, decide_eq_true_iff]; exact ⟨h0, h⟩
/-- The slice value v reads as the ints xs; it has no room if it is nil; it is not too long. -/
def Rx (w : World) (v : Value) (xs : List Int) : Prop := Ri w v xs ∧ (∃ ao c, v = .slice ao xs.length c ∧ (ao = none → c = 0)) ∧ xs.length * 8 ≤ 140737488351232
theorem Rx.grow {w w' : World} {v : Value} {xs : List Int} (h : Rx w v xs) (k : Below w.heap.size w w') : Rx w' v xs := ⟨h.1.grow k, h.2⟩
/-- The slice value v reads as the rows xss. -/
def Rr (w : World) (v : Value) (xss : List (List Int)) : Prop :=
  xss.length * 24 ≤ 140737488351232 ∧ ∃ ao c, v = .slice ao xss.length c ∧ (0 < xss.length → ∃ b o, ao = some ⟨b, o, none⟩ ∧ ∀ d, d < xss.length → ∃ vd, w.cell? ⟨b, o + d, none⟩ = some vd ∧ Rx w vd (xss.getD d []))
theorem Rr.grow {w w' : World} {v : Value} {xss : List (List Int)} (h : Rr w v xss) (k : Below w.heap.size w w') : Rr w' v xss := by
  obtain ⟨h1, ao, c, h2, h3⟩ := h
  refine ⟨h1, ao, c, h2, fun l => ?_⟩
  obtain ⟨b, o, e, f⟩ := h3 l
  refine ⟨b, o, e, fun d hd => ?_⟩
  obtain ⟨vd, c1, c2⟩ := f d hd
  exact ⟨vd, (k.cell (p := ⟨b, o + d, none⟩) (lt_of_cell c1)).trans c1, c2.grow k⟩

/-- An age. -/
def isAg (p : Int) : Bool := decide (0 ≤ p ∧ p ≤ 130)
end Go.Proofs.Ytemfndmffpalfaa.Ta
