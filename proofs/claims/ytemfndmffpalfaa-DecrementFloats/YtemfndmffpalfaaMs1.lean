import Derived.Test.YtemfndmffpalfaaProg
import Derived.Test.YtemfndmffpalfaaMemL
namespace Go.Proofs.Ytemfndmffpalfaa.Mo
open Go.RowKit Go.Proofs.Ytemfndmffpalfaa.L

/-- An amount: a thousand million million at most, either way. -/
def isA (p : Int) : Bool := decide (-1000000000000000 ≤ p ∧ p ≤ 1000000000000000)
theorem isA_iff {p : Int} : isA p = true ↔ -1000000000000000 ≤ p ∧ p ≤ 1000000000000000 := by simp [isA]
theorem wrapI (x : Int) (h0 : -9223372036854775808 ≤ x) (h1 : x < 9223372036854775808) : IntKind.i64.wrap x = x := by
  simp [IntKind.wrap, IntKind.bits, IntKind.signed]; omega
/-- The slice value v reads as the ints xs. -/
def Ri (w : World) (v : Value) (xs : List Int) : Prop :=
  (∀ i, -9223372036854775808 ≤ nth xs i ∧ nth xs i ≤ 9223372036854775807) ∧ ∃ a cap, v = .slice a xs.length cap ∧ xs.length ≤ cap ∧ cap ≤ maxLen ∧ (0 < xs.length → ∃ b o, a = some ⟨b, o, none⟩ ∧ Cells w b o xs)
theorem Ri.grow {w w' : World} {v : Value} {xs : List Int} (h : Ri w v xs) (k : Below w.heap.size w w') : Ri w' v xs := by
  obtain ⟨h1, a, cap, h2, h3, h4, h5⟩ := h
  exact ⟨h1, a, cap, h2, h3, h4, fun l => by obtain ⟨b, o, e, c⟩ := h5 l; exact ⟨b, o, e, c.grow k⟩⟩
theorem sum_more (xs : List Int) (k : Nat) (h : k < xs.length) : (xs.take (k + 1)).sum = (xs.take k).sum + nth xs k := by
  rw [List.take_add_one, List.sum_append]
  simp [nth, List.getD_eq_getElem?_getD, List.getElem?_eq_getElem h]
theorem sum_bd (xs : List Int) (k : Nat) (h : k ≤ xs.length) (ha : ∀ i, i < k → isA (nth xs i) = true) : -(1000000000000000 * (k : Int)) ≤ (xs.take k).sum ∧ (xs.take k).sum ≤ 1000000000000000 * (k : Int) := by
  induction k with
  | zero => simp
  | succ k ih =>
    have i := ih (by omega) (fun i hi => ha i (by omega))
    have b := isA_iff.1 (ha k (by omega))
    rw [sum_more xs k (by omega)]
    omega
/-- What a sum is, and its error. -/
def sumR (xs : List Int) : Int × Int :=
  if 4096 < xs.length then (0, 3) else if ∀ i, i < xs.length → isA (nth xs i) = true then (if isA xs.sum then (xs.sum, 0) else (0, 6)) else (0, 6)
theorem sumR_long {xs : List Int} (h : 4096 < xs.length) : sumR xs = (0, 3) := by simp [sumR, h]
theorem sumR_bad {xs : List Int} {k : Nat} (h : ¬ 4096 < xs.length) (hk : k < xs.length) (hb : isA (nth xs k) = false) : sumR xs = (0, 6) := by
  unfold sumR
  rw [if_neg h, if_neg]
  intro a
  have := a k hk
  simp [hb] at this
theorem sumR_all {xs : List Int} (h : ¬ 4096 < xs.length) (ha : ∀ i, i < xs.length → isA (nth xs i) = true) : sumR xs = if isA (xs.take xs.length).sum then ((xs.take xs.length).sum, 0) else (0, 6) := by
  unfold sumR
  rw [if_neg h, if_pos ha, List.take_length]

end Go.Proofs.Ytemfndmffpalfaa.Mo
