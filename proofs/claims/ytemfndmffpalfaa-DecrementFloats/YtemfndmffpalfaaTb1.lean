import Derived.Test.YtemfndmffpalfaaMs1
import Derived.Laws.Strings
import Derived.Test.YtemfndmffpalfaaCs1
namespace Go.Proofs.Ytemfndmffpalfaa.Ta
open Go.RowKit Go.Proofs.Ytemfndmffpalfaa.L Dc
open Go.Proofs.Ytemfndmffpalfaa.Mo (Ri wrapI empty_iff)

/-- A byte of a name: a small letter; or a digit or _. -/
def lett (b : Nat) : Bool := decide (97 ≤ b ∧ b ≤ 122)
def othr (b : Nat) : Bool := decide (48 ≤ b ∧ b ≤ 57 ∨ b = 95)
/-- Is a text a name? -/
def nmB (s : ByteArray) : Bool := decide (0 < s.size ∧ s.size ≤ 24 ∧ lett (bt s 0) = true ∧ ∀ i, i < s.size → (lett (bt s i) || othr (bt s i)) = true)
theorem nmB_none {s : ByteArray} (h : s.size = 0) : nmB s = false := by simp [nmB, h]
theorem nmB_long {s : ByteArray} (h : 24 < s.size) : nmB s = false := by simp [nmB]; omega
theorem nmB_first {s : ByteArray} (h : lett (bt s 0) = false) : nmB s = false := by simp [nmB, h]
theorem nmB_bad {s : ByteArray} {k : Nat} (hk : k < s.size) (h : (lett (bt s k) || othr (bt s k)) = false) : nmB s = false := by
  cases c : nmB s with
  | false => rfl
  | true =>
    simp only [nmB, decide_eq_true_iff] at c
    have := c.2.2.2 k hk
    rw [h] at this; cases this
theorem nmB_all {s : ByteArray} (h0 : 0 < s.size) (h1 : s.size ≤ 24) (h2 : lett (bt s 0) = true) (h3 : ∀ i, i < s.size → (lett (bt s i) || othr (bt s i)) = true) : nmB s = true := by
  simp only [nmB, decide_eq_true_iff]; exact ⟨h0, h1, h2, h3⟩
theorem lett_in {s : ByteArray} {k : Nat} (hk : k < s.size) : lett (bt s k) = (decide (97 ≤ s[k].toNat) && decide (s[k].toNat ≤ 122)) := by
  rw [bt_in hk]; simp [lett]
theorem othr_in {s : ByteArray} {k : Nat} (hk : k < s.size) : othr (bt s k) = (decide (48 ≤ s[k].toNat) && decide (s[k].toNat ≤ 57) || decide (s[k].toNat = 95)) := by
  rw [bt_in hk]; simp [othr]

end Go.Proofs.Ytemfndmffpalfaa.Ta
