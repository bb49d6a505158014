import Derived.Test.YtcjlpfglnbddjaaDoorLg2
namespace Go.Proofs.YtcjlpfglnbddjaaDoor.L
open Go.RowKit Tl

/-- The bits of 2 to the T - 1074. -/
def gapB (T : Nat) : Int := if T ≤ 51 then 2 ^ T else ((T : Int) - 51) * 4503599627370496
theorem fl_core {D m r : Int} {T k : Nat} (hD : 0 < D) (h : D * 2 ^ T = m * (D * 2 ^ k) + r) (r0 : 0 ≤ r) (r1 : r < D * 2 ^ k) (m0 : 0 ≤ m) : (k ≤ T → m = 2 ^ (T - k) ∧ r = 0) ∧ (T < k → m = 0) := by
  have pk : 0 < D * 2 ^ k := Int.mul_pos hD (two_pow_pos k)
  constructor
  · intro hk
    have e : D * 2 ^ T = 2 ^ (T - k) * (D * 2 ^ k) := by
      rw [show T = (T - k) + k from by omega, Int.pow_add, show T - k + k - k = T - k from by omega]; grind
    have f : (2 ^ (T - k) - m) * (D * 2 ^ k) = r := by rw [Int.sub_mul]; omega
    generalize (2 : Int) ^ (T - k) = a at *
    generalize D * 2 ^ k = b at *
    have g : a - m = 0 := by
      by_cases c : a - m = 0
      · exact c
      · rcases Int.lt_or_gt_of_ne c with c | c
        · have := Int.mul_le_mul_of_nonneg_right (show a - m ≤ -1 by omega) (Int.le_of_lt pk); omega
        · have := Int.mul_le_mul_of_nonneg_right (show 1 ≤ a - m by omega) (Int.le_of_lt pk); omega
    rw [g] at f
    exact ⟨by omega, by simp at f; omega⟩
  · intro hk
    have a : D * 2 ^ T < D * 2 ^ k := by
      refine Int.mul_lt_mul_of_pos_left ?_ hD
      have h1 := two_pow_le (show T + 1 ≤ k by omega)
      rw [Int.pow_succ] at h1
      have := two_pow_pos T
      omega
    by_cases c : m = 0
    · exact c
    · have := Int.mul_le_mul_of_nonneg_right (show 1 ≤ m by omega) (Int.le_of_lt pk); omega
theorem fl_star {N D e m r : Int} {T k Z : Nat} (h : Fl N D e m r) (hc : N * 2 ^ Z = D * 2 ^ T) (hk : (k : Int) = e + Z) : ∃ j : Nat, D * 2 ^ T = m * (D * 2 ^ k) + r * 2 ^ j ∧ r * 2 ^ j < D * 2 ^ k := by
  have e1 := h.eq
  have e2 := h.r1
  by_cases he : 0 ≤ e
  · refine ⟨Z, ?_, ?_⟩
    · rw [show (-e).toNat = 0 from by omega, Int.pow_zero, Int.mul_one] at e1
      rw [← hc, e1, show k = e.toNat + Z from by omega, Int.pow_add]; grind
    · have := Int.mul_lt_mul_of_pos_right e2 (two_pow_pos Z)
      rw [show k = e.toNat + Z from by omega, Int.pow_add, ← Int.mul_assoc]; exact this
  · rw [show e.toNat = 0 from by omega, Int.pow_zero, Int.mul_one] at e1 e2
    refine ⟨k, ?_, Int.mul_lt_mul_of_pos_right e2 (two_pow_pos k)⟩
    have f : N * 2 ^ Z = N * 2 ^ (-e).toNat * 2 ^ k := by rw [Int.mul_assoc, ← Int.pow_add]; congr 2; omega
    rw [← hc, f, e1]; grind
theorem pow_lt {a b : Nat} (h : (2 : Int) ^ a < 2 ^ b) : a < b := by
  by_cases c : a < b
  · exact c
  · have := two_pow_le (show b ≤ a by omega); omega
theorem gap_exact {N D e m r : Int} {T Z : Nat} (hZ : Z = 1074) (hT : T ≤ 2045) (hD : 0 < D) (hc : N * 2 ^ Z = D * 2 ^ T) (h : Fl N D e m r) (m0 : 0 ≤ m) (e0 : -1074 ≤ e) (m1 : m < 9007199254740992) (st : e = -1074 ∨ 4503599627370496 ≤ m) : (r = 0 ∧ e ≤ 971) ∧ lay52 m e = gapB T := by
  obtain ⟨k, hk⟩ : ∃ k : Nat, (k : Int) = e + Z := ⟨(e + Z).toNat, by omega⟩
  obtain ⟨j, s1, s2⟩ := fl_star h hc hk
  have r0 := h.r0
  have rj : 0 ≤ r * 2 ^ j := Int.mul_nonneg r0 (Int.le_of_lt (two_pow_pos j))
  obtain ⟨c1, c2⟩ := fl_core hD s1 rj s2 m0
  have hkT : k ≤ T := by
    by_cases c : k ≤ T
    · exact c
    · have := c2 (by omega)
      rcases st with st | st <;> omega
  obtain ⟨hm, hr⟩ := c1 hkT
  have r00 : r = 0 := by
    by_cases c : r = 0
    · exact c
    · have := Int.mul_pos (show 0 < r by omega) (two_pow_pos j); omega
  have t53 : (2 : Int) ^ 53 = 9007199254740992 := by decide
  have t52 : (2 : Int) ^ 52 = 4503599627370496 := by decide
  have t51 : (2 : Int) ^ 51 = 2251799813685248 := by decide
  have h53 : T - k < 53 := pow_lt (by rw [← hm, t53]; exact m1)
  have h52 : k = 0 ∨ T - k = 52 := by
    rcases st with st | st
    · left; omega
    · right
      by_cases c : T - k = 52
      · exact c
      · have := two_pow_le (show T - k ≤ 51 by omega)
        omega
  refine ⟨⟨r00, by omega⟩, ?_⟩
  unfold lay52 gapB
  rcases h52 with h52 | h52
  · have ek : T - k = T := by omega
    rw [ek] at hm
    by_cases c : T ≤ 51
    · have := two_pow_le c
      rw [if_neg (by omega), if_pos c]; exact hm
    · have eT : T = 52 := by omega
      rw [eT, t52] at hm
      rw [if_pos (by omega), if_neg c, hm, eT]
      omega
  · rw [h52, t52] at hm
    rw [if_pos (by omega), if_neg (by omega), hm]
    omega
end Go.Proofs.YtcjlpfglnbddjaaDoor.L
