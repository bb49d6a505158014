/- Plain: a day later one is not younger. -/
import Derived.Test.YtohdbpnkenoclabDoorDy17
namespace Go.Proofs.YtohdbpnkenoclabDoor.Dy
theorem age_facts {y m d u v e : Int} (t : tw y m d u v e = 0) : 0 ≤ agB (mo y m) d (mo u v) e (mp (mo y m) d (mo u v) e / 12) ∧ 0 < agU (mo y m) d (mo u v) e (mp (mo y m) d (mo u v) e / 12) := by
  obtain ⟨g, k, l⟩ := tw_good t
  obtain ⟨g1, g2, g3, g4, g5, g6⟩ := good_iff.1 g
  obtain ⟨h1, h2, h3, h4, h5, h6⟩ := good_iff.1 k
  have I := fun n => mp_iff (j := mo y m) (d := d) (k := mo u v) (e := e) (n := n) g5 h5 (by rw [mk_mo h3 h4]; exact h6)
  generalize mp (mo y m) d (mo u v) e = Q at *
  have I0 := (I (12 * (Q / 12))).2 (by omega)
  have I1 := (I (12 * (Q / 12 + 1))).1
  unfold agB agU
  refine ⟨by omega, ?_⟩
  by_cases hc : nu (mo y m + 12 * (Q / 12 + 1)) d ≤ mn (mo u v) + e
  · have := I1 hc; omega
  · omega
/-- The answers of two days that follow one another. -/
theorem older {y m d u v e u' v' e' how : Int} (t : tw y m d u v e = 0) (g : good u' v' e' = true) (hn : num u' v' e' = num u v e + 1) (h1 : 1 ≤ how) (h3 : how ≤ 3) :
    tw y m d u' v' e' = 0 ∧ (agR y m d u v e how).2 = 0 ∧ (agR y m d u' v' e' how).2 = 0 ∧ (agR y m d u v e how).1 ≤ (agR y m d u' v' e' how).1 ∧ (agR y m d u' v' e' how).1 ≤ (agR y m d u v e how).1 + 1 := by
  obtain ⟨gd, gu, l⟩ := tw_good t
  have t' : tw y m d u' v' e' = 0 := by unfold tw; rw [gd, g]; simp; omega
  refine ⟨t', ?_⟩
  obtain ⟨a1, a2⟩ := age_facts t
  obtain ⟨b1, b2⟩ := age_facts t'
  obtain ⟨d1, d2, d3, d4, d5, d6⟩ := good_iff.1 gd
  obtain ⟨u1, u2, u3, u4, u5, u6⟩ := good_iff.1 gu
  obtain ⟨c1, c2, c3, c4, c5, c6⟩ := good_iff.1 g
  rw [num_mo c3 c4, num_mo u3 u4] at hn
  have p0 := (mp_good t).1
  have p1 := (mp_good t').1
  unfold agR
  rw [if_pos t, if_pos t']
  generalize mp (mo y m) d (mo u v) e / 12 = P at *
  generalize mp (mo y m) d (mo u' v') e' / 12 = P' at *
  unfold agB agU at *
  generalize mn (mo u v) + e = B at *
  generalize mn (mo u' v') + e' = B' at *
  subst hn
  have lt := fun a b (h : a < b) => nu_lt (j := mo y m + 12 * a) (k := mo y m + 12 * b) d5 (by omega)
  have key : P' = P ∨ (P' = P + 1 ∧ B + 1 = nu (mo y m + 12 * (P + 1)) d) := by
    rcases Int.lt_trichotomy P' P with h | h | h
    · have : nu (mo y m + 12 * (P' + 1)) d ≤ nu (mo y m + 12 * P) d := by
        by_cases e0 : P' + 1 = P
        · rw [e0]; omega
        · have := lt (P' + 1) P (by omega); omega
      omega
    · exact Or.inl h
    · by_cases e0 : P' = P + 1
      · subst e0; exact Or.inr ⟨rfl, by omega⟩
      · have := lt (P + 1) P' (by omega); omega
  unfold agS
  rcases key with rfl | ⟨rfl, e0⟩
  · have hh : how = 1 ∨ how = 2 ∨ how = 3 := by omega
    rcases hh with rfl | rfl | rfl
    · simp; omega
    · simp; split <;> split <;> omega
    · simp; split <;> split <;> omega
  · have l2 := lt (P + 1) (P + 1 + 1) (by omega)
    have hh : how = 1 ∨ how = 2 ∨ how = 3 := by omega
    rcases hh with rfl | rfl | rfl
    · simp; omega
    · simp; split <;> split <;> omega
    · simp; split <;> split <;> omega
end Go.Proofs.YtohdbpnkenoclabDoor.Dy
