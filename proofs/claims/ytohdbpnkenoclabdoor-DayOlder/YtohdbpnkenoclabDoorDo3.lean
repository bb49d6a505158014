import Derived.Test.YtohdbpnkenoclabDoorDo2
namespace Go.Proofs.YtohdbpnkenoclabDoor.Dy
open Go.RowKit Tn
theorem older_law (y m d u v e : Int) (w : World) (G : Gl w) : Calls Tryd.prog 3 #[dt y m d, dt u v e] w fun x w' => x = .returned (.bool true) ∧ Below w.heap.size w w' := by
  have RA := right_any y m d
  have RB := right_any u v e
  have NA := Number_any y m d
  have NB := Number_any u v e
  have A1 := Age_any y m d u v e 1
  have A2 := Age_any y m d u v e 2
  have A3 := Age_any y m d u v e 3
  cases g : good y m d
  · rw [g] at RA
    exact od_w0 y m d u v e w G works_any RA
  rw [g] at RA NA
  cases k : good u v e
  · rw [k] at RB
    exact od_w1 y m d u v e w G works_any RA RB
  rw [k] at RB NB
  obtain ⟨g1, g2, g3, g4, g5, g6⟩ := good_iff.1 g
  obtain ⟨h1, h2, h3, h4, h5, h6⟩ := good_iff.1 k
  have tt : tw y m d u v e = if num u v e < num y m d then 1 else 0 := by unfold tw; rw [g, k]; rfl
  by_cases c : num u v e < num y m d
  · rw [if_pos c] at tt
    have ag : ∀ how, agR y m d u v e how = (0, 1) := fun how => by unfold agR; rw [tt, if_neg (by decide)]
    rw [ag] at A1 A2 A3
    exact od_w2 y m d u v e _ _ w G c works_any RA RB A1 A2 A3 NA NB
  rw [if_neg c] at tt
  obtain ⟨q0, q1, q2⟩ := mp_good tt
  obtain ⟨a1, a2⟩ := age_facts tt
  have nm : num u v e = mn (mo u v) + e := num_mo h3 h4
  have lo := num_lo k
  have hi := num_hi k
  have Z : ∀ u' v' e', good u' v' e' = true → num u' v' e' = num u v e + 1 → ∀ h, 1 ≤ h → h ≤ 3 → ∃ p q, 0 ≤ p ∧ p ≤ 20000 ∧ p ≤ q ∧ q ≤ p + 1 ∧ (∀ W, Gl W → Calls Tryd.prog 7 #[dt y m d, dt u v e, .int .i64 h] W fun x w' => x = .returned (.tuple #[.int .i64 p, .int .i64 0]) ∧ Below W.heap.size W w') ∧ (∀ W, Gl W → Calls Tryd.prog 7 #[dt y m d, dt u' v' e', .int .i64 h] W fun x w' => x = .returned (.tuple #[.int .i64 q, .int .i64 0]) ∧ Below W.heap.size W w') := by
    intro u' v' e' gg hn h t1 t3
    obtain ⟨o1, o2, o3, o4, o5⟩ := older (how := h) tt gg hn t1 t3
    have X := Age_any y m d u v e h
    have Y := Age_any y m d u' v' e' h
    rw [o2] at X
    rw [o3] at Y
    have b : 0 ≤ (agR y m d u v e h).1 ∧ (agR y m d u v e h).1 ≤ 20000 := by
      unfold agR
      rw [if_pos tt]
      unfold agS
      have hh : h = 1 ∨ h = 2 ∨ h = 3 := by omega
      rcases hh with rfl | rfl | rfl
      · simp; omega
      · simp; split <;> omega
      · simp; split <;> omega
    exact ⟨_, _, b.1, b.2, o4, o5, X, Y⟩
  have e1 : agR y m d u v e 1 = (mp (mo y m) d (mo u v) e / 12, 0) := by unfold agR agS; rw [if_pos tt, if_pos rfl]
  have e2 : agR y m d u v e 2 = (if agB (mo y m) d (mo u v) e (mp (mo y m) d (mo u v) e / 12) > 0 then mp (mo y m) d (mo u v) e / 12 + 1 else mp (mo y m) d (mo u v) e / 12, 0) := by unfold agR agS; rw [if_pos tt, if_neg (by decide), if_pos rfl]
  have e3 : agR y m d u v e 3 = (if agU (mo y m) d (mo u v) e (mp (mo y m) d (mo u v) e / 12) ≤ agB (mo y m) d (mo u v) e (mp (mo y m) d (mo u v) e / 12) then mp (mo y m) d (mo u v) e / 12 + 1 else mp (mo y m) d (mo u v) e / 12, 0) := by unfold agR agS; rw [if_pos tt, if_neg (by decide), if_neg (by decide), if_pos rfl]
  rw [e1] at A1
  rw [e2] at A2
  rw [e3] at A3
  clear e1 e2 e3
  obtain ⟨P, hP⟩ : ∃ P, mp (mo y m) d (mo u v) e / 12 = P := ⟨_, rfl⟩
  rw [hP] at A1 A2 A3 a1 a2
  have p0 : 0 ≤ P ∧ mo y m + 12 * P ≤ 119987 := by omega
  clear hP q0 q1
  have MA := Months_any y m d (12 * P)
  unfold mns at MA
  rw [g, if_pos rfl, if_pos (by omega)] at MA
  have ga := good_on (d := d) (a := mo y m + 12 * P) g5 (by omega)
  rw [decide_eq_true (by omega)] at ga
  have NW := Number_any ((mo y m + 12 * P) / 12 + 1) ((mo y m + 12 * P) % 12 + 1) (min d (mk (mo y m + 12 * P)))
  rw [ga, if_pos rfl, num_on, show er true = 0 from rfl] at NW
  have sB : agB (mo y m) d (mo u v) e P = num u v e - nu (mo y m + 12 * P) d := by unfold agB; omega
  have sU : agU (mo y m) d (mo u v) e P = nu (mo y m + 12 * (P + 1)) d - num u v e := by unfold agU; omega
  rw [sB] at A2 A3 a1
  rw [sU] at A3 a2
  have b1 := nu_bd (a := mo y m + 12 * P) (by omega) (by omega) g5
  have b2 := nu_bd (a := mo y m + 12 * (P + 1)) (by omega) (by omega) g5
  have MB := Months_any y m d (12 * (P + 1))
  unfold mns at MB
  rw [g, if_pos rfl] at MB
  have DD := Days_any u v e 1
  unfold dys at DD
  rw [k, if_pos rfl] at DD
  obtain ⟨M, hM⟩ : ∃ M, (if num u v e - nu (mo y m + 12 * P) d > 0 then P + 1 else P) = M := ⟨_, rfl⟩
  obtain ⟨K, hK⟩ : ∃ K, (if nu (mo y m + 12 * (P + 1)) d - num u v e ≤ num u v e - nu (mo y m + 12 * P) d then P + 1 else P) = K := ⟨_, rfl⟩
  rw [hM] at A2
  rw [hK] at A3
  have s1 : (M == P) = (nu (mo y m + 12 * P) d == num u v e) := by
    rw [Bool.eq_iff_iff]; simp only [beq_iff_eq]; rw [← hM]; split <;> omega
  have z1 : (K == P) = decide (num u v e - nu (mo y m + 12 * P) d < nu (mo y m + 12 * (P + 1)) d - num u v e) := by
    rw [Bool.eq_iff_iff, beq_iff_eq, decide_eq_true_iff, ← hK]; split <;> omega
  have m0 : P ≤ M ∧ M ≤ P + 1 := by rw [← hM]; split <;> omega
  have k0 : P ≤ K ∧ K ≤ P + 1 := by rw [← hK]; split <;> omega
  by_cases r : 0 ≤ mo y m + 12 * (P + 1) ∧ mo y m + 12 * (P + 1) ≤ 119987
  · rw [if_pos r] at MB
    have gb := good_on (d := d) (a := mo y m + 12 * (P + 1)) g5 (by omega)
    rw [decide_eq_true (by omega)] at gb
    have NN := Number_any ((mo y m + 12 * (P + 1)) / 12 + 1) ((mo y m + 12 * (P + 1)) % 12 + 1) (min d (mk (mo y m + 12 * (P + 1))))
    rw [gb, if_pos rfl, num_on, show er true = 0 from rfl] at NN
    cases l : nr (num u v e + 1)
    · obtain ⟨f1, f2, f3⟩ := fr_bad l
      rw [l, f1, f2, f3] at DD
      exact od_w5 y m d u v e _ _ P M K _ _ _ _ _ _ _ _ _ _ _ _ w G c p0.1 (by omega) m0.1 m0.2 k0.1 k0.2 (by omega) s1 rfl (by omega) z1 rfl (wrapI _ (by omega) (by omega)) (wrapI _ (by omega) (by omega)) works_any RA RB A1 A2 A3 NA NB MA NW MB NN DD
    · obtain ⟨f1, f2⟩ := fr_good l
      rw [l] at DD
      exact od_w6 y m d u v e _ _ P M K _ _ _ _ _ _ _ _ _ _ _ _ _ _ _ w G c p0.1 (by omega) m0.1 m0.2 k0.1 k0.2 (by omega) s1 rfl (by omega) z1 rfl (wrapI _ (by omega) (by omega)) (wrapI _ (by omega) (by omega)) works_any RA RB A1 A2 A3 NA NB MA NW MB NN DD (Z _ _ _ f1 f2)
  · rw [if_neg r] at MB
    cases l : nr (num u v e + 1)
    · obtain ⟨f1, f2, f3⟩ := fr_bad l
      rw [l, f1, f2, f3] at DD
      exact od_w3 y m d u v e _ _ P M K _ _ _ _ _ w G c p0.1 (by omega) m0.1 m0.2 k0.1 k0.2 (by omega) s1 rfl works_any RA RB A1 A2 A3 NA NB MA NW MB DD
    · obtain ⟨f1, f2⟩ := fr_good l
      rw [l] at DD
      exact od_w4 y m d u v e _ _ P M K _ _ _ _ _ _ _ _ w G c p0.1 (by omega) m0.1 m0.2 k0.1 k0.2 (by omega) s1 rfl works_any RA RB A1 A2 A3 NA NB MA NW MB DD (Z _ _ _ f1 f2)
end Go.Proofs.YtohdbpnkenoclabDoor.Dy
