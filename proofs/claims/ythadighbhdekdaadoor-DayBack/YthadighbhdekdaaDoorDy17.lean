import Derived.Test.YthadighbhdekdaaDoorDy16
namespace Go.Proofs.YthadighbhdekdaaDoor.Dy
open Go.RowKit Tn
theorem tw_good {y m d u v e : Int} (h : tw y m d u v e = 0) : good y m d = true ∧ good u v e = true ∧ num y m d ≤ num u v e := by
  unfold tw at h
  cases g : good y m d <;> cases k : good u v e <;> simp [g, k] at h
  exact ⟨rfl, rfl, by omega⟩
theorem mp_good {y m d u v e : Int} (h : tw y m d u v e = 0) : 0 ≤ mp (mo y m) d (mo u v) e ∧ mo y m + mp (mo y m) d (mo u v) e ≤ 119987 ∧ 0 ≤ mo y m := by
  obtain ⟨g, k, l⟩ := tw_good h
  obtain ⟨g1, g2, g3, g4, g5, g6⟩ := good_iff.1 g
  obtain ⟨h1, h2, h3, h4, h5, h6⟩ := good_iff.1 k
  rw [num_mo g3 g4, num_mo h3 h4] at l
  refine ⟨mp_0 g5 (by rw [mk_mo g3 g4]; exact g6) h5 (by rw [mk_mo h3 h4]; exact h6) l, ?_, ?_⟩
  · have := mp_le (mo y m) d (mo u v) e
    have : mo u v ≤ 119987 := by unfold mo; omega
    omega
  · unfold mo; omega
/-- What Age answers. -/
def agR (y m d u v e how : Int) : Int × Int :=
  if tw y m d u v e = 0 then agS (mp (mo y m) d (mo u v) e / 12) (agB (mo y m) d (mo u v) e (mp (mo y m) d (mo u v) e / 12)) (agU (mo y m) d (mo u v) e (mp (mo y m) d (mo u v) e / 12)) how else (0, tw y m d u v e)
theorem nu_bd {a d : Int} (h0 : 0 ≤ a) (h1 : a ≤ 200000) (d1 : 1 ≤ d) : 0 ≤ nu a d ∧ nu a d ≤ 8000000 := by
  have hb := hd_bd (show 1 ≤ a / 12 + 1 by omega)
  have cb := cu_bd (lp (a / 12 + 1)) (show 1 ≤ a % 12 + 1 by omega) (by omega)
  have sb := sz_bd (lp (a / 12 + 1))
  have mb := mk_bd a
  unfold nu mn
  have : mk a = ml (lp (a / 12 + 1)) (a % 12 + 1) := rfl
  omega
set_option maxHeartbeats 800000 in
theorem Age_any (y m d u v e how : Int) (w : World) (G : Gl w) : Calls Tryd.prog 26 #[dt y m d, dt u v e, .int .i64 how] w fun x w' => x = .returned (.tuple #[.int .i64 (agR y m d u v e how).1, .int .i64 (agR y m d u v e how).2]) ∧ Below w.heap.size w w' := by
  have DF := daysFrom_any y m d u v e
  by_cases t : tw y m d u v e = 0
  · rw [t] at DF
    obtain ⟨g, k, l⟩ := tw_good t
    obtain ⟨p0, p1, p2⟩ := mp_good t
    have MP := monthsPast_any y m d u v e g k
    obtain ⟨g1, g2, g3, g4, g5, g6⟩ := good_iff.1 g
    obtain ⟨h1, h2, h3, h4, h5, h6⟩ := good_iff.1 k
    have NB := numberOf_any u v e (by omega) (by omega) (by omega) (by omega) (by omega) (by have := ml_bd (lp u) v; omega)
    have lo := num_lo k
    have hi := num_hi k
    have nm : num u v e = mn (mo u v) + e := num_mo h3 h4
    have e0 : agR y m d u v e how = agS (mp (mo y m) d (mo u v) e / 12) (agB (mo y m) d (mo u v) e (mp (mo y m) d (mo u v) e / 12)) (agU (mo y m) d (mo u v) e (mp (mo y m) d (mo u v) e / 12)) how := by unfold agR; rw [if_pos t]
    obtain ⟨P, hP⟩ : ∃ P, mp (mo y m) d (mo u v) e / 12 = P := ⟨_, rfl⟩
    have B1 := birthday_any y m d P g (by omega) (by omega)
    have B2 := birthday_any y m d (P + 1) g (by omega) (by omega)
    have b1 := nu_bd (a := mo y m + 12 * P) (by omega) (by omega) g5
    have b2 := nu_bd (a := mo y m + 12 * (P + 1)) (by omega) (by omega) g5
    have OM := fun b => oneMore_any P b (by omega) (by omega)
    rw [hP] at e0
    have s1 : nu (mo y m + 12 * P) d = num u v e - agB (mo y m) d (mo u v) e P := by unfold agB; omega
    have s2 : nu (mo y m + 12 * (P + 1)) d - num u v e = agU (mo y m) d (mo u v) e P := by unfold agU; omega
    rw [s1] at B1
    refine Age_walk y m d u v e how _ P _ _ _ (agB (mo y m) d (mo u v) e P) (agU (mo y m) d (mo u v) e P) _ _ w G DF MP NB B1 B2 OM ?_ ?_ ?_ ?_ ?_ ?_
    · rw [Int.tdiv_eq_ediv_of_nonneg p0]; exact hP
    · exact wrapI _ (by omega) (by omega)
    · rw [wrapI _ (by omega) (by omega)]; omega
    · exact wrapI _ (by omega) (by omega)
    · rw [wrapI _ (by omega) (by omega)]; exact s2
    · exact e0.symm
  · have e0 : agR y m d u v e how = (0, tw y m d u v e) := by unfold agR; rw [if_neg t]
    rw [e0]
    have T0 := Tb.new w y m d u v e G
    have G0 := T0.2.2.1
    generalize tw y m d u v e = E at *
    generalize td y m d u v e = C at *
    have t' : (E != 0) = true := by simpa using t
    clear G e0 t
    unfold dt at *
    go_enter Tryd.func26, Tryd.ntmps26
    go_wp2_with (first
      | (go_at_call 47; refine (DF _ G0).mono ?_; rintro x w5 ⟨rfl, b5⟩; have T5 := T0.grow b5; have G5 := T5.2.2.1; have a50 := T5.1.c0; have a51 := T5.1.c1; have a52 := T5.1.c2; have b50 := T5.2.1.c0; have b51 := T5.2.1.c1; have b52 := T5.2.1.c2)
      | fail)
    go_ret2
    exact ⟨rfl, T5.2.2.2⟩
/-- What Between answers. -/
def btR (y m d u v e : Int) : Value :=
  if tw y m d u v e = 0 then .tuple #[.int .i64 (mp (mo y m) d (mo u v) e / 12), .int .i64 (mp (mo y m) d (mo u v) e % 12), .int .i64 (num u v e - nu (mo y m + mp (mo y m) d (mo u v) e) d), .int .i64 0] else .tuple #[.int .i64 0, .int .i64 0, .int .i64 0, .int .i64 (tw y m d u v e)]
end Go.Proofs.YthadighbhdekdaaDoor.Dy
