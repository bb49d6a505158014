import Derived.Test.YtfalncbcomlelaaGreatDoorQa1
import Derived.Test.YtfalncbcomlelaaGreatDoorQa2
import Derived.Test.YtfalncbcomlelaaGreatDoorQa3
namespace Go.Proofs.YtfalncbcomlelaaGreatDoor.L
open Go.RowKit Tl

/-- Neither part has more than K limbs. -/
def QS (r : Rat) (K : Nat) : Prop := (r.num.natAbs : Int) < pw K ∧ (r.den : Int) < pw K
theorem den_pos' (r : Rat) : (0 : Int) < (r.den : Int) := by
  have := r.den_nz
  omega
theorem num_sg (r : Rat) : r.num = sgI (decide (r.num < 0)) (r.num.natAbs : Int) := by
  unfold sgI
  by_cases c : r.num < 0
  · rw [decide_eq_true c, if_pos rfl]; omega
  · rw [decide_eq_false c, if_neg (by simp)]; omega
theorem add_rat (r s : Rat) (x : Int) (h : x = r.num * s.den + s.num * r.den) : mkRat x ((r.den : Int) * s.den).toNat = r + s := by
  rw [Rat.add_def', h]
  congr 1
/-- Q's Add of the reference. -/
theorem QAdd_any (a b : Value) (r s : Rat) (K : Nat) (w : World) (ha : IsQ w a r) (hb : IsQ w b s) (hr : QS r K) (hs : QS s K) (hK : K ≤ 1000000000) :
    Calls Tryz.prog 30 #[a, b] w fun e w' => ∃ v, e = .returned v ∧ IsQ w' v (r + s) ∧ Below w.heap.size w w' := by
  obtain ⟨A, B, p1, p2, c1, c2, rfl, h1, n1, v1, h2, n2, v2⟩ := ha
  obtain ⟨C, D, p3, p4, c3, c4, rfl, h3, n3, v3, h4, n4, v4⟩ := hb
  have l1 : A.length ≤ K := len_of_lt h1.1 n1 (by rw [v1]; exact hr.1)
  have l2 : B.length ≤ K := len_of_lt h2.1 n2 (by rw [v2]; exact hr.2)
  have l3 : C.length ≤ K := len_of_lt h3.1 n3 (by rw [v3]; exact hs.1)
  have l4 : D.length ≤ K := len_of_lt h4.1 n4 (by rw [v4]; exact hs.2)
  have b0 : 0 < val B := by rw [v2]; exact den_pos' r
  have d0 : 0 < val D := by rw [v4]; exact den_pos' s
  have er := num_sg r
  have es := num_sg s
  by_cases hg : decide (r.num < 0) = decide (s.num < 0)
  · have := qadd_same _ _ p1 p2 p3 p4 c1 c2 c3 c4 A B C D w h1 h2 h3 h4 (by omega) (by omega) (by omega) (by omega) b0 d0 hg
    rw [v1, v2, v3, v4, add_rat r s] at this
    · exact this
    · rw [← hg] at es
      generalize decide (r.num < 0) = g at *
      rw [er, es]
      cases g
      · simp only [sgI, Bool.false_eq_true, if_false]; simp
      · simp only [sgI, if_true]; simp; grind
  · by_cases le : val C * val B ≤ val A * val D
    · have := qadd_ge _ _ p1 p2 p3 p4 c1 c2 c3 c4 A B C D w h1 h2 h3 h4 (by omega) (by omega) (by omega) (by omega) b0 d0 hg le
      rw [v1, v2, v3, v4, add_rat r s] at this
      · exact this
      · generalize decide (r.num < 0) = g at *
        generalize decide (s.num < 0) = g' at *
        rw [er, es]
        cases g <;> cases g'
        · exact absurd rfl hg
        · simp only [sgI, Bool.false_eq_true, if_false, if_true]; simp; grind
        · simp only [sgI, Bool.false_eq_true, if_false, if_true]; simp; grind
        · exact absurd rfl hg
    · have := qadd_lt _ _ p1 p2 p3 p4 c1 c2 c3 c4 A B C D w h1 h2 h3 h4 (by omega) (by omega) (by omega) (by omega) b0 d0 hg (by omega)
      rw [v1, v2, v3, v4, add_rat r s] at this
      · exact this
      · generalize decide (r.num < 0) = g at *
        generalize decide (s.num < 0) = g' at *
        rw [er, es]
        cases g <;> cases g'
        · exact absurd rfl hg
        · simp only [sgI, Bool.false_eq_true, if_false, if_true]; simp; grind
        · simp only [sgI, Bool.false_eq_true, if_false, if_true]; simp; grind
        · exact absurd rfl hg
end Go.Proofs.YtfalncbcomlelaaGreatDoor.L
