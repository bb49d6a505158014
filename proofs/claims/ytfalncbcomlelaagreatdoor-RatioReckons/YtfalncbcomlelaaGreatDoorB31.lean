import Derived.Test.YtfalncbcomlelaaGreatDoorQm1
namespace Go.Proofs.YtfalncbcomlelaaGreatDoor.L
open Go.RowKit Tl

/-- Q's Mul of the reference. -/
theorem QMul_any (a b : Value) (r s : Rat) (K : Nat) (w : World) (ha : IsQ w a r) (hb : IsQ w b s) (hr : QS r K) (hs : QS s K) (hK : K ≤ 1000000000) :
    Calls Tryz.prog 32 #[a, b] w fun e w' => ∃ v, e = .returned v ∧ IsQ w' v (r * s) ∧ Below w.heap.size w w' := by
  obtain ⟨A, B, p1, p2, c1, c2, rfl, h1, n1, v1, h2, n2, v2⟩ := ha
  obtain ⟨C, D, p3, p4, c3, c4, rfl, h3, n3, v3, h4, n4, v4⟩ := hb
  have l1 : A.length ≤ K := len_of_lt h1.1 n1 (by rw [v1]; exact hr.1)
  have l2 : B.length ≤ K := len_of_lt h2.1 n2 (by rw [v2]; exact hr.2)
  have l3 : C.length ≤ K := len_of_lt h3.1 n3 (by rw [v3]; exact hs.1)
  have l4 : D.length ≤ K := len_of_lt h4.1 n4 (by rw [v4]; exact hs.2)
  have b0 : 0 < val B := by rw [v2]; exact den_pos' r
  have d0 : 0 < val D := by rw [v4]; exact den_pos' s
  have er := num_sg r
  have es := num_sg s
  have := qmul_raw (decide (r.num < 0)) (decide (s.num < 0)) _ rfl p1 p2 p3 p4 c1 c2 c3 c4 A B C D w h1 h2 h3 h4 (by omega) (by omega) (by omega) (by omega) b0 d0
  rw [v1, v2, v3, v4] at this
  have e : mkRat (sgI (!(decide (r.num < 0) == decide (s.num < 0))) ((r.num.natAbs : Int) * s.num.natAbs)) ((r.den : Int) * s.den).toNat = r * s := by
    rw [Rat.mul_def']
    congr 1
    generalize decide (r.num < 0) = g at *
    generalize decide (s.num < 0) = g' at *
    rw [er, es]
    cases g <;> cases g'
    · show sgI false _ = _
      simp only [sgI, Bool.false_eq_true, if_false]; simp
    · show sgI true _ = _
      simp only [sgI, Bool.false_eq_true, if_false, if_true]; grind
    · show sgI true _ = _
      simp only [sgI, Bool.false_eq_true, if_false, if_true]; grind
    · show sgI false _ = _
      simp only [sgI, Bool.false_eq_true, if_false, if_true]; grind
  rw [e] at this
  exact this
/-- Q's Div of the reference. -/
theorem QDiv_any (a b : Value) (r s : Rat) (K : Nat) (w : World) (ha : IsQ w a r) (hb : IsQ w b s) (hr : QS r K) (hs : QS s K) (hK : K ≤ 1000000000) (sz : s ≠ 0) :
    Calls Tryz.prog 34 #[a, b] w fun e w' => ∃ v, e = .returned v ∧ IsQ w' v (r / s) ∧ Below w.heap.size w w' := by
  obtain ⟨A, B, p1, p2, c1, c2, rfl, h1, n1, v1, h2, n2, v2⟩ := ha
  obtain ⟨C, D, p3, p4, c3, c4, rfl, h3, n3, v3, h4, n4, v4⟩ := hb
  have l1 : A.length ≤ K := len_of_lt h1.1 n1 (by rw [v1]; exact hr.1)
  have l2 : B.length ≤ K := len_of_lt h2.1 n2 (by rw [v2]; exact hr.2)
  have l3 : C.length ≤ K := len_of_lt h3.1 n3 (by rw [v3]; exact hs.1)
  have l4 : D.length ≤ K := len_of_lt h4.1 n4 (by rw [v4]; exact hs.2)
  have b0 : 0 < val B := by rw [v2]; exact den_pos' r
  have nz : s.num ≠ 0 := fun k => sz (Rat.num_eq_zero.1 k)
  have c0 : 0 < val C := by rw [v3]; omega
  have er := num_sg r
  have := qdiv_raw (decide (r.num < 0)) (decide (s.num < 0)) _ rfl p1 p2 p3 p4 c1 c2 c3 c4 A B C D w h1 h2 h3 h4 (by omega) (by omega) (by omega) (by omega) b0 c0
  rw [v1, v2, v3, v4] at this
  have e : mkRat (sgI (!(decide (r.num < 0) == decide (s.num < 0))) ((r.num.natAbs : Int) * s.den)) ((r.den : Int) * s.num.natAbs).toNat = r / s := by
    rw [Rat.div_def, Rat.mul_def', Rat.num_inv, Rat.den_inv, if_neg nz]
    congr 1
    by_cases c : s.num < 0
    · rw [decide_eq_true c, Int.sign_eq_neg_one_of_neg c]
      generalize decide (r.num < 0) = g at *
      rw [er]
      cases g
      · show sgI true _ = _
        simp only [sgI, Bool.false_eq_true, if_false, if_true]; grind
      · show sgI false _ = _
        simp only [sgI, Bool.false_eq_true, if_false, if_true]; grind
    · rw [decide_eq_false c, Int.sign_eq_one_of_pos (by omega)]
      generalize decide (r.num < 0) = g at *
      rw [er]
      cases g
      · show sgI false _ = _
        simp only [sgI, Bool.false_eq_true, if_false]; grind
      · show sgI true _ = _
        simp only [sgI, if_true]; grind
  rw [e] at this
  exact this
end Go.Proofs.YtfalncbcomlelaaGreatDoor.L
