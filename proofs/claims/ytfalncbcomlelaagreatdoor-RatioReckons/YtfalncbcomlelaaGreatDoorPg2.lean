import Derived.Test.YtfalncbcomlelaaGreatDoorEr12
import Derived.Test.YtfalncbcomlelaaGreatDoorPf1
namespace Go.Proofs.YtfalncbcomlelaaGreatDoor.Mo
open Go.RowKit Fu Tn Go.Lib

theorem add_num (r s : Rat) : (r + s).num = (r.num * ((s.den / r.den.gcd s.den : Nat) : Int) + s.num * ((r.den / r.den.gcd s.den : Nat) : Int)) / (((r.num * ((s.den / r.den.gcd s.den : Nat) : Int) + s.num * ((r.den / r.den.gcd s.den : Nat) : Int)).natAbs.gcd (r.den.gcd s.den) : Nat) : Int) := by
  show (Rat.add r s).num = _
  unfold Rat.add
  dsimp only
  split
  · rename_i h
    rw [h]; simp
  · unfold Rat.maybeNormalize
    split
    · rename_i h
      dsimp only
      rw [h]; simp
    · simp [Int.divExact_eq_ediv]
theorem add_den (r s : Rat) : (r + s).den = r.den / r.den.gcd s.den * s.den / ((r.num * ((s.den / r.den.gcd s.den : Nat) : Int) + s.num * ((r.den / r.den.gcd s.den : Nat) : Int)).natAbs.gcd (r.den.gcd s.den)) := by
  show (Rat.add r s).den = _
  unfold Rat.add
  dsimp only
  split
  · rename_i h
    rw [h]; simp
  · unfold Rat.maybeNormalize
    split
    · rename_i h
      dsimp only
      rw [h]; simp
    · simp [Nat.divExact_eq_div]
/-- The parts of a sum. -/
theorem plus_low (r s : Rat) (Z : Int) (G L : Nat) (hG : r.den.gcd s.den = G) (hZ : r.num * ((s.den : Int) / (G : Int)) + s.num * ((r.den : Int) / (G : Int)) = Z) (hL : Z.natAbs.gcd G = L) :
    ((r + s).num.natAbs : Int) = (Z.natAbs : Int) / (L : Int) ∧ ((r + s).den : Int) = (r.den : Int) / (G : Int) * ((s.den : Int) / (L : Int)) ∧ decide ((r + s).num < 0) = decide (Z < 0) := by
  have e1 := add_num r s
  have e2 := add_den r s
  rw [hG, Int.natCast_ediv, Int.natCast_ediv, hZ, hL] at e1 e2
  have g0 : 0 < G := hG ▸ Nat.gcd_pos_of_pos_right _ (Nat.pos_of_ne_zero s.den_nz)
  have d1 : L ∣ Z.natAbs := hL ▸ Nat.gcd_dvd_left _ _
  have d2 : L ∣ G := hL ▸ Nat.gcd_dvd_right _ _
  have d3 : G ∣ s.den := hG ▸ Nat.gcd_dvd_right _ _
  have l0 : 0 < L := Nat.pos_of_dvd_of_pos d2 g0
  refine ⟨?_, ?_, ?_⟩
  · rw [e1, abs_div d1]
  · rw [e2, Nat.mul_div_assoc _ (Nat.dvd_trans d2 d3), Int.natCast_mul, Int.natCast_ediv, Int.natCast_ediv]
  · rw [e1, decide_eq_decide]
    exact div_neg_iff d1 l0
/-- PlusSigned, of two numbers with their signs. -/
theorem PSigned_n (X Y : Int) {P1 P2 : Option Addr} {M1 C1 M2 C2 : Nat} {w : World} (k1 : Nn w P1 M1 C1 (X.natAbs : Int)) (k2 : Nn w P2 M2 C2 (Y.natAbs : Int)) {m : Nat} (hA : (X.natAbs : Int) < pw m) (hB : (Y.natAbs : Int) < pw m) (hm : m ≤ 1000000) :
    Calls Tryz.prog 78 #[.bool (decide (X < 0)), .agg #[.slice P1 M1 C1], .bool (decide (Y < 0)), .agg #[.slice P2 M2 C2]] w fun e w' => ∃ a l c, e = .returned (.tuple #[.bool (decide (X + Y < 0)), .agg #[.slice a l c]]) ∧ Nn w' a l c ((X + Y).natAbs : Int) ∧ Below w.heap.size w w' := by
  by_cases hg : (decide (X < 0) == decide (Y < 0)) = true
  · have e : (X < 0 ↔ Y < 0) := by simpa using hg
    have e1 : decide (X < 0) = decide (X + Y < 0) := by rw [decide_eq_decide]; omega
    have e2 : (X.natAbs : Int) + (Y.natAbs : Int) = ((X + Y).natAbs : Int) := by omega
    have t := PSigned_alike _ _ P1 P2 M1 C1 M2 C2 _ _ w k1 k2 m hA hB hm hg
    rw [e2] at t
    refine t.mono ?_
    rintro q w' ⟨a, l, c, rfl, n, b⟩
    exact ⟨a, l, c, by rw [e1], n, b⟩
  · simp only [Bool.not_eq_true] at hg
    have e : ¬ (X < 0 ↔ Y < 0) := by
      intro c
      rw [show decide (X < 0) = decide (Y < 0) from decide_eq_decide.2 c] at hg
      simp at hg
    by_cases c1 : (X.natAbs : Int) < (Y.natAbs : Int)
    · have e1 : decide (Y < 0) = decide (X + Y < 0) := by rw [decide_eq_decide]; omega
      have e2 : (Y.natAbs : Int) - (X.natAbs : Int) = ((X + Y).natAbs : Int) := by omega
      have t := PSigned_less _ _ P1 P2 M1 C1 M2 C2 _ _ w k1 k2 m hA hB hm hg (by unfold cmp3; rw [if_pos c1])
      rw [e2] at t
      refine t.mono ?_
      rintro q w' ⟨a, l, c, rfl, n, b⟩
      exact ⟨a, l, c, by rw [e1], n, b⟩
    · by_cases c2 : (Y.natAbs : Int) < (X.natAbs : Int)
      · have e1 : decide (X < 0) = decide (X + Y < 0) := by rw [decide_eq_decide]; omega
        have e2 : (X.natAbs : Int) - (Y.natAbs : Int) = ((X + Y).natAbs : Int) := by omega
        have t := PSigned_more _ _ P1 P2 M1 C1 M2 C2 _ _ w k1 k2 m hA hB hm hg (by unfold cmp3; rw [if_neg c1, if_pos c2])
        rw [e2] at t
        refine t.mono ?_
        rintro q w' ⟨a, l, c, rfl, n, b⟩
        exact ⟨a, l, c, by rw [e1], n, b⟩
      · have e1 : decide (X + Y < 0) = false := by rw [decide_eq_false_iff_not]; omega
        have e2 : ((X + Y).natAbs : Int) = 0 := by omega
        have t := PSigned_nought _ _ P1 P2 M1 C1 M2 C2 _ _ w k1 k2 m hA hm hg (by unfold cmp3; rw [if_neg c1, if_neg c2])
        refine t.mono ?_
        rintro q w' ⟨a, l, c, rfl, n, b⟩
        exact ⟨a, l, c, by rw [e1], by rw [e2]; exact n, b⟩
end Go.Proofs.YtfalncbcomlelaaGreatDoor.Mo
