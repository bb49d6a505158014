import Derived.Test.YtfalncbcomlelaaGreatDoorRf1
import Derived.Test.YtfalncbcomlelaaGreatDoorRng
import Derived.Test.YtfalncbcomlelaaGreatDoorCompare2
import Derived.Deep.RegionHeld3
namespace Go.Proofs.YtfalncbcomlelaaGreatDoor.Mo
open Go.RowKit Tn

/-- The sign of an exact number. -/
def psg (r : Rat) : Int := if r.num < 0 then -1 else if r.num = 0 then 0 else 1
theorem Sign_p (v : Value) (r : Rat) (w : World) (h : PF w v r) :
    Calls Tryz.prog 46 #[v] w fun e w' => e = .returned (.int .i64 (psg r)) ∧ Below w.heap.size w w' := by
  obtain ⟨a, l, c, a', l', c', rfl, ⟨xs, r1, n1, v1⟩, k2⟩ := h
  refine (sign_any _ _ _ xs w r1 n1 ⟨_, _, _, rfl⟩).mono ?_
  rintro e w' ⟨rfl, b⟩
  refine ⟨?_, b⟩
  rw [v1]
  unfold psg
  by_cases g : r.num < 0
  · simp [g]
  · by_cases z : r.num = 0
    · simp [z]
    · simp [g, z]
/-- Which one is the lesser. -/
def pcm (r s : Rat) : Int := if r < s then -1 else if s < r then 1 else 0
theorem pcm_eq (r s : Rat) : cmpF (decide (r.num < 0)) r.num.natAbs r.den (decide (s.num < 0)) s.num.natAbs s.den = pcm r s := by
  have d1 := den_p r
  have d2 := den_p s
  unfold pcm cmpF
  simp only [Rat.lt_iff]
  have S : ∀ {x d : Int}, 0 < d → x < 0 → x * d < 0 := fun h1 h2 => Int.mul_neg_of_neg_of_pos h2 h1
  have P : ∀ {x d : Int}, 0 < d → 0 ≤ x → 0 ≤ x * d := fun h1 h2 => Int.mul_nonneg h2 (Int.le_of_lt h1)
  by_cases g1 : r.num < 0 <;> by_cases g2 : s.num < 0
  · simp only [g1, g2, decide_true, if_true]
    unfold cmp3
    rw [show (r.num.natAbs : Int) = -r.num by omega, show (s.num.natAbs : Int) = -s.num by omega, Int.neg_mul, Int.neg_mul]
    generalize r.num * (s.den : Int) = x
    generalize s.num * (r.den : Int) = y
    split <;> split <;> (try split) <;> (try split) <;> first | rfl | omega
  · simp only [g1, g2, decide_true, decide_false, if_true, Bool.false_eq_true, if_false]
    have a1 := S d2 g1
    have a2 := P d1 (show 0 ≤ s.num by omega)
    rw [if_pos (by omega)]
  · simp only [g1, g2, decide_true, decide_false, if_true, Bool.false_eq_true, if_false]
    have a1 := S d1 g2
    have a2 := P d2 (show 0 ≤ r.num by omega)
    rw [if_neg (by omega), if_pos (by omega)]
  · simp only [g1, g2, decide_false, Bool.false_eq_true, if_false]
    unfold cmp3
    rw [show (r.num.natAbs : Int) = r.num by omega, show (s.num.natAbs : Int) = s.num by omega]
end Go.Proofs.YtfalncbcomlelaaGreatDoor.Mo
