import Derived.Test.YtjgljcifnklmeaaFl10
namespace Go.Proofs.Ytjgljcifnklmeaa
open Go.RowKit Tn

/-- Whether the neighbour that is farther from nought is taken, by the way. -/
def awayF (way : Int) (neg odd : Bool) (half : Int) : Bool :=
  if way = 1 then neg else if way = 2 then !neg else if way = 4 then true else if way = 5 then decide (0 ≤ half) else if way = 6 then (decide (0 < half) || (half == 0 && odd)) else false
theorem away_cases (P : Int → Prop) (way : Int) (h1 : P 1) (h2 : P 2) (h4 : P 4) (h5 : P 5) (h6 : P 6) (h0 : way ≠ 1 → way ≠ 2 → way ≠ 4 → way ≠ 5 → way ≠ 6 → P way) : P way := by
  by_cases a : way = 1
  · rw [a]; exact h1
  by_cases b : way = 2
  · rw [b]; exact h2
  by_cases c : way = 4
  · rw [c]; exact h4
  by_cases d : way = 5
  · rw [d]; exact h5
  by_cases e : way = 6
  · rw [e]; exact h6
  exact h0 a b c d e
set_option maxRecDepth 100000 in
set_option maxHeartbeats 800000 in
/-- exact.IsAway. -/
theorem IsAway_any (neg odd : Bool) (half way : Int) (w : World) :
    Calls Try.prog 105 #[.bool neg, .bool odd, .int .i64 half, .int .i64 way] w fun e w' => e = .returned (.bool (awayF way neg odd half)) ∧ w' = w := by
  refine away_cases (fun way => Calls Try.prog 105 #[.bool neg, .bool odd, .int .i64 half, .int .i64 way] w fun e w' => e = .returned (.bool (awayF way neg odd half)) ∧ w' = w) way ?_ ?_ ?_ ?_ ?_ ?_
  · simp only [awayF]
    go_enter Try.func105, Try.ntmps105
    go_wp2
    go_ret
    exact ⟨by simp, rfl⟩
  · simp only [awayF]
    go_enter Try.func105, Try.ntmps105
    go_wp2
    go_ret
    exact ⟨by simp, rfl⟩
  · simp only [awayF]
    go_enter Try.func105, Try.ntmps105
    go_wp2
    go_ret
    exact ⟨by simp, rfl⟩
  · simp only [awayF]
    go_enter Try.func105, Try.ntmps105
    go_wp2
    go_ret
    exact ⟨by simp, rfl⟩
  · have e : awayF 6 neg odd half = (decide (0 < half) || (half == 0 && odd)) := by simp [awayF]
    rw [e]
    clear e
    by_cases h1 : 0 < half
    · have d1 : decide (half > 0) = true := decide_eq_true h1
      go_enter Try.func105, Try.ntmps105
      go_wp2
      go_ret
      exact ⟨by simp [h1], rfl⟩
    · have d1 : decide (half > 0) = false := decide_eq_false h1
      by_cases h2 : half = 0
      · subst h2
        go_enter Try.func105, Try.ntmps105
        go_wp2
        go_ret
        exact ⟨by simp, rfl⟩
      · have d2 : (half == 0) = false := by rw [beq_eq_false_iff_ne]; exact h2
        go_enter Try.func105, Try.ntmps105
        go_wp2
        go_ret
        exact ⟨by simp, rfl⟩
  · intro a b c d e
    have f1 : (way == 1) = false := by rw [beq_eq_false_iff_ne]; exact a
    have f2 : (way == 2) = false := by rw [beq_eq_false_iff_ne]; exact b
    have f4 : (way == 4) = false := by rw [beq_eq_false_iff_ne]; exact c
    have f5 : (way == 5) = false := by rw [beq_eq_false_iff_ne]; exact d
    have f6 : (way == 6) = false := by rw [beq_eq_false_iff_ne]; exact e
    have r : awayF way neg odd half = false := by simp [awayF, a, b, c, d, e]
    rw [r]
    clear a b c d e r
    go_enter Try.func105, Try.ntmps105
    go_wp2
    go_ret
    exact ⟨rfl, rfl⟩
set_option maxRecDepth 100000 in
set_option maxHeartbeats 800000 in
/-- The reference's away. -/
theorem Away_any (neg odd : Bool) (half way : Int) (w : World) :
    Calls Try.prog 87 #[.int .i64 way, .bool neg, .bool odd, .int .i64 half] w fun e w' => e = .returned (.bool (awayF way neg odd half)) ∧ w' = w := by
  refine away_cases (fun way => Calls Try.prog 87 #[.int .i64 way, .bool neg, .bool odd, .int .i64 half] w fun e w' => e = .returned (.bool (awayF way neg odd half)) ∧ w' = w) way ?_ ?_ ?_ ?_ ?_ ?_
  · simp only [awayF]
    go_enter Try.func87, Try.ntmps87
    go_wp2
    go_ret
    exact ⟨by simp, rfl⟩
  · simp only [awayF]
    go_enter Try.func87, Try.ntmps87
    go_wp2
    go_ret
    exact ⟨by simp, rfl⟩
  · simp only [awayF]
    go_enter Try.func87, Try.ntmps87
    go_wp2
    go_ret
    exact ⟨by simp, rfl⟩
  · simp only [awayF]
    go_enter Try.func87, Try.ntmps87
    go_wp2
    go_ret
    exact ⟨by simp, rfl⟩
  · have e : awayF 6 neg odd half = (decide (0 < half) || (half == 0 && odd)) := by simp [awayF]
    rw [e]
    clear e
    by_cases h1 : 0 < half
    · have d1 : decide (half > 0) = true := decide_eq_true h1
      go_enter Try.func87, Try.ntmps87
      go_wp2
      go_ret
      exact ⟨by simp [h1], rfl⟩
    · have d1 : decide (half > 0) = false := decide_eq_false h1
      by_cases h2 : half = 0
      · subst h2
        go_enter Try.func87, Try.ntmps87
        go_wp2
        go_ret
        exact ⟨by simp, rfl⟩
      · have d2 : (half == 0) = false := by rw [beq_eq_false_iff_ne]; exact h2
        go_enter Try.func87, Try.ntmps87
        go_wp2
        go_ret
        exact ⟨by simp, rfl⟩
  · intro a b c d e
    have f1 : (way == 1) = false := by rw [beq_eq_false_iff_ne]; exact a
    have f2 : (way == 2) = false := by rw [beq_eq_false_iff_ne]; exact b
    have f4 : (way == 4) = false := by rw [beq_eq_false_iff_ne]; exact c
    have f5 : (way == 5) = false := by rw [beq_eq_false_iff_ne]; exact d
    have f6 : (way == 6) = false := by rw [beq_eq_false_iff_ne]; exact e
    have r : awayF way neg odd half = false := by simp [awayF, a, b, c, d, e]
    rw [r]
    clear a b c d e r
    go_enter Try.func87, Try.ntmps87
    go_wp2
    go_ret
    exact ⟨rfl, rfl⟩
end Go.Proofs.Ytjgljcifnklmeaa
