import Derived.Test.YtjgljcifnklmeaaFs5
namespace Go.Proofs.Ytjgljcifnklmeaa
open Go.RowKit Tn

theorem ng_cases (n : Nat) (hn : n < 18446744073709551616) : (ng64 n = true ∧ n = 9223372036854775808 + rg64 n) ∨ (ng64 n = false ∧ n = rg64 n) := by
  have s : ng64 n = (n / 9223372036854775808 % 2 == 1) := rfl
  have r : rg64 n = n % 9223372036854775808 := rfl
  cases h : ng64 n
  · right
    rw [h] at s
    have := s.symm
    simp at this
    exact ⟨rfl, by omega⟩
  · left
    rw [h] at s
    have := s.symm
    simp at this
    exact ⟨rfl, by omega⟩
theorem place_bd (n : Nat) : -9223372036854775808 < place64 n ∧ place64 n < 9223372036854775808 := by
  have r := rg64_lt n
  unfold place64
  split <;> omega
theorem steps_place (n m : Nat) (hn : n < 18446744073709551616) (hm : m < 18446744073709551616) : steps64 n m = if place64 n ≤ place64 m then place64 m - place64 n else place64 n - place64 m := by
  unfold place64 steps64
  rcases ng_cases n hn with ⟨g1, _⟩ | ⟨g1, _⟩ <;> rcases ng_cases m hm with ⟨g2, _⟩ | ⟨g2, _⟩ <;> rw [g1, g2] <;> simp only [if_true, if_false, Bool.false_eq_true, Bool.true_eq_false]
  · rcases Nat.le_total (rg64 n) (rg64 m) with l | l
    · rw [Int.max_eq_right (by omega), Int.min_eq_left (by omega)]; split <;> omega
    · rw [Int.max_eq_left (by omega), Int.min_eq_right (by omega)]; split <;> omega
  · split <;> omega
  · split <;> omega
  · rcases Nat.le_total (rg64 n) (rg64 m) with l | l
    · rw [Int.max_eq_right (by omega), Int.min_eq_left (by omega)]; split <;> omega
    · rw [Int.max_eq_left (by omega), Int.min_eq_right (by omega)]; split <;> omega
theorem RSteps_any (n m : Nat) (hn : n < 18446744073709551616) (hm : m < 18446744073709551616) (w : World) :
    Calls Try.prog 33 #[.int .u64 n, .int .u64 m] w fun e w' => e = .returned (if (nan64 n || nan64 m) = true then .tuple #[.int .u64 0, .bool false] else .tuple #[.int .u64 (steps64 n m), .bool true]) ∧ Below w.heap.size w w' := by
  refine RSteps_walk n m _ _ (place64 n) (place64 m) _ _ _ (IsNone64 n hn) (IsNone64 m hm) (place_any n hn) (place_any m hm) rfl rfl ?_ ?_ w
  · intro c
    rw [IntKind.wrap_u64, IntKind.wrap_u64, IntKind.wrap_u64, ← Int.sub_emod, steps_place n m hn hm, if_pos c]
    have := place_bd n
    have := place_bd m
    omega
  · intro c
    rw [IntKind.wrap_u64, IntKind.wrap_u64, IntKind.wrap_u64, ← Int.sub_emod, steps_place n m hn hm, if_neg (by omega)]
    have := place_bd n
    have := place_bd m
    omega
theorem rord_cmp (n m : Nat) (hn : n < 18446744073709551616) (hm : m < 18446744073709551616) : rord (nan64 n) (nan64 m) (place64 n) (place64 m) ((n : Int) == (m : Int)) (ng64 n) = ord3 (rank64 n) (rank64 m) := by
  have r1 := rg64_lt n
  have r2 := rg64_lt m
  have k1 : nan64 n = false → rg64 n ≤ 9218868437227405312 := by unfold nan64; rw [decide_eq_false_iff_not]; omega
  have k2 : nan64 m = false → rg64 m ≤ 9218868437227405312 := by unfold nan64; rw [decide_eq_false_iff_not]; omega
  have q : ((n : Int) == (m : Int)) = decide (n = m) := by rw [Bool.eq_iff_iff, beq_iff_eq, decide_eq_true_iff]; omega
  rw [q]
  unfold rord ord3 rank64 place64
  cases t1 : nan64 n <;> cases t2 : nan64 m <;> simp only [if_true, if_false, Bool.false_eq_true]
  · have j1 := k1 t1
    have j2 := k2 t2
    rcases ng_cases n hn with ⟨g1, e1⟩ | ⟨g1, e1⟩ <;> rcases ng_cases m hm with ⟨g2, e2⟩ | ⟨g2, e2⟩ <;> rw [g1, g2] <;> simp only [if_true, if_false, Bool.false_eq_true, decide_eq_true_eq]
    all_goals
      repeat' split
      all_goals omega
  · have j1 := k1 t1
    rcases ng_cases n hn with ⟨g1, e1⟩ | ⟨g1, e1⟩ <;> rw [g1] <;> simp only [if_true, if_false, Bool.false_eq_true]
    all_goals
      repeat' split
      all_goals omega
  · have j2 := k2 t2
    rcases ng_cases m hm with ⟨g2, e2⟩ | ⟨g2, e2⟩ <;> rw [g2] <;> simp only [if_true, if_false, Bool.false_eq_true]
    all_goals
      repeat' split
      all_goals omega
  · simp
theorem ROrder_any (n m : Nat) (hn : n < 18446744073709551616) (hm : m < 18446744073709551616) (w : World) :
    Calls Try.prog 29 #[.int .u64 n, .int .u64 m] w fun e w' => e = .returned (.int .i64 (ord3 (rank64 n) (rank64 m))) ∧ Below w.heap.size w w' := by
  have H := ROrder_walk n m _ _ _ _ (place64 n) (place64 m) (IsNone64 n hn) (IsNone64 m hm) (place_any n hn) (place_any m hm) (Neg_w n (ng64 n) (hg2W n hn)) rfl w
  rw [rord_cmp n m hn hm] at H
  exact H
set_option maxRecDepth 100000 in
theorem RSame_any (n m : Nat) (hn : n < 18446744073709551616) (hm : m < 18446744073709551616) (w : World) :
    Calls Try.prog 31 #[.int .u64 n, .int .u64 m] w fun e w' => e = .returned (.bool (ord3 (rank64 n) (rank64 m) == 0)) ∧ Below w.heap.size w w' := by
  have C := ROrder_any n m hn hm
  generalize ord3 (rank64 n) (rank64 m) = c at *
  go_enter Try.func31, Try.ntmps31
  go_wp2_with (first
    | (go_at_call 29; refine (C _).mono ?_; rintro x w1 ⟨rfl, b1⟩)
    | fail)
  go_ret
  exact ⟨rfl, b1⟩
end Go.Proofs.Ytjgljcifnklmeaa
