import Derived.Test.YtbfaebaoekimhaaVf3
namespace Go.Proofs.Ytbfaebaoekimhaa.Vf
open Go.RowKit Tn

theorem kd_b (K : Int) : (kd K).isSome = (decide (1 ≤ K) && decide (K ≤ 7)) := by
  unfold kd
  split <;> first | (subst_vars; rfl) | skip
  split <;> first | (subst_vars; rfl) | skip
  split <;> first | (subst_vars; rfl) | skip
  split <;> first | (subst_vars; rfl) | skip
  split <;> first | (subst_vars; rfl) | skip
  split <;> first | (subst_vars; rfl) | skip
  split <;> first | (subst_vars; rfl) | skip
  by_cases h1 : 1 ≤ K
  · have h7 : ¬ K ≤ 7 := by omega
    simp [h7]
  · simp [h1]
set_option maxRecDepth 100000 in
set_option maxHeartbeats 3200000 in
theorem RCheck_any (K W T S : Int) (w : World) : Calls Try.prog 8 #[bn K W T S] w fun e w' => e = .returned (.int .i64 (er (okB K W T S))) ∧ Below w.heap.size w w' := by
  have K0 := Bb.new w K W T S
  have pr := bl (w := w) #[.int .i64 K, .int .i64 W, .int .i64 T, .int .i64 S] 23
  have q0 := K0.c0
  have q1 := K0.c1
  have q2 := K0.c2
  have q3 := K0.c3
  clear K0
  obtain ⟨R, hR⟩ : ∃ R, er (okB K W T S) = R := ⟨_, rfl⟩
  rw [hR]
  have HR : Hid (er ((kd K).isSome && decide (0 ≤ W) && decide (W ≤ 130) && decide (1 ≤ T) && decide (T ≤ 130) && decide (0 ≤ S) && decide (S ≤ ms K T)) = R) := hR
  clear hR
  unfold bn
  by_cases k4 : K = 4
  · subst k4
    by_cases h2 : W < 0
    · obtain rfl : R = 130 := by rw [← HR.out, kd_b]; simp [er, ms]; omega
      have d2 : decide (W < 0) = true := by simp; omega
      clear HR
      go_enter Try.func8, Try.ntmps8
      go_wp2_with fail
      go_ret
      exact ⟨rfl, pr⟩
    by_cases h3 : 130 < W
    · obtain rfl : R = 130 := by rw [← HR.out, kd_b]; simp [er, ms]; omega
      have d2 : decide (W < 0) = false := by simp; omega
      have d3 : decide (130 < W) = true := by simp; omega
      clear HR
      go_enter Try.func8, Try.ntmps8
      go_wp2_with fail
      go_ret
      exact ⟨rfl, pr⟩
    by_cases h4 : T < 1
    · obtain rfl : R = 130 := by rw [← HR.out, kd_b]; simp [er, ms]; omega
      have d2 : decide (W < 0) = false := by simp; omega
      have d3 : decide (130 < W) = false := by simp; omega
      have d4 : decide (T < 1) = true := by simp; omega
      clear HR
      go_enter Try.func8, Try.ntmps8
      go_wp2_with fail
      go_ret
      exact ⟨rfl, pr⟩
    by_cases h5 : 130 < T
    · obtain rfl : R = 130 := by rw [← HR.out, kd_b]; simp [er, ms]; omega
      have d2 : decide (W < 0) = false := by simp; omega
      have d3 : decide (130 < W) = false := by simp; omega
      have d4 : decide (T < 1) = false := by simp; omega
      have d5 : decide (130 < T) = true := by simp; omega
      clear HR
      go_enter Try.func8, Try.ntmps8
      go_wp2_with fail
      go_ret
      exact ⟨rfl, pr⟩
    by_cases h6 : S < 0
    · obtain rfl : R = 130 := by rw [← HR.out, kd_b]; simp [er, ms]; omega
      have d2 : decide (W < 0) = false := by simp; omega
      have d3 : decide (130 < W) = false := by simp; omega
      have d4 : decide (T < 1) = false := by simp; omega
      have d5 : decide (130 < T) = false := by simp; omega
      have d6 : decide (S < 0) = true := by simp; omega
      clear HR
      go_enter Try.func8, Try.ntmps8
      go_wp2_with fail
      go_ret
      exact ⟨rfl, pr⟩
    by_cases h7 : T < S
    · obtain rfl : R = 130 := by rw [← HR.out, kd_b]; simp [er, ms]; omega
      have d2 : decide (W < 0) = false := by simp; omega
      have d3 : decide (130 < W) = false := by simp; omega
      have d4 : decide (T < 1) = false := by simp; omega
      have d5 : decide (130 < T) = false := by simp; omega
      have d6 : decide (S < 0) = false := by simp; omega
      have d7 : decide (T < S) = true := by simp; omega
      clear HR
      go_enter Try.func8, Try.ntmps8
      go_wp2_with fail
      go_ret
      exact ⟨rfl, pr⟩
    obtain rfl : R = 0 := by rw [← HR.out, kd_b]; simp [er, ms]; omega
    have d2 : decide (W < 0) = false := by simp; omega
    have d3 : decide (130 < W) = false := by simp; omega
    have d4 : decide (T < 1) = false := by simp; omega
    have d5 : decide (130 < T) = false := by simp; omega
    have d6 : decide (S < 0) = false := by simp; omega
    have d7 : decide (T < S) = false := by simp; omega
    clear HR
    go_enter Try.func8, Try.ntmps8
    go_wp2_with fail
    all_goals
      go_ret
      exact ⟨rfl, pr⟩
  by_cases k5 : K = 5
  · subst k5
    by_cases h2 : W < 0
    · obtain rfl : R = 130 := by rw [← HR.out, kd_b]; simp [er, ms]; omega
      have d2 : decide (W < 0) = true := by simp; omega
      clear HR
      go_enter Try.func8, Try.ntmps8
      go_wp2_with fail
      go_ret
      exact ⟨rfl, pr⟩
    by_cases h3 : 130 < W
    · obtain rfl : R = 130 := by rw [← HR.out, kd_b]; simp [er, ms]; omega
      have d2 : decide (W < 0) = false := by simp; omega
      have d3 : decide (130 < W) = true := by simp; omega
      clear HR
      go_enter Try.func8, Try.ntmps8
      go_wp2_with fail
      go_ret
      exact ⟨rfl, pr⟩
    by_cases h4 : T < 1
    · obtain rfl : R = 130 := by rw [← HR.out, kd_b]; simp [er, ms]; omega
      have d2 : decide (W < 0) = false := by simp; omega
      have d3 : decide (130 < W) = false := by simp; omega
      have d4 : decide (T < 1) = true := by simp; omega
      clear HR
      go_enter Try.func8, Try.ntmps8
      go_wp2_with fail
      go_ret
      exact ⟨rfl, pr⟩
    by_cases h5 : 130 < T
    · obtain rfl : R = 130 := by rw [← HR.out, kd_b]; simp [er, ms]; omega
      have d2 : decide (W < 0) = false := by simp; omega
      have d3 : decide (130 < W) = false := by simp; omega
      have d4 : decide (T < 1) = false := by simp; omega
      have d5 : decide (130 < T) = true := by simp; omega
      clear HR
      go_enter Try.func8, Try.ntmps8
      go_wp2_with fail
      go_ret
      exact ⟨rfl, pr⟩
    by_cases h6 : S < 0
    · obtain rfl : R = 130 := by rw [← HR.out, kd_b]; simp [er, ms]; omega
      have d2 : decide (W < 0) = false := by simp; omega
      have d3 : decide (130 < W) = false := by simp; omega
      have d4 : decide (T < 1) = false := by simp; omega
      have d5 : decide (130 < T) = false := by simp; omega
      have d6 : decide (S < 0) = true := by simp; omega
      clear HR
      go_enter Try.func8, Try.ntmps8
      go_wp2_with fail
      go_ret
      exact ⟨rfl, pr⟩
    by_cases h7 : T < S
    · obtain rfl : R = 130 := by rw [← HR.out, kd_b]; simp [er, ms]; omega
      have d2 : decide (W < 0) = false := by simp; omega
      have d3 : decide (130 < W) = false := by simp; omega
      have d4 : decide (T < 1) = false := by simp; omega
      have d5 : decide (130 < T) = false := by simp; omega
      have d6 : decide (S < 0) = false := by simp; omega
      have d7 : decide (T < S) = true := by simp; omega
      clear HR
      go_enter Try.func8, Try.ntmps8
      go_wp2_with fail
      go_ret
      exact ⟨rfl, pr⟩
    obtain rfl : R = 0 := by rw [← HR.out, kd_b]; simp [er, ms]; omega
    have d2 : decide (W < 0) = false := by simp; omega
    have d3 : decide (130 < W) = false := by simp; omega
    have d4 : decide (T < 1) = false := by simp; omega
    have d5 : decide (130 < T) = false := by simp; omega
    have d6 : decide (S < 0) = false := by simp; omega
    have d7 : decide (T < S) = false := by simp; omega
    clear HR
    go_enter Try.func8, Try.ntmps8
    go_wp2_with fail
    all_goals
      go_ret
      exact ⟨rfl, pr⟩
  have e4 : (K == 4) = false := beq_eq_false_iff_ne.2 k4
  have e5 : (K == 5) = false := beq_eq_false_iff_ne.2 k5
  by_cases h0 : K < 1
  · obtain rfl : R = 130 := by rw [← HR.out, kd_b, show ms K T = 0 from if_neg (by omega)]; simp [er]; omega
    have d0 : decide (K < 1) = true := by simp; omega
    clear HR
    go_enter Try.func8, Try.ntmps8
    go_wp2_with fail
    go_ret
    exact ⟨rfl, pr⟩
  by_cases h1 : 7 < K
  · obtain rfl : R = 130 := by rw [← HR.out, kd_b, show ms K T = 0 from if_neg (by omega)]; simp [er]; omega
    have d0 : decide (K < 1) = false := by simp; omega
    have d1 : decide (7 < K) = true := by simp; omega
    clear HR
    go_enter Try.func8, Try.ntmps8
    go_wp2_with fail
    go_ret
    exact ⟨rfl, pr⟩
  by_cases h2 : W < 0
  · obtain rfl : R = 130 := by rw [← HR.out, kd_b, show ms K T = 0 from if_neg (by omega)]; simp [er]; omega
    have d0 : decide (K < 1) = false := by simp; omega
    have d1 : decide (7 < K) = false := by simp; omega
    have d2 : decide (W < 0) = true := by simp; omega
    clear HR
    go_enter Try.func8, Try.ntmps8
    go_wp2_with fail
    go_ret
    exact ⟨rfl, pr⟩
  by_cases h3 : 130 < W
  · obtain rfl : R = 130 := by rw [← HR.out, kd_b, show ms K T = 0 from if_neg (by omega)]; simp [er]; omega
    have d0 : decide (K < 1) = false := by simp; omega
    have d1 : decide (7 < K) = false := by simp; omega
    have d2 : decide (W < 0) = false := by simp; omega
    have d3 : decide (130 < W) = true := by simp; omega
    clear HR
    go_enter Try.func8, Try.ntmps8
    go_wp2_with fail
    go_ret
    exact ⟨rfl, pr⟩
  by_cases h4 : T < 1
  · obtain rfl : R = 130 := by rw [← HR.out, kd_b, show ms K T = 0 from if_neg (by omega)]; simp [er]; omega
    have d0 : decide (K < 1) = false := by simp; omega
    have d1 : decide (7 < K) = false := by simp; omega
    have d2 : decide (W < 0) = false := by simp; omega
    have d3 : decide (130 < W) = false := by simp; omega
    have d4 : decide (T < 1) = true := by simp; omega
    clear HR
    go_enter Try.func8, Try.ntmps8
    go_wp2_with fail
    go_ret
    exact ⟨rfl, pr⟩
  by_cases h5 : 130 < T
  · obtain rfl : R = 130 := by rw [← HR.out, kd_b, show ms K T = 0 from if_neg (by omega)]; simp [er]; omega
    have d0 : decide (K < 1) = false := by simp; omega
    have d1 : decide (7 < K) = false := by simp; omega
    have d2 : decide (W < 0) = false := by simp; omega
    have d3 : decide (130 < W) = false := by simp; omega
    have d4 : decide (T < 1) = false := by simp; omega
    have d5 : decide (130 < T) = true := by simp; omega
    clear HR
    go_enter Try.func8, Try.ntmps8
    go_wp2_with fail
    go_ret
    exact ⟨rfl, pr⟩
  by_cases h6 : S < 0
  · obtain rfl : R = 130 := by rw [← HR.out, kd_b, show ms K T = 0 from if_neg (by omega)]; simp [er]; omega
    have d0 : decide (K < 1) = false := by simp; omega
    have d1 : decide (7 < K) = false := by simp; omega
    have d2 : decide (W < 0) = false := by simp; omega
    have d3 : decide (130 < W) = false := by simp; omega
    have d4 : decide (T < 1) = false := by simp; omega
    have d5 : decide (130 < T) = false := by simp; omega
    have d6 : decide (S < 0) = true := by simp; omega
    clear HR
    go_enter Try.func8, Try.ntmps8
    go_wp2_with fail
    go_ret
    exact ⟨rfl, pr⟩
  by_cases h7 : T < S
  · obtain rfl : R = 130 := by rw [← HR.out, kd_b, show ms K T = 0 from if_neg (by omega)]; simp [er]; omega
    have d0 : decide (K < 1) = false := by simp; omega
    have d1 : decide (7 < K) = false := by simp; omega
    have d2 : decide (W < 0) = false := by simp; omega
    have d3 : decide (130 < W) = false := by simp; omega
    have d4 : decide (T < 1) = false := by simp; omega
    have d5 : decide (130 < T) = false := by simp; omega
    have d6 : decide (S < 0) = false := by simp; omega
    have d7 : decide (T < S) = true := by simp; omega
    clear HR
    go_enter Try.func8, Try.ntmps8
    go_wp2_with fail
    go_ret
    exact ⟨rfl, pr⟩
  by_cases h8 : 0 < S
  · obtain rfl : R = 130 := by rw [← HR.out, kd_b, show ms K T = 0 from if_neg (by omega)]; simp [er]; omega
    have d0 : decide (K < 1) = false := by simp; omega
    have d1 : decide (7 < K) = false := by simp; omega
    have d2 : decide (W < 0) = false := by simp; omega
    have d3 : decide (130 < W) = false := by simp; omega
    have d4 : decide (T < 1) = false := by simp; omega
    have d5 : decide (130 < T) = false := by simp; omega
    have d6 : decide (S < 0) = false := by simp; omega
    have d7 : decide (T < S) = false := by simp; omega
    have d8 : decide (0 < S) = true := by simp; omega
    clear HR
    go_enter Try.func8, Try.ntmps8
    go_wp2_with fail
    go_ret
    exact ⟨rfl, pr⟩
  obtain rfl : R = 0 := by rw [← HR.out, kd_b, show ms K T = 0 from if_neg (by omega)]; simp [er]; omega
  have d0 : decide (K < 1) = false := by simp; omega
  have d1 : decide (7 < K) = false := by simp; omega
  have d2 : decide (W < 0) = false := by simp; omega
  have d3 : decide (130 < W) = false := by simp; omega
  have d4 : decide (T < 1) = false := by simp; omega
  have d5 : decide (130 < T) = false := by simp; omega
  have d6 : decide (S < 0) = false := by simp; omega
  have d7 : decide (T < S) = false := by simp; omega
  have d8 : decide (0 < S) = false := by simp; omega
  clear HR
  go_enter Try.func8, Try.ntmps8
  go_wp2_with fail
  all_goals
    go_ret
    exact ⟨rfl, pr⟩

end Go.Proofs.Ytbfaebaoekimhaa.Vf
