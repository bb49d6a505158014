import Derived.Test.YtbfaebaoekimhaaVf7
namespace Go.Proofs.Ytbfaebaoekimhaa.Vf
open Go.RowKit Tn

theorem Flows_bad (K W T S k : Int) (w : World) (h : okB K W T S = false) : Calls Try.prog 5 #[.agg #[.int .i64 K, .int .i64 W, .int .i64 T, .int .i64 S], .int .i64 k] w fun e w' => e = .returned (.tuple #[.slice none 0 0, .int .i64 130]) ∧ Below w.heap.size w w' := by
  have C := fun x => Check_any K W T S x
  rw [h] at C
  have K0 := Bb.new w K W T S
  have pr := bl (w := w) #[.int .i64 K, .int .i64 W, .int .i64 T, .int .i64 S] 23
  have q0 := K0.c0
  have q1 := K0.c1
  have q2 := K0.c2
  have q3 := K0.c3
  unfold bn er at C
  clear h
  go_enter Try.func5, Try.ntmps5
  go_wp2_with (first
    | (go_at_call 7; (refine (C _).mono ?_); (rintro e w1 ⟨rfl, b1⟩); (have p1 := belT pr b1))
    | fail)
  go_ret2
  exact ⟨rfl, p1⟩
theorem Flows_range (K W T S k : Int) (w : World) (h : okB K W T S = true) (hk : k < 0 ∨ 130 < k) : Calls Try.prog 5 #[.agg #[.int .i64 K, .int .i64 W, .int .i64 T, .int .i64 S], .int .i64 k] w fun e w' => e = .returned (.tuple #[.slice none 0 0, .int .i64 1]) ∧ Below w.heap.size w w' := by
  have C := fun x => Check_any K W T S x
  rw [h] at C
  have K0 := Bb.new w K W T S
  have pr := bl (w := w) #[.int .i64 K, .int .i64 W, .int .i64 T, .int .i64 S] 23
  have q0 := K0.c0
  have q1 := K0.c1
  have q2 := K0.c2
  have q3 := K0.c3
  unfold bn er at C
  clear h
  by_cases h0 : k < 0
  all_goals
    try (have h1 : 130 < k := by omega)
    clear hk
    go_enter Try.func5, Try.ntmps5
    go_wp2_with (first
      | (go_at_call 7; (refine (C _).mono ?_); (rintro e w1 ⟨rfl, b1⟩); (have p1 := belT pr b1))
      | fail)
    go_ret2
    exact ⟨rfl, p1⟩
theorem RFlows_bad (K W T S k : Int) (w : World) (h : okB K W T S = false) : Calls Try.prog 6 #[.agg #[.int .i64 K, .int .i64 W, .int .i64 T, .int .i64 S], .int .i64 k] w fun e w' => e = .returned (.tuple #[.slice none 0 0, .int .i64 130]) ∧ Below w.heap.size w w' := by
  have C := fun x => RCheck_any K W T S x
  rw [h] at C
  have K0 := Bb.new w K W T S
  have pr := bl (w := w) #[.int .i64 K, .int .i64 W, .int .i64 T, .int .i64 S] 23
  have q0 := K0.c0
  have q1 := K0.c1
  have q2 := K0.c2
  have q3 := K0.c3
  unfold bn er at C
  clear h
  go_enter Try.func6, Try.ntmps6
  go_wp2_with (first
    | (go_at_call 8; (refine (C _).mono ?_); (rintro e w1 ⟨rfl, b1⟩); (have p1 := belT pr b1))
    | fail)
  go_ret2
  exact ⟨rfl, p1⟩
theorem RFlows_range (K W T S k : Int) (w : World) (h : okB K W T S = true) (hk : k < 0 ∨ 130 < k) : Calls Try.prog 6 #[.agg #[.int .i64 K, .int .i64 W, .int .i64 T, .int .i64 S], .int .i64 k] w fun e w' => e = .returned (.tuple #[.slice none 0 0, .int .i64 1]) ∧ Below w.heap.size w w' := by
  have C := fun x => RCheck_any K W T S x
  rw [h] at C
  have K0 := Bb.new w K W T S
  have pr := bl (w := w) #[.int .i64 K, .int .i64 W, .int .i64 T, .int .i64 S] 23
  have q0 := K0.c0
  have q1 := K0.c1
  have q2 := K0.c2
  have q3 := K0.c3
  unfold bn er at C
  clear h
  by_cases h0 : k < 0
  all_goals
    try (have h1 : 130 < k := by omega)
    clear hk
    go_enter Try.func6, Try.ntmps6
    go_wp2_with (first
      | (go_at_call 8; (refine (C _).mono ?_); (rintro e w1 ⟨rfl, b1⟩); (have p1 := belT pr b1))
      | fail)
    go_ret2
    exact ⟨rfl, p1⟩
end Go.Proofs.Ytbfaebaoekimhaa.Vf
