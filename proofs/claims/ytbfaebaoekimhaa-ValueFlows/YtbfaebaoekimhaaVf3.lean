import Derived.Test.YtbfaebaoekimhaaVf2
import Derived.Deep.RegionHeld3
namespace Go.Proofs.Ytbfaebaoekimhaa.Vf
open Go.RowKit Tn

theorem undrew {W w1 : World} (b : Below W.drew.heap.size W.drew w1) : Below W.heap.size W w1 := (show Below W.heap.size W W.drew from (Below.refl _ _).drew).trans b
theorem blN {w W : World} {n : Nat} (h : Below w.heap.size w W) : Below w.heap.size w (W.drewN n) := ⟨h.os, h.tape, h.output, h.size, h.block⟩

/-- How many payments may be sure. -/
def ms (K T : Int) : Int := if K = 4 ∨ K = 5 then T else 0
theorem mostSure_c (K W T S : Int) (w : World) : Calls Try.prog 14 #[bn K W T S] w fun e w' => e = .returned (.int .i64 (ms K T)) ∧ Below w.heap.size w w' := by
  have K0 := Bb.new w K W T S
  have pr := bl (w := w) #[.int .i64 K, .int .i64 W, .int .i64 T, .int .i64 S] 23
  have q0 := K0.c0
  have q2 := K0.c2
  unfold bn ms
  by_cases h4 : K = 4
  · subst h4
    go_enter Try.func14, Try.ntmps14
    go_wp2_with fail
    go_ret
    exact ⟨rfl, pr⟩
  · by_cases h5 : K = 5
    · subst h5
      go_enter Try.func14, Try.ntmps14
      go_wp2_with fail
      go_ret
      exact ⟨rfl, pr⟩
    · rw [if_neg (by omega)]
      have e4 : (K == 4) = false := beq_eq_false_iff_ne.2 h4
      have e5 : (K == 5) = false := beq_eq_false_iff_ne.2 h5
      go_enter Try.func14, Try.ntmps14
      go_wp2_with fail
      go_ret
      exact ⟨rfl, pr⟩
/-- Is a benefit right? -/
def okB (K W T S : Int) : Bool := (kd K).isSome && decide (0 ≤ W) && decide (W ≤ 130) && decide (1 ≤ T) && decide (T ≤ 130) && decide (0 ≤ S) && decide (S ≤ ms K T)
def er (b : Bool) : Int := if b then 0 else 130
set_option maxRecDepth 100000 in
set_option maxHeartbeats 1600000 in
theorem Check_w (K W T S : Int) (k0 v1 v2 v3 : Value) (y : Bool) (w : World) (hy : (kd K).isSome = y)
    (hst : ∀ x c m, c = v1 ∨ c = v2 ∨ c = v3 → ∀ p, (store p c m).run Try.prog x = stored Try.prog x p c m)
    (C : ∀ x, Calls Try.prog 11 #[.int .i64 K] x fun e w' => e = .returned (.tuple #[.agg #[k0, v1, v2, v3], .bool y]) ∧ Below x.heap.size x w') (hk : ∃ z, k0 = .int .i64 z) (R : Int) (hR : er (okB K W T S) = R) :
    Calls Try.prog 7 #[bn K W T S] w fun e w' => e = .returned (.int .i64 R) ∧ Below w.heap.size w w' := by
  obtain ⟨z, rfl⟩ := hk
  have s1 := fun x m p => hst x v1 m (Or.inl rfl) p
  have s2 := fun x m p => hst x v2 m (Or.inr (Or.inl rfl)) p
  have s3 := fun x m p => hst x v3 m (Or.inr (Or.inr rfl)) p
  have M := fun x => mostSure_c K W T S x
  have K0 := Bb.new w K W T S
  have pr := bl (w := w) #[.int .i64 K, .int .i64 W, .int .i64 T, .int .i64 S] 23
  have q0 := K0.c0
  have HR : Hid (er (y && decide (0 ≤ W) && decide (W ≤ 130) && decide (1 ≤ T) && decide (T ≤ 130) && decide (0 ≤ S) && decide (S ≤ ms K T)) = R) := by rw [← hR, ← hy]; rfl
  clear hst hy hR
  unfold bn at *
  go_enter Try.func7, Try.ntmps7
  go_wp2_with (first
    | (go_at_call 11; (refine (C _).mono ?_); (rintro e w1 ⟨rfl, b1⟩); (have K1 := K0.grow b1); (have p1 := belT pr b1))
    | fail)
  have K2 := K1.grow (bl #[.int .i64 z, v1, v2, v3] 42)
  have p2 := belT p1 (bl #[.int .i64 z, v1, v2, v3] 42)
  generalize w1.alloc (.cells #[.int .i64 z, v1, v2, v3] 42) = W1 at *
  clear K1 p1 K0 pr q0 s1 s2 s3 C b1
  have q0 := K2.c0
  have q1 := K2.c1
  have q2 := K2.c2
  have q3 := K2.c3
  cases y
  · clear M
    obtain rfl : R = 130 := HR.out.symm
    go_quiet (fail)
    go_wp2_with fail
    go_ret
    exact ⟨rfl, blN p2⟩
  by_cases h1 : 0 ≤ W
  rotate_left
  · clear M
    have d1 : decide (W < 0) = true := by simp; omega
    obtain rfl : R = 130 := by rw [← HR.out]; simp [er]; omega
    go_quiet (fail)
    go_wp2_with fail
    go_ret
    exact ⟨rfl, blN p2⟩
  by_cases h2 : W ≤ 130
  rotate_left
  · clear M
    have d1 : decide (W < 0) = false := by simp; omega
    have d2 : decide (130 < W) = true := by simp; omega
    obtain rfl : R = 130 := by rw [← HR.out]; simp [er]; omega
    go_quiet (fail)
    go_wp2_with fail
    go_ret
    exact ⟨rfl, blN p2⟩
  by_cases h3 : 1 ≤ T
  rotate_left
  · clear M
    have d1 : decide (W < 0) = false := by simp; omega
    have d2 : decide (130 < W) = false := by simp; omega
    have d3 : decide (T < 1) = true := by simp; omega
    obtain rfl : R = 130 := by rw [← HR.out]; simp [er]; omega
    go_quiet (fail)
    go_wp2_with fail
    go_ret
    exact ⟨rfl, blN p2⟩
  by_cases h4 : T ≤ 130
  rotate_left
  · clear M
    have d1 : decide (W < 0) = false := by simp; omega
    have d2 : decide (130 < W) = false := by simp; omega
    have d3 : decide (T < 1) = false := by simp; omega
    have d4 : decide (130 < T) = true := by simp; omega
    obtain rfl : R = 130 := by rw [← HR.out]; simp [er]; omega
    go_quiet (fail)
    go_wp2_with fail
    go_ret
    exact ⟨rfl, blN p2⟩
  by_cases h5 : 0 ≤ S
  rotate_left
  · clear M
    have d1 : decide (W < 0) = false := by simp; omega
    have d2 : decide (130 < W) = false := by simp; omega
    have d3 : decide (T < 1) = false := by simp; omega
    have d4 : decide (130 < T) = false := by simp; omega
    have d5 : decide (S < 0) = true := by simp; omega
    obtain rfl : R = 130 := by rw [← HR.out]; simp [er]; omega
    go_quiet (fail)
    go_wp2_with fail
    go_ret
    exact ⟨rfl, blN p2⟩
  have d1 : decide (W < 0) = false := by simp; omega
  have d2 : decide (130 < W) = false := by simp; omega
  have d3 : decide (T < 1) = false := by simp; omega
  have d4 : decide (130 < T) = false := by simp; omega
  have d5 : decide (S < 0) = false := by simp; omega
  have c1 : er (decide (S ≤ ms K T)) = R := by rw [← HR.out]; simp [h1, h2, h3, h4, h5]
  clear HR
  obtain ⟨m, hm⟩ : ∃ m, ms K T = m := ⟨_, rfl⟩
  rw [hm] at M c1
  clear hm
  obtain ⟨b6, hb6⟩ : ∃ b6, decide (m < S) = b6 := ⟨_, rfl⟩
  have c2 : Hid (R = er (!b6)) := by
    have : decide (S ≤ m) = !b6 := by rw [← hb6]; by_cases z : S ≤ m <;> simp [z] <;> omega
    show R = er (!b6)
    rw [← this, c1]
  clear c1
  go_region_held3 (fun x => x.cell? ⟨w.heap.size, 0, none⟩ = some (.int .i64 K) ∧ x.cell? ⟨w.heap.size, 1, none⟩ = some (.int .i64 W) ∧ x.cell? ⟨w.heap.size, 2, none⟩ = some (.int .i64 T) ∧ x.cell? ⟨w.heap.size, 3, none⟩ = some (.int .i64 S)) (first | exact ⟨x0, x1, x2, x3⟩ | go_keep) (first
      | (go_at_call 14; (refine (M _).mono ?_); (rintro e w3 ⟨rfl, b3⟩); (have p3 := belT p2 (undrew b3)); (have K3 := K2.grow (undrew b3)); (have x0 := K3.c0); (have x1 := K3.c1); (have x2 := K3.c2); (have x3 := K3.c3))
      | fail)
  have hR := c2.out
  cases b6
  all_goals
    subst hR
    go_wp2_with fail
    go_ret
    exact ⟨rfl, p3⟩
theorem Check_any (K W T S : Int) (w : World) : Calls Try.prog 7 #[bn K W T S] w fun e w' => e = .returned (.int .i64 (er (okB K W T S))) ∧ Below w.heap.size w w' := by
  have C := fun x => kindOf_c K x
  unfold ka at C
  obtain ⟨d, hd⟩ : ∃ d, kd K = d := ⟨_, rfl⟩
  rw [hd] at C
  cases d with
  | none => exact Check_w K W T S _ _ _ _ _ w (by rw [hd]; rfl) (fun x c m h p => by rcases h with rfl | rfl | rfl <;> exact run_store_nf _ _ _ _) C ⟨_, rfl⟩ _ rfl
  | some d => exact Check_w K W T S _ _ _ _ _ w (by rw [hd]; rfl) (fun x c m h p => by rcases h with rfl | rfl | rfl <;> exact run_store_fn _ _ _ _ _ _ _) C ⟨_, rfl⟩ _ rfl
end Go.Proofs.Ytbfaebaoekimhaa.Vf
