import Derived.Test.YtjgljcifnklmeaaPart21
import Derived.Test.YtjgljcifnklmeaaPart20

namespace Go.Proofs.Ytjgljcifnklmeaa
open Go.RowKit Tn

theorem ng_cases (n : Nat) (hn : n < 18446744073709551616) : (ng64 n = true ∧ n = 9223372036854775808 + rg64 n) ∨ (ng64 n = false ∧ n = rg64 n) := by
  have s : ng64 n = (n / 9223372036854775808 % 2 == 1) := rfl
  have r : rg64 n = n % 9223372036854775808 := rfl
  cases h : ng64 n
  · right
    rw [h] at s
    have := s.symm
    simp at this
    exact ⟨rfl, by omega⟩
  · left
    rw [h] at s
    have := s.symm
    simp at this
    exact ⟨rfl, by omega⟩
theorem place_bd (n : Nat) : -9223372036854775808 < place64 n ∧ place64 n < 9223372036854775808 := by
  have r := rg64_lt n
  unfold place64
  split <;> omega
theorem steps_place (n m : Nat) (hn : n < 18446744073709551616) (hm : m < 18446744073709551616) : steps64 n m = if place64 n ≤ place64 m then place64 m - place64 n else place64 n - place64 m := by
  unfold place64 steps64
  rcases ng_cases n hn with ⟨g1, _⟩ | ⟨g1, _⟩ <;> rcases ng_cases m hm with ⟨g2, _⟩ | ⟨g2, _⟩ <;> rw [g1, g2] <;> simp only [if_true, if_false, Bool.false_eq_true, Bool.true_eq_false]
  · rcases Nat.le_total (rg64 n) (rg64 m) with l | l
    · rw [Int.max_eq_right (by omega), Int.min_eq_left (by omega)]; split <;> omega
    · rw [Int.max_eq_left (by omega), Int.min_eq_right (by omega)]; split <;> omega
  · split <;> omega
  · split <;> omega
  · rcases Nat.le_total (rg64 n) (rg64 m) with l | l
    · rw [Int.max_eq_right (by omega), Int.min_eq_left (by omega)]; split <;> omega
    · rw [Int.max_eq_left (by omega), Int.min_eq_right (by omega)]; split <;> omega
theorem RSteps_any (n m : Nat) (hn : n < 18446744073709551616) (hm : m < 18446744073709551616) (w : World) :
    Calls Try.prog 33 #[.int .u64 n, .int .u64 m] w fun e w' => e = .returned (if (nan64 n || nan64 m) = true then .tuple #[.int .u64 0, .bool false] else .tuple #[.int .u64 (steps64 n m), .bool true]) ∧ Below w.heap.size w w' := by
  refine RSteps_walk n m _ _ (place64 n) (place64 m) _ _ _ (IsNone64 n hn) (IsNone64 m hm) (place_any n hn) (place_any m hm) rfl rfl ?_ ?_ w
  · intro c
    rw [IntKind.wrap_u64, IntKind.wrap_u64, IntKind.wrap_u64, ← Int.sub_emod, steps_place n m hn hm, if_pos c]
    have := place_bd n
    have := place_bd m
    omega
  · intro c
    rw [IntKind.wrap_u64, IntKind.wrap_u64, IntKind.wrap_u64, ← Int.sub_emod, steps_place n m hn hm, if_neg (by omega)]
    have := place_bd n
    have := place_bd m
    omega
theorem rord_cmp (n m : Nat) (hn : n < 18446744073709551616) (hm : m < 18446744073709551616) : rord (nan64 n) (nan64 m) (place64 n) (place64 m) ((n : Int) == (m : Int)) (ng64 n) = ord3 (rank64 n) (rank64 m) := by
  have r1 := rg64_lt n
  have r2 := rg64_lt m
  have k1 : nan64 n = false → rg64 n ≤ 9218868437227405312 := by unfold nan64; rw [decide_eq_false_iff_not]; omega
  have k2 : nan64 m = false → rg64 m ≤ 9218868437227405312 := by unfold nan64; rw [decide_eq_false_iff_not]; omega
  have q : ((n : Int) == (m : Int)) = decide (n = m) := by rw [Bool.eq_iff_iff, beq_iff_eq, decide_eq_true_iff]; omega
  rw [q]
  unfold rord ord3 rank64 place64
  cases t1 : nan64 n <;> cases t2 : nan64 m <;> simp only [if_true, if_false, Bool.false_eq_true]
  · have j1 := k1 t1
    have j2 := k2 t2
    rcases ng_cases n hn with ⟨g1, e1⟩ | ⟨g1, e1⟩ <;> rcases ng_cases m hm with ⟨g2, e2⟩ | ⟨g2, e2⟩ <;> rw [g1, g2] <;> simp only [if_true, if_false, Bool.false_eq_true, decide_eq_true_eq]
    all_goals
      repeat' split
      all_goals omega
  · have j1 := k1 t1
    rcases ng_cases n hn with ⟨g1, e1⟩ | ⟨g1, e1⟩ <;> rw [g1] <;> simp only [if_true, if_false, Bool.false_eq_true]
    all_goals
      repeat' split
      all_goals omega
  · have j2 := k2 t2
    rcases ng_cases m hm with ⟨g2, e2⟩ | ⟨g2, e2⟩ <;> rw [g2] <;> simp only [if_true, if_false, Bool.false_eq_true]
    all_goals
      repeat' split
      all_goals omega
  · simp
theorem ROrder_any (n m : Nat) (hn : n < 18446744073709551616) (hm : m < 18446744073709551616) (w : World) :
    Calls Try.prog 29 #[.int .u64 n, .int .u64 m] w fun e w' => e = .returned (.int .i64 (ord3 (rank64 n) (rank64 m))) ∧ Below w.heap.size w w' := by
  have H := ROrder_walk n m _ _ _ _ (place64 n) (place64 m) (IsNone64 n hn) (IsNone64 m hm) (place_any n hn) (place_any m hm) (Neg_w n (ng64 n) (hg2W n hn)) rfl w
  rw [rord_cmp n m hn hm] at H
  exact H
set_option maxRecDepth 100000 in
theorem RSame_any (n m : Nat) (hn : n < 18446744073709551616) (hm : m < 18446744073709551616) (w : World) :
    Calls Try.prog 31 #[.int .u64 n, .int .u64 m] w fun e w' => e = .returned (.bool (ord3 (rank64 n) (rank64 m) == 0)) ∧ Below w.heap.size w w' := by
  have C := ROrder_any n m hn hm
  generalize ord3 (rank64 n) (rank64 m) = c at *
  go_enter Try.func31, Try.ntmps31
  go_wp2_with (first
    | (go_at_call 29; refine (C _).mono ?_; rintro x w1 ⟨rfl, b1⟩)
    | fail)
  go_ret
  exact ⟨rfl, b1⟩
end Go.Proofs.Ytjgljcifnklmeaa

namespace Go.Proofs.Ytjgljcifnklmeaa
open Go.RowKit Tn

theorem up_one64 : up64 4607182418800017408 = 4607182418800017409 := by decide
set_option maxRecDepth 100000 in
set_option maxHeartbeats 3200000 in
theorem steps_walk (a b : Nat) (U D : Nat) (O : Int) (Q : Bool) (s : Int) (t : Bool) (N : Nat) (y : Bool)
    (h1 : ∀ w, Calls Try.prog 24 #[.float .f64 a] w fun x w' => x = .returned (.float .f64 U) ∧ w' = w)
    (h2 : ∀ w, Calls Try.prog 25 #[.int .u64 a] w fun x w' => x = .returned (.int .u64 U) ∧ Below w.heap.size w w')
    (h3 : ∀ w, Calls Try.prog 26 #[.float .f64 a] w fun x w' => x = .returned (.float .f64 D) ∧ w' = w)
    (h4 : ∀ w, Calls Try.prog 27 #[.int .u64 a] w fun x w' => x = .returned (.int .u64 D) ∧ Below w.heap.size w w')
    (h5 : ∀ w, Calls Try.prog 28 #[.float .f64 a, .float .f64 b] w fun x w' => x = .returned (.int .i64 O) ∧ w' = w)
    (h6 : ∀ w, Calls Try.prog 29 #[.int .u64 a, .int .u64 b] w fun x w' => x = .returned (.int .i64 O) ∧ Below w.heap.size w w')
    (h7 : ∀ w, Calls Try.prog 30 #[.float .f64 a, .float .f64 b] w fun x w' => x = .returned (.bool Q) ∧ w' = w)
    (h8 : ∀ w, Calls Try.prog 31 #[.int .u64 a, .int .u64 b] w fun x w' => x = .returned (.bool Q) ∧ Below w.heap.size w w')
    (h9 : ∀ w, Calls Try.prog 32 #[.float .f64 a, .float .f64 b] w fun x w' => x = .returned (.tuple #[.int .u64 s, .bool t]) ∧ w' = w)
    (h10 : ∀ w, Calls Try.prog 33 #[.int .u64 a, .int .u64 b] w fun x w' => x = .returned (.tuple #[.int .u64 s, .bool t]) ∧ Below w.heap.size w w')
    (h11 : ∀ w, Calls Try.prog 34 #[.float .f64 a] w fun x w' => x = .returned (.tuple #[.float .f64 N, .bool y]) ∧ Below w.heap.size w w')
    (h12 : ∀ w, Calls Try.prog 35 #[.int .u64 a] w fun x w' => x = .returned (.tuple #[.int .u64 N, .bool y]) ∧ Below w.heap.size w w') (w : World) :
    Calls Try.prog 5 #[.int .u64 a, .int .u64 b] w fun x w' => x = .returned (.bool true) ∧ Below w.heap.size w w' := by
  have f1 := f64frombits a
  have f2 := f64frombits b
  have i1 := is64_yes U
  have i2 := is64_yes D
  have i3 := is64_yes N
  have u1 : ∀ w, Calls Try.prog 24 #[.float .f64 4607182418800017408] w fun x w' => x = .returned (.float .f64 4607182418800017409) ∧ w' = w := by
    intro w; have := Up_any 4607182418800017408 (by decide) w; rwa [up_one64] at this
  have ho : (FloatKind.f64.format.order 4607182418800017409 4607182418800017408 == some Ordering.gt) = true := by kernel_rfl
  have pr := Below.refl w.heap.size w
  go_enter Try.func5, Try.ntmps5
  go_wp2_with (first
    | (go_at_call 24; (with_reducible refine (h1 _).mono ?_); rintro x w1 ⟨rfl, rfl⟩)
    | (go_at_call 24; (with_reducible refine (u1 _).mono ?_); rintro x w1 ⟨rfl, rfl⟩)
    | (go_at_call 25; (with_reducible refine (h2 _).mono ?_); rintro x w1 ⟨rfl, b1⟩; replace pr := bel pr b1; clear b1)
    | (go_at_call 18; (with_reducible refine (i1 _).mono ?_); rintro x w1 ⟨rfl, rfl⟩)
    | (go_at_call 18; (with_reducible refine (i2 _).mono ?_); rintro x w1 ⟨rfl, rfl⟩)
    | (go_at_call 18; (with_reducible refine (i3 _).mono ?_); rintro x w1 ⟨rfl, rfl⟩)
    | (go_at_call 26; (with_reducible refine (h3 _).mono ?_); rintro x w1 ⟨rfl, rfl⟩)
    | (go_at_call 27; (with_reducible refine (h4 _).mono ?_); rintro x w1 ⟨rfl, b1⟩; replace pr := bel pr b1; clear b1)
    | (go_at_call 28; (with_reducible refine (h5 _).mono ?_); rintro x w1 ⟨rfl, rfl⟩)
    | (go_at_call 29; (with_reducible refine (h6 _).mono ?_); rintro x w1 ⟨rfl, b1⟩; replace pr := bel pr b1; clear b1)
    | (go_at_call 30; (with_reducible refine (h7 _).mono ?_); rintro x w1 ⟨rfl, rfl⟩)
    | (go_at_call 31; (with_reducible refine (h8 _).mono ?_); rintro x w1 ⟨rfl, b1⟩; replace pr := bel pr b1; clear b1)
    | (go_at_call 32; (with_reducible refine (h9 _).mono ?_); rintro x w1 ⟨rfl, rfl⟩)
    | (go_at_call 33; (with_reducible refine (h10 _).mono ?_); rintro x w1 ⟨rfl, b1⟩; replace pr := bel pr b1; clear b1)
    | (go_at_call 34; (with_reducible refine (h11 _).mono ?_); rintro x w1 ⟨rfl, b1⟩; replace pr := bel pr b1; clear b1)
    | (go_at_call 35; (with_reducible refine (h12 _).mono ?_); rintro x w1 ⟨rfl, b1⟩; replace pr := bel pr b1; clear b1)
    | fail)
  go_ret
  exact ⟨rfl, pr⟩
theorem steps_any (a b : Nat) (ha : a < 18446744073709551616) (hb : b < 18446744073709551616) (w : World) :
    Calls Try.prog 5 #[.int .u64 a, .int .u64 b] w fun x w' => x = .returned (.bool true) ∧ Below w.heap.size w w' := by
  obtain ⟨s, t, h9, h10⟩ : ∃ (s : Int) (t : Bool), (∀ w, Calls Try.prog 32 #[.float .f64 a, .float .f64 b] w fun x w' => x = .returned (.tuple #[.int .u64 s, .bool t]) ∧ w' = w) ∧ (∀ w, Calls Try.prog 33 #[.int .u64 a, .int .u64 b] w fun x w' => x = .returned (.tuple #[.int .u64 s, .bool t]) ∧ Below w.heap.size w w') := by
    have p := Steps_any a b ha hb
    have r := RSteps_any a b ha hb
    by_cases c : (nan64 a || nan64 b) = true
    · simp only [if_pos c] at p r
      exact ⟨0, false, p, r⟩
    · simp only [if_neg c] at p r
      exact ⟨_, true, p, r⟩
  obtain ⟨N, y, h11, h12⟩ : ∃ (N : Nat) (y : Bool), (∀ w, Calls Try.prog 34 #[.float .f64 a] w fun x w' => x = .returned (.tuple #[.float .f64 N, .bool y]) ∧ Below w.heap.size w w') ∧ (∀ w, Calls Try.prog 35 #[.int .u64 a] w fun x w' => x = .returned (.tuple #[.int .u64 N, .bool y]) ∧ Below w.heap.size w w') := by
    have p := FGap64 a ha
    have r := RGap64 a ha
    by_cases c : fdW a = 2047
    · simp only [if_pos c] at p r
      exact ⟨0, false, p, r⟩
    · simp only [if_neg c] at p r
      exact ⟨_, true, p, r⟩
  exact steps_walk a b _ _ _ _ s t N y (Up_any a ha) (RUp_any a ha) (Down_any a ha) (RDown_any a ha) (Order_any a b ha hb) (ROrder_any a b ha hb) (Same_any a b ha hb) (RSame_any a b ha hb) h9 h10 h11 h12 w
end Go.Proofs.Ytjgljcifnklmeaa
