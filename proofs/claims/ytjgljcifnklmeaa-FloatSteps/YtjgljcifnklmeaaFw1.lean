import Derived.Test.YtjgljcifnklmeaaGt1
import Derived.Test.YtjgljcifnklmeaaFs6
namespace Go.Proofs.Ytjgljcifnklmeaa
open Go.RowKit Tn

theorem up_one64 : up64 4607182418800017408 = 4607182418800017409 := by decide
set_option maxRecDepth 100000 in
set_option maxHeartbeats 3200000 in
theorem steps_walk (a b : Nat) (U D : Nat) (O : Int) (Q : Bool) (s : Int) (t : Bool) (N : Nat) (y : Bool)
    (h1 : ∀ w, Calls Try.prog 24 #[.float .f64 a] w fun x w' => x = .returned (.float .f64 U) ∧ w' = w)
    (h2 : ∀ w, Calls Try.prog 25 #[.int .u64 a] w fun x w' => x = .returned (.int .u64 U) ∧ Below w.heap.size w w')
    (h3 : ∀ w, Calls Try.prog 26 #[.float .f64 a] w fun x w' => x = .returned (.float .f64 D) ∧ w' = w)
    (h4 : ∀ w, Calls Try.prog 27 #[.int .u64 a] w fun x w' => x = .returned (.int .u64 D) ∧ Below w.heap.size w w')
    (h5 : ∀ w, Calls Try.prog 28 #[.float .f64 a, .float .f64 b] w fun x w' => x = .returned (.int .i64 O) ∧ w' = w)
    (h6 : ∀ w, Calls Try.prog 29 #[.int .u64 a, .int .u64 b] w fun x w' => x = .returned (.int .i64 O) ∧ Below w.heap.size w w')
    (h7 : ∀ w, Calls Try.prog 30 #[.float .f64 a, .float .f64 b] w fun x w' => x = .returned (.bool Q) ∧ w' = w)
    (h8 : ∀ w, Calls Try.prog 31 #[.int .u64 a, .int .u64 b] w fun x w' => x = .returned (.bool Q) ∧ Below w.heap.size w w')
    (h9 : ∀ w, Calls Try.prog 32 #[.float .f64 a, .float .f64 b] w fun x w' => x = .returned (.tuple #[.int .u64 s, .bool t]) ∧ w' = w)
    (h10 : ∀ w, Calls Try.prog 33 #[.int .u64 a, .int .u64 b] w fun x w' => x = .returned (.tuple #[.int .u64 s, .bool t]) ∧ Below w.heap.size w w')
    (h11 : ∀ w, Calls Try.prog 34 #[.float .f64 a] w fun x w' => x = .returned (.tuple #[.float .f64 N, .bool y]) ∧ Below w.heap.size w w')
    (h12 : ∀ w, Calls Try.prog 35 #[.int .u64 a] w fun x w' => x = .returned (.tuple #[.int .u64 N, .bool y]) ∧ Below w.heap.size w w') (w : World) :
    Calls Try.prog 5 #[.int .u64 a, .int .u64 b] w fun x w' => x = .returned (.bool true) ∧ Below w.heap.size w w' := by
  have f1 := f64frombits a
  have f2 := f64frombits b
  have i1 := is64_yes U
  have i2 := is64_yes D
  have i3 := is64_yes N
  have u1 : ∀ w, Calls Try.prog 24 #[.float .f64 4607182418800017408] w fun x w' => x = .returned (.float .f64 4607182418800017409) ∧ w' = w := by
    intro w; have := Up_any 4607182418800017408 (by decide) w; rwa [up_one64] at this
  have ho : (FloatKind.f64.format.order 4607182418800017409 4607182418800017408 == some Ordering.gt) = true := by kernel_rfl
  have pr := Below.refl w.heap.size w
  go_enter Try.func5, Try.ntmps5
  go_wp2_with (first
    | (go_at_call 24; (with_reducible refine (h1 _).mono ?_); rintro x w1 ⟨rfl, rfl⟩)
    | (go_at_call 24; (with_reducible refine (u1 _).mono ?_); rintro x w1 ⟨rfl, rfl⟩)
    | (go_at_call 25; (with_reducible refine (h2 _).mono ?_); rintro x w1 ⟨rfl, b1⟩; replace pr := bel pr b1; clear b1)
    | (go_at_call 18; (with_reducible refine (i1 _).mono ?_); rintro x w1 ⟨rfl, rfl⟩)
    | (go_at_call 18; (with_reducible refine (i2 _).mono ?_); rintro x w1 ⟨rfl, rfl⟩)
    | (go_at_call 18; (with_reducible refine (i3 _).mono ?_); rintro x w1 ⟨rfl, rfl⟩)
    | (go_at_call 26; (with_reducible refine (h3 _).mono ?_); rintro x w1 ⟨rfl, rfl⟩)
    | (go_at_call 27; (with_reducible refine (h4 _).mono ?_); rintro x w1 ⟨rfl, b1⟩; replace pr := bel pr b1; clear b1)
    | (go_at_call 28; (with_reducible refine (h5 _).mono ?_); rintro x w1 ⟨rfl, rfl⟩)
    | (go_at_call 29; (with_reducible refine (h6 _).mono ?_); rintro x w1 ⟨rfl, b1⟩; replace pr := bel pr b1; clear b1)
    | (go_at_call 30; (with_reducible refine (h7 _).mono ?_); rintro x w1 ⟨rfl, rfl⟩)
    | (go_at_call 31; (with_reducible refine (h8 _).mono ?_); rintro x w1 ⟨rfl, b1⟩; replace pr := bel pr b1; clear b1)
    | (go_at_call 32; (with_reducible refine (h9 _).mono ?_); rintro x w1 ⟨rfl, rfl⟩)
    | (go_at_call 33; (with_reducible refine (h10 _).mono ?_); rintro x w1 ⟨rfl, b1⟩; replace pr := bel pr b1; clear b1)
    | (go_at_call 34; (with_reducible refine (h11 _).mono ?_); rintro x w1 ⟨rfl, b1⟩; replace pr := bel pr b1; clear b1)
    | (go_at_call 35; (with_reducible refine (h12 _).mono ?_); rintro x w1 ⟨rfl, b1⟩; replace pr := bel pr b1; clear b1)
    | fail)
  go_ret
  exact ⟨rfl, pr⟩
theorem steps_any (a b : Nat) (ha : a < 18446744073709551616) (hb : b < 18446744073709551616) (w : World) :
    Calls Try.prog 5 #[.int .u64 a, .int .u64 b] w fun x w' => x = .returned (.bool true) ∧ Below w.heap.size w w' := by
  obtain ⟨s, t, h9, h10⟩ : ∃ (s : Int) (t : Bool), (∀ w, Calls Try.prog 32 #[.float .f64 a, .float .f64 b] w fun x w' => x = .returned (.tuple #[.int .u64 s, .bool t]) ∧ w' = w) ∧ (∀ w, Calls Try.prog 33 #[.int .u64 a, .int .u64 b] w fun x w' => x = .returned (.tuple #[.int .u64 s, .bool t]) ∧ Below w.heap.size w w') := by
    have p := Steps_any a b ha hb
    have r := RSteps_any a b ha hb
    by_cases c : (nan64 a || nan64 b) = true
    · simp only [if_pos c] at p r
      exact ⟨0, false, p, r⟩
    · simp only [if_neg c] at p r
      exact ⟨_, true, p, r⟩
  obtain ⟨N, y, h11, h12⟩ : ∃ (N : Nat) (y : Bool), (∀ w, Calls Try.prog 34 #[.float .f64 a] w fun x w' => x = .returned (.tuple #[.float .f64 N, .bool y]) ∧ Below w.heap.size w w') ∧ (∀ w, Calls Try.prog 35 #[.int .u64 a] w fun x w' => x = .returned (.tuple #[.int .u64 N, .bool y]) ∧ Below w.heap.size w w') := by
    have p := FGap64 a ha
    have r := RGap64 a ha
    by_cases c : fdW a = 2047
    · simp only [if_pos c] at p r
      exact ⟨0, false, p, r⟩
    · simp only [if_neg c] at p r
      exact ⟨_, true, p, r⟩
  exact steps_walk a b _ _ _ _ s t N y (Up_any a ha) (RUp_any a ha) (Down_any a ha) (RDown_any a ha) (Order_any a b ha hb) (ROrder_any a b ha hb) (Same_any a b ha hb) (RSame_any a b ha hb) h9 h10 h11 h12 w
end Go.Proofs.Ytjgljcifnklmeaa
