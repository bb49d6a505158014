import Derived.Test.YtjgljcifnklmeaaFs2
namespace Go.Proofs.Ytjgljcifnklmeaa
open Go.RowKit Tn

/-- The sign bit turned. -/
def flip64 (n : Nat) : Nat := n ^^^ 9223372036854775808
theorem flip_lt (n : Nat) (h : n < 18446744073709551616) : flip64 n < 18446744073709551616 := Nat.xor_lt_two_pow (n := 64) (by omega) (by decide)
theorem neg_run (n : Nat) (w : World) : (Op.unary .neg (.float .f64 n)).run Try.prog w = .ok (.float .f64 (flip64 n)) w := rfl
theorem up_lt (n : Nat) (h : n < 18446744073709551616) : up64 n < 18446744073709551616 := by
  unfold up64
  repeat' split
  · omega
  · omega
  · omega
  · omega
  · rename_i a
    have : ¬ (n / 9223372036854775808 % 2 = 1) := by intro e; exact a (by unfold ng64; simp [e])
    omega
set_option maxRecDepth 100000 in
theorem Down_any (n : Nat) (hn : n < 18446744073709551616) (w : World) : Calls Try.prog 26 #[.float .f64 n] w fun x w' => x = .returned (.float .f64 (flip64 (up64 (flip64 n)))) ∧ w' = w := by
  have U := Up_any (flip64 n) (flip_lt n hn)
  have e1 := neg_run n
  have e2 := neg_run (up64 (flip64 n))
  generalize flip64 (up64 (flip64 n)) = z at *
  generalize up64 (flip64 n) = y at *
  generalize flip64 n = x at *
  go_enter Try.func26, Try.ntmps26
  go_wp2_with (first
    | (go_at_call 24; refine (U _).mono ?_; rintro x w1 ⟨rfl, rfl⟩)
    | fail)
  go_ret
  exact ⟨rfl, rfl⟩
/-- -1, 0 or 1. -/
def ord3 (a b : Int) : Int := if a < b then -1 else if b < a then 1 else 0
set_option maxRecDepth 100000 in
theorem Compare_any (a b : Int) (w : World) : Calls Try.prog 60 #[.int .i64 a, .int .i64 b] w fun x w' => x = .returned (.int .i64 (ord3 a b)) ∧ w' = w := by
  unfold ord3
  by_cases h1 : a < b
  · rw [if_pos h1]
    go_enter Try.func60, Try.ntmps60
    go_wp2
    go_ret
    exact ⟨rfl, rfl⟩
  · rw [if_neg h1]
    by_cases h2 : b < a
    · rw [if_pos h2]
      go_enter Try.func60, Try.ntmps60
      go_wp2
      go_ret
      exact ⟨rfl, rfl⟩
    · rw [if_neg h2]
      go_enter Try.func60, Try.ntmps60
      go_wp2
      go_ret
      exact ⟨rfl, rfl⟩
set_option maxRecDepth 100000 in
theorem Order_any (n m : Nat) (hn : n < 18446744073709551616) (hm : m < 18446744073709551616) (w : World) : Calls Try.prog 28 #[.float .f64 n, .float .f64 m] w fun x w' => x = .returned (.int .i64 (ord3 (rank64 n) (rank64 m))) ∧ w' = w := by
  have R1 := rank_any n hn
  have R2 := rank_any m hm
  generalize rank64 n = a at *
  generalize rank64 m = b at *
  have C := Compare_any a b
  generalize ord3 a b = c at *
  go_enter Try.func28, Try.ntmps28
  go_wp2_with (first
    | (go_at_call 61; (with_reducible refine (R1 _).mono ?_); rintro x w1 ⟨rfl, rfl⟩)
    | (go_at_call 61; (with_reducible refine (R2 _).mono ?_); rintro x w1 ⟨rfl, rfl⟩)
    | (go_at_call 60; refine (C _).mono ?_; rintro x w1 ⟨rfl, rfl⟩)
    | fail)
  go_ret
  exact ⟨rfl, rfl⟩
set_option maxRecDepth 100000 in
theorem Same_any (n m : Nat) (hn : n < 18446744073709551616) (hm : m < 18446744073709551616) (w : World) : Calls Try.prog 30 #[.float .f64 n, .float .f64 m] w fun x w' => x = .returned (.bool (ord3 (rank64 n) (rank64 m) == 0)) ∧ w' = w := by
  have C := Order_any n m hn hm
  generalize ord3 (rank64 n) (rank64 m) = c at *
  go_enter Try.func30, Try.ntmps30
  go_wp2_with (first
    | (go_at_call 28; refine (C _).mono ?_; rintro x w1 ⟨rfl, rfl⟩)
    | fail)
  go_ret
  exact ⟨rfl, rfl⟩
/-- How many steps lie between. -/
def steps64 (n m : Nat) : Int := if ng64 n = ng64 m then max (rg64 n : Int) (rg64 m) - min (rg64 n : Int) (rg64 m) else (rg64 n : Int) + rg64 m
set_option maxRecDepth 100000 in
set_option maxHeartbeats 800000 in
theorem Steps_any (n m : Nat) (hn : n < 18446744073709551616) (hm : m < 18446744073709551616) (w : World) : Calls Try.prog 32 #[.float .f64 n, .float .f64 m] w fun x w' => x = .returned (if (nan64 n || nan64 m) = true then .tuple #[.int .u64 0, .bool false] else .tuple #[.int .u64 (steps64 n m), .bool true]) ∧ w' = w := by
  have N1 := IsNaN_any n
  have N2 := IsNaN_any m
  have S1 := Signbit_any n hn
  have S2 := Signbit_any m hm
  have Z1 := size_any n hn
  have Z2 := size_any m hm
  have r1 := rg64_lt n
  have r2 := rg64_lt m
  unfold steps64
  generalize ez1 : rg64 n = z1 at *
  generalize ez2 : rg64 m = z2 at *
  clear ez1 ez2
  have hx : IntKind.u64.wrap ((z1 : Int) + z2) = (z1 : Int) + z2 := wu64 _ (by omega) (by omega)
  have hy : IntKind.u64.wrap (max (z1 : Int) z2 - min (z1 : Int) z2) = max (z1 : Int) z2 - min (z1 : Int) z2 := wu64 _ (by omega) (by omega)
  cases hn1 : nan64 n <;> cases hn2 : nan64 m <;> rw [hn1] at N1 <;> rw [hn2] at N2 <;> cases hs1 : ng64 n <;> cases hs2 : ng64 m <;> rw [hs1] at S1 <;> rw [hs2] at S2 <;> simp only [if_true, if_false, Bool.false_eq_true, Bool.true_eq_false, Bool.or_true, Bool.or_false]
  all_goals
    go_enter Try.func32, Try.ntmps32
    go_wp2_with (first
      | (go_at_call 58; (with_reducible refine (N1 _).mono ?_); rintro x w1 ⟨rfl, rfl⟩)
      | (go_at_call 58; (with_reducible refine (N2 _).mono ?_); rintro x w1 ⟨rfl, rfl⟩)
      | (go_at_call 63; (with_reducible refine (S1 _).mono ?_); rintro x w1 ⟨rfl, rfl⟩)
      | (go_at_call 63; (with_reducible refine (S2 _).mono ?_); rintro x w1 ⟨rfl, rfl⟩)
      | (go_at_call 64; (with_reducible refine (Z1 _).mono ?_); rintro x w1 ⟨rfl, rfl⟩)
      | (go_at_call 64; (with_reducible refine (Z2 _).mono ?_); rintro x w1 ⟨rfl, rfl⟩)
      | fail)
  all_goals
    first
    | exact bodyPost_ret (v := .tuple #[.int .u64 0, .bool false]) (by simp [results, Try.results32, go_sem]) rfl ⟨rfl, rfl⟩
    | exact bodyPost_ret (v := .tuple #[.int .u64 ((z1 : Int) + z2), .bool true]) (by simp [results, Try.results32, go_sem]) rfl ⟨rfl, rfl⟩
    | exact bodyPost_ret (v := .tuple #[.int .u64 0, .bool true]) (by simp [results, Try.results32, go_sem]) rfl ⟨by rw [show max (z1 : Int) z2 - min (z1 : Int) z2 = 0 from by omega], rfl⟩
    | exact bodyPost_ret (v := .tuple #[.int .u64 ((z2 : Int) - z1), .bool true]) (by simp [results, Try.results32, go_sem]) rfl ⟨by rw [show max (z1 : Int) z2 - min (z1 : Int) z2 = (z2 : Int) - z1 from by omega], rfl⟩
    | exact bodyPost_ret (v := .tuple #[.int .u64 ((z1 : Int) - z2), .bool true]) (by simp [results, Try.results32, go_sem]) rfl ⟨by rw [show max (z1 : Int) z2 - min (z1 : Int) z2 = (z1 : Int) - z2 from by omega], rfl⟩
end Go.Proofs.Ytjgljcifnklmeaa
