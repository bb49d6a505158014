import Derived.Test.YtjgljcifnklmeaaFl10
import Derived.Test.YtjgljcifnklmeaaFs1
namespace Go.Proofs.Ytjgljcifnklmeaa
open Go.RowKit Tn

set_option maxRecDepth 100000 in
theorem IsNaN_any (n : Nat) (w : World) : Calls Try.prog 58 #[.float .f64 n] w fun x w' => x = .returned (.bool (nan64 n)) ∧ w' = w := by
  have h := order_self n
  generalize nan64 n = t at h
  go_enter Try.func58, Try.ntmps58
  go_wp2
  go_ret
  exact ⟨rfl, rfl⟩
set_option maxRecDepth 100000 in
theorem IsInf_up (n : Nat) (h : nan64 n = false) (w : World) : Calls Try.prog 59 #[.float .f64 n, .int .i64 1] w fun x w' => x = .returned (.bool (decide (n % 18446744073709551616 = 9218868437227405312))) ∧ w' = w := by
  have h := order_max n h
  generalize decide (n % 18446744073709551616 = 9218868437227405312) = t at h
  go_enter Try.func59, Try.ntmps59
  go_wp2
  go_ret
  exact ⟨rfl, rfl⟩
theorem sign_wrap (n : Nat) (hn : n < 18446744073709551616) : decide (IntKind.i64.wrap (n : Int) < 0) = ng64 n := by
  unfold ng64
  rw [Bool.eq_iff_iff, decide_eq_true_iff, beq_iff_eq]
  simp [IntKind.wrap, IntKind.bits, IntKind.signed]
  omega
set_option maxRecDepth 100000 in
theorem Signbit_any (n : Nat) (hn : n < 18446744073709551616) (w : World) : Calls Try.prog 63 #[.float .f64 n] w fun x w' => x = .returned (.bool (ng64 n)) ∧ w' = w := by
  have h := sign_wrap n hn
  have hb := f64bits n w
  generalize ng64 n = t at h
  generalize hx : IntKind.i64.wrap (n : Int) = s at h
  go_enter Try.func63, Try.ntmps63
  go_wp2
  go_ret
  exact ⟨rfl, rfl⟩
theorem andNot_sign (n : Nat) (hn : n < 18446744073709551616) : bits .andNot .u64 (n : Int) 9223372036854775808 = (rg64 n : Int) := by
  unfold rg64
  by_cases h : 9223372036854775808 ≤ n
  · have e := bits_andNot_pow n 9223372036854775808 63 (by decide) (by decide) h (by omega)
    rw [show ((9223372036854775808 : Nat) : Int) = 9223372036854775808 from rfl] at e
    rw [e]; omega
  · have a1 : (BitVec.ofInt 64 (n : Int)).toNat = n := by
      rw [BitVec.ofInt_natCast, BitVec.toNat_ofNat]; exact Nat.mod_eq_of_lt (by omega)
    have a2 : ~~~ BitVec.ofInt 64 (9223372036854775808 : Int) = BitVec.ofNat 64 9223372036854775807 := by decide
    show IntKind.u64.wrap ((BitVec.ofInt 64 (n : Int) &&& ~~~ BitVec.ofInt 64 (9223372036854775808 : Int)).toNat : Int) = _
    rw [a2, BitVec.toNat_and, a1, show (BitVec.ofNat 64 9223372036854775807).toNat = 2 ^ 63 - 1 from by decide, Nat.and_two_pow_sub_one_eq_mod, IntKind.wrap_u64]
    omega
set_option maxRecDepth 100000 in
theorem size_any (n : Nat) (hn : n < 18446744073709551616) (w : World) : Calls Try.prog 64 #[.float .f64 n] w fun x w' => x = .returned (.int .u64 (rg64 n)) ∧ w' = w := by
  have h := andNot_sign n hn
  have hb := f64bits n w
  generalize rg64 n = t at h
  go_enter Try.func64, Try.ntmps64
  go_wp2
  go_ret
  exact ⟨rfl, rfl⟩
/-- The place in the total order. -/
def rank64 (n : Nat) : Int := if nan64 n = true then 9223372036854775807 else if ng64 n = true then -1 - (rg64 n : Int) else rg64 n
theorem rg64_lt (n : Nat) : rg64 n < 9223372036854775808 := Nat.mod_lt _ (by decide)
set_option maxRecDepth 100000 in
theorem rank_any (n : Nat) (hn : n < 18446744073709551616) (w : World) : Calls Try.prog 61 #[.float .f64 n] w fun x w' => x = .returned (.int .i64 (rank64 n)) ∧ w' = w := by
  have N := IsNaN_any n
  have S := Signbit_any n hn
  have Z := size_any n hn
  have r := rg64_lt n
  unfold rank64
  have hx : IntKind.i64.wrap (rg64 n : Int) = (rg64 n : Int) := w64 _ (by omega) (by omega)
  have hy : IntKind.i64.wrap (-1 - (rg64 n : Int)) = -1 - (rg64 n : Int) := w64 _ (by omega) (by omega)
  generalize rg64 n = z at *
  cases hn1 : nan64 n <;> cases hs1 : ng64 n <;> rw [hn1] at N <;> rw [hs1] at S <;> simp only [if_true, if_false, Bool.false_eq_true]
  all_goals
    go_enter Try.func61, Try.ntmps61
    go_wp2_with (first
      | (go_at_call 58; refine (N _).mono ?_; rintro x w1 ⟨rfl, rfl⟩)
      | (go_at_call 63; refine (S _).mono ?_; rintro x w1 ⟨rfl, rfl⟩)
      | (go_at_call 64; refine (Z _).mono ?_; rintro x w1 ⟨rfl, rfl⟩)
      | fail)
    go_ret
    exact ⟨rfl, rfl⟩
/-- What stands above. -/
def up64 (n : Nat) : Nat := if nan64 n = true then n else if n = 9218868437227405312 then n else if rg64 n = 0 then 1 else if ng64 n = true then n - 1 else n + 1
set_option maxRecDepth 100000 in
theorem Up_any (n : Nat) (hn : n < 18446744073709551616) (w : World) : Calls Try.prog 24 #[.float .f64 n] w fun x w' => x = .returned (.float .f64 (up64 n)) ∧ w' = w := by
  have N := IsNaN_any n
  unfold up64
  by_cases hn1 : nan64 n = true
  · rw [hn1] at N
    rw [if_pos hn1]
    go_enter Try.func24, Try.ntmps24
    go_wp2_with (first
      | (go_at_call 58; refine (N _).mono ?_; rintro x w1 ⟨rfl, rfl⟩)
      | fail)
    go_ret
    exact ⟨rfl, rfl⟩
  rw [if_neg hn1]
  have hn2 : nan64 n = false := by simpa using hn1
  have I := IsInf_up n hn2
  rw [hn2] at N
  by_cases i1 : n = 9218868437227405312
  · rw [if_pos i1]
    have i2 : decide (n % 18446744073709551616 = 9218868437227405312) = true := by rw [decide_eq_true_eq]; omega
    rw [i2] at I
    clear i1 i2
    go_enter Try.func24, Try.ntmps24
    go_wp2_with (first
      | (go_at_call 58; refine (N _).mono ?_; rintro x w1 ⟨rfl, rfl⟩)
      | (go_at_call 59; refine (I _).mono ?_; rintro x w1 ⟨rfl, rfl⟩)
      | fail)
    go_ret
    exact ⟨rfl, rfl⟩
  rw [if_neg i1]
  have i2 : decide (n % 18446744073709551616 = 9218868437227405312) = false := by rw [decide_eq_false_iff_not]; omega
  rw [i2] at I
  have O := order_0 n hn2
  by_cases z1 : rg64 n = 0
  · rw [if_pos z1] at O ⊢
    have o1 : (FloatKind.f64.format.order n 0 == some .eq) = true := by rw [O]; rfl
    have hb : ∀ w, (callFunc 9 #[.int .u64 1]).run Try.prog w = .ok (.value (.float .f64 1)) w := f64frombits 1
    go_enter Try.func24, Try.ntmps24
    go_wp2_with (first
      | (go_at_call 58; refine (N _).mono ?_; rintro x w1 ⟨rfl, rfl⟩)
      | (go_at_call 59; refine (I _).mono ?_; rintro x w1 ⟨rfl, rfl⟩)
      | fail)
    go_ret
    exact ⟨rfl, rfl⟩
  rw [if_neg z1] at O ⊢
  have r0 := rg64_lt n
  have rn : rg64 n = n % 9223372036854775808 := rfl
  by_cases s1 : ng64 n = true
  · rw [if_pos s1] at O ⊢
    have o1 : (FloatKind.f64.format.order n 0 == some .eq) = false := by rw [O]; rfl
    have o2 : (FloatKind.f64.format.order n 0 == some .lt) = true := by rw [O]; rfl
    have hb := f64bits n
    obtain ⟨m, hm⟩ : ∃ m, m = n - 1 := ⟨_, rfl⟩
    rw [← hm]
    have hw : IntKind.u64.wrap ((n : Int) - 1) = (m : Int) := by rw [wu64 _ (by omega) (by omega)]; omega
    have hc := f64frombits m
    clear hm
    go_enter Try.func24, Try.ntmps24
    go_wp2_with (first
      | (go_at_call 58; refine (N _).mono ?_; rintro x w1 ⟨rfl, rfl⟩)
      | (go_at_call 59; refine (I _).mono ?_; rintro x w1 ⟨rfl, rfl⟩)
      | fail)
    go_ret
    exact ⟨rfl, rfl⟩
  · rw [if_neg s1] at O ⊢
    have o1 : (FloatKind.f64.format.order n 0 == some .eq) = false := by rw [O]; rfl
    have o2 : (FloatKind.f64.format.order n 0 == some .lt) = false := by rw [O]; rfl
    have s2 : n / 9223372036854775808 % 2 ≠ 1 := by unfold ng64 at s1; simpa using s1
    have hb := f64bits n
    obtain ⟨m, hm⟩ : ∃ m, m = n + 1 := ⟨_, rfl⟩
    rw [← hm]
    have hw : IntKind.u64.wrap ((n : Int) + 1) = (m : Int) := by rw [wu64 _ (by omega) (by omega)]; omega
    have hc := f64frombits m
    clear hm
    go_enter Try.func24, Try.ntmps24
    go_wp2_with (first
      | (go_at_call 58; refine (N _).mono ?_; rintro x w1 ⟨rfl, rfl⟩)
      | (go_at_call 59; refine (I _).mono ?_; rintro x w1 ⟨rfl, rfl⟩)
      | fail)
    go_ret
    exact ⟨rfl, rfl⟩
end Go.Proofs.Ytjgljcifnklmeaa
