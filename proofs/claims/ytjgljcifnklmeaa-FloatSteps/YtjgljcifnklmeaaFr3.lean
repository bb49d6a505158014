import Derived.Test.YtjgljcifnklmeaaFr2
namespace Go.Proofs.Ytjgljcifnklmeaa
open Go.RowKit Tn

/-- What a size by 2 to the places is, rounded; and whether nothing was lost. -/
def cutF (mant : Int) (places : Nat) (more neg : Bool) (way : Int) : Int × Bool :=
  if mant % 2 ^ places = 0 ∧ more = false then (mant / 2 ^ places, true)
  else (if awayF way neg (mant / 2 ^ places % 2 == 1) (besideF (mant % 2 ^ places) places more) = true then mant / 2 ^ places + 1 else mant / 2 ^ places, false)
set_option maxRecDepth 100000 in
set_option maxHeartbeats 1600000 in
/-- float.cut, of 1 to 64 places. -/
theorem cut_any (mant : Int) (places : Nat) (more neg : Bool) (way : Int) (m0 : 0 ≤ mant) (m1 : mant < 18446744073709551616) (p1 : 1 ≤ places) (p2 : places ≤ 64) (w : World) :
    Calls Try.prog 81 #[.int .u64 mant, .int .i64 places, .bool more, .bool neg, .int .i64 way] w fun e w' => e = .returned (.tuple #[.int .u64 (cutF mant places more neg way).1, .bool (cutF mant places more neg way).2]) ∧ w' = w := by
  have B := besideHalf_any (mant % 2 ^ places) _ places more p1 p2 rfl
  have A := IsAway_any neg (mant / 2 ^ places % 2 == 1) (besideF (mant % 2 ^ places) places more) way
  unfold cutF
  have tp : (0 : Int) < 2 ^ places := Int.pow_pos (by decide)
  have tp2 : (2 : Int) ≤ 2 ^ places := by
    obtain ⟨q, rfl⟩ : ∃ q, places = q + 1 := ⟨places - 1, by omega⟩
    rw [Int.pow_succ]
    have : (0 : Int) < 2 ^ q := Int.pow_pos (by decide)
    omega
  generalize hT : (2 : Int) ^ places = T at *
  have e0 := Int.mul_ediv_add_emod mant T
  have r0 := Int.emod_nonneg mant (show T ≠ 0 by omega)
  have l0 : 0 ≤ mant / T := Int.ediv_nonneg m0 (by omega)
  have l1 : mant / T ≤ 9223372036854775807 := by
    have := Int.mul_le_mul_of_nonneg_right tp2 l0
    omega
  generalize besideF (mant % T) places more = bs at *
  generalize hl : mant / T = l at *
  generalize hr : mant % T = r at *
  have odd : (bits .and .u64 l 1 == 1) = (l % 2 == 1) := by
    obtain ⟨L, rfl⟩ := Int.eq_ofNat_of_zero_le l0
    have e := bits_and_u64_nat L 1 (by omega) (by decide)
    rw [show ((1 : Nat) : Int) = 1 from rfl, Nat.and_one_is_mod] at e
    rw [e]; simp
  have hy : ((places : Int)).toNat = places := by omega
  have s1 : IntKind.u64.wrap (l * T) = l * T := wu64 _ (Int.mul_nonneg l0 (by omega)) (by rw [Int.mul_comm]; omega)
  have s2 : IntKind.u64.wrap (mant - l * T) = r := by rw [show mant - l * T = r from by rw [Int.mul_comm]; omega]; exact wu64 _ r0 (by have := Int.mul_nonneg (Int.le_of_lt tp) l0; omega)
  have s3 : IntKind.u64.wrap (l + 1) = l + 1 := wu64 _ (by omega) (by omega)
  have HX : Hid (T * l + r = mant) := e0
  generalize (l % 2 == 1) = od at *
  clear e0
  by_cases z : r = 0 ∧ more = false
  · obtain ⟨z1, rfl⟩ := z
    rw [if_pos ⟨z1, rfl⟩]
    have zz : (r == 0) = true := by rw [beq_iff_eq]; exact z1
    clear z1
    go_enter Try.func81, Try.ntmps81
    go_wp2
    exact bodyPost_ret (v := .tuple #[.int .u64 l, .bool true]) (by simp [results, Try.results81, go_sem]) rfl ⟨rfl, rfl⟩
  · rw [if_neg z]
    have zz : ((r == 0) = true ∧ more = true) ∨ (r == 0) = false := by
      by_cases h : r = 0
      · left
        refine ⟨by rw [beq_iff_eq]; exact h, ?_⟩
        cases hm : more
        · exact absurd ⟨h, hm⟩ z
        · rfl
      · right; rw [beq_eq_false_iff_ne]; exact h
    clear z
    generalize awayF way neg od bs = t at *
    rcases zz with ⟨z1, rfl⟩ | z1
    · cases t
      · simp only [Bool.false_eq_true, if_false]
        go_enter Try.func81, Try.ntmps81
        go_wp2_with (first
          | (go_at_call 106; refine (B _).mono ?_; rintro x w1 ⟨rfl, rfl⟩)
          | (go_at_call 105; refine (A _).mono ?_; rintro x w1 ⟨rfl, rfl⟩)
          | fail)
        exact bodyPost_ret (v := .tuple #[.int .u64 l, .bool false]) (by simp [results, Try.results81, go_sem]) rfl ⟨rfl, rfl⟩
      · simp only [if_true]
        go_enter Try.func81, Try.ntmps81
        go_wp2_with (first
          | (go_at_call 106; refine (B _).mono ?_; rintro x w1 ⟨rfl, rfl⟩)
          | (go_at_call 105; refine (A _).mono ?_; rintro x w1 ⟨rfl, rfl⟩)
          | fail)
        exact bodyPost_ret (v := .tuple #[.int .u64 (l + 1), .bool false]) (by simp [results, Try.results81, go_sem]) rfl ⟨rfl, rfl⟩
    · cases t
      · simp only [Bool.false_eq_true, if_false]
        go_enter Try.func81, Try.ntmps81
        go_wp2_with (first
          | (go_at_call 106; refine (B _).mono ?_; rintro x w1 ⟨rfl, rfl⟩)
          | (go_at_call 105; refine (A _).mono ?_; rintro x w1 ⟨rfl, rfl⟩)
          | fail)
        exact bodyPost_ret (v := .tuple #[.int .u64 l, .bool false]) (by simp [results, Try.results81, go_sem]) rfl ⟨rfl, rfl⟩
      · simp only [if_true]
        go_enter Try.func81, Try.ntmps81
        go_wp2_with (first
          | (go_at_call 106; refine (B _).mono ?_; rintro x w1 ⟨rfl, rfl⟩)
          | (go_at_call 105; refine (A _).mono ?_; rintro x w1 ⟨rfl, rfl⟩)
          | fail)
        exact bodyPost_ret (v := .tuple #[.int .u64 (l + 1), .bool false]) (by simp [results, Try.results81, go_sem]) rfl ⟨rfl, rfl⟩
end Go.Proofs.Ytjgljcifnklmeaa
