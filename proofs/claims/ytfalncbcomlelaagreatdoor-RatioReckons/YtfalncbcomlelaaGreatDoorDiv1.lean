import Derived.Test.YtfalncbcomlelaaGreatDoorDiv64
namespace Go.Proofs.YtfalncbcomlelaaGreatDoor
open Go.RowKit Tn

theorem divmod_eq (u v : Int) : u = u / v * v + u % v := by
  have := Int.emod_add_mul_ediv u v; rw [Int.mul_comm v] at this; omega
theorem step_wrap {A P R u : Int} (h : A + u = P + R) (r0 : 0 ≤ R) (r1 : R < 18446744073709551616) : IntKind.u64.wrap (IntKind.u64.wrap (IntKind.u64.wrap A + u) - IntKind.u64.wrap P) = R := by
  simp only [wrap_u64]; omega
theorem le_wrap {A : Int} (h0 : 0 ≤ A) (h1 : A < 18446744073709551616) : IntKind.u64.wrap A = A := by rw [wrap_u64]; omega
theorem part_le {u v : Int} (hu : 0 ≤ u) (hv : 0 < v) : 0 ≤ u / v * v ∧ u / v * v ≤ u := ⟨Int.mul_nonneg (Int.ediv_nonneg hu (by omega)) (by omega), quo_le hv⟩

/-- math/bits.Div64. -/
theorem Div64_any (hi lo y : Int) (w : World) (h0 : 0 ≤ hi) (h1 : hi < y) (l0 : 0 ≤ lo) (l1 : lo < 18446744073709551616) (y1 : y < 18446744073709551616) :
    Calls Tryz.prog 140 #[.int .u64 hi, .int .u64 lo, .int .u64 y] w fun e w' => ∃ q r, e = .returned (.tuple #[.int .u64 q, .int .u64 r]) ∧ q * y + r = hi * 18446744073709551616 + lo ∧ 0 ≤ r ∧ r < y ∧ 0 ≤ q ∧ q < 18446744073709551616 ∧ ∃ n, w' = w.drewN n := by
  by_cases hz : hi = 0
  · subst hz
    refine (div64_small lo y w h1 l0 l1).mono ?_
    rintro e w' ⟨rfl, n, rfl⟩
    have e := Int.emod_add_mul_ediv lo y
    refine ⟨_, _, rfl, by rw [Int.mul_comm]; omega, Int.emod_nonneg _ (by omega), Int.emod_lt_of_pos _ h1, Int.ediv_nonneg l0 (by omega), ?_, n, rfl⟩
    exact Int.lt_of_le_of_lt (Int.ediv_le_self _ l0) l1
  · obtain ⟨s, hs⟩ : ∃ s : Nat, (s : Int) = 64 - (Lib.bitLen y.toNat : Int) := ⟨64 - Lib.bitLen y.toNat, by have := bitLen_bd y (by omega) y1; omega⟩
    obtain ⟨s1, n1, n2⟩ := norm_bd y s (by omega) y1 hs
    have p := two_pos s
    have so := shift_out_lt lo s (by omega) l0 l1
    have se := shift_out lo s (by omega)
    obtain ⟨Y, hY⟩ : ∃ Y, Y = y * 2 ^ s := ⟨_, rfl⟩
    obtain ⟨T, hT⟩ : ∃ T : Int, T = lo / 2 ^ (64 - s) := ⟨_, rfl⟩
    obtain ⟨A, hA⟩ : ∃ A : Int, A = hi * 2 ^ s := ⟨_, rfl⟩
    obtain ⟨L, hL⟩ : ∃ L : Int, L = lo * 2 ^ s := ⟨_, rfl⟩
    have hA0 : 0 ≤ A := by rw [hA]; exact Int.mul_nonneg h0 (by omega)
    have hAY : A + 2 ^ s ≤ Y := by
      have := Int.mul_le_mul_of_nonneg_right (show hi + 1 ≤ y by omega) (Int.le_of_lt p)
      rw [hA, hY]; grind
    rw [← hT] at so se
    rw [← hL] at se
    rw [← hY] at n1 n2
    have hL0 : 0 ≤ L := by rw [hL]; exact Int.mul_nonneg l0 (by omega)
    have e1 := part_le (u := A + T) (v := Y / 4294967296) (by omega) (by omega)
    have dY : Y = Y / 4294967296 * 4294967296 + Y % 4294967296 := by omega
    obtain ⟨Q1, hQ1⟩ : ∃ Q1, Q1 = ((A + T) * 4294967296 + L % 18446744073709551616 / 4294967296) / Y := ⟨_, rfl⟩
    obtain ⟨R1, hR1⟩ : ∃ R1, R1 = ((A + T) * 4294967296 + L % 18446744073709551616 / 4294967296) % Y := ⟨_, rfl⟩
    obtain ⟨Q0, hQ0⟩ : ∃ Q0, Q0 = (R1 * 4294967296 + L % 18446744073709551616 % 4294967296) / Y := ⟨_, rfl⟩
    obtain ⟨R0, hR0⟩ : ∃ R0, R0 = (R1 * 4294967296 + L % 18446744073709551616 % 4294967296) % Y := ⟨_, rfl⟩
    have k1 : (A + T) * 4294967296 + L % 18446744073709551616 / 4294967296 = Q1 * Y + R1 := by rw [hQ1, hR1]; exact divmod_eq _ _
    have k2 : R1 * 4294967296 + L % 18446744073709551616 % 4294967296 = Q0 * Y + R0 := by rw [hQ0, hR0]; exact divmod_eq _ _
    have b1 : 0 ≤ R1 ∧ R1 < Y := by rw [hR1]; exact ⟨Int.emod_nonneg _ (by omega), Int.emod_lt_of_pos _ (by omega)⟩
    have b2 : 0 ≤ R0 ∧ R0 < Y := by rw [hR0]; exact ⟨Int.emod_nonneg _ (by omega), Int.emod_lt_of_pos _ (by omega)⟩
    have b3 : 0 ≤ Q1 := by rw [hQ1]; exact Int.ediv_nonneg (by omega) (by omega)
    have b4 : 0 ≤ Q0 := by rw [hQ0]; exact Int.ediv_nonneg (by omega) (by omega)
    have b5 : Q1 < 4294967296 := by
      rw [hQ1]; refine Int.ediv_lt_of_lt_mul (by omega) ?_; omega
    have b6 : Q0 < 4294967296 := by
      rw [hQ0]; refine Int.ediv_lt_of_lt_mul (by omega) ?_; omega
    have e4 := part_le (u := R1) (v := Y / 4294967296) b1.1 (by omega)
    have wA : IntKind.u64.wrap (hi * 2 ^ s) = hi * 2 ^ s := by rw [← hA]; exact le_wrap hA0 (by omega)
    refine (div64_core hi lo y w (by omega) h1 y1 s hs s1 Y (Y / 4294967296) (Y % 4294967296) (A + T) (L % 18446744073709551616) (L % 18446744073709551616 / 4294967296) (L % 18446744073709551616 % 4294967296) Q1 R1 Q0 R0
      (by rw [← hY]; exact le_wrap (by omega) n2) rfl (and32 Y (by omega) n2) (by rw [wA, ← hT, or_shift s hi T h0 (by rw [← hA]; omega) so.1 so.2 (by omega), hA]) (by rw [← hL, wrap_u64]) rfl (and32 _ (by omega) (by omega))
      (by omega) (by omega) (by omega) (by omega) (by omega) (by omega) (by omega) (by omega) (by omega) (by omega) dY (by omega) hQ1 hQ0
      (le_wrap e1.1 (by omega)) (le_wrap (by omega) (by omega)) (step_wrap k1 b1.1 (by omega)) (le_wrap e4.1 (by omega)) (le_wrap (by omega) (by omega)) (step_wrap k2 b2.1 (by omega))
      b3 b5 b4 b6 b1.1 (by omega) (by omega)).mono ?_
    rintro e w' ⟨rfl, hw'⟩
    have main : (hi * 18446744073709551616 + lo) * 2 ^ s = (Q1 * 4294967296 + Q0) * y * 2 ^ s + R0 := by
      have f1 : (hi * 18446744073709551616 + lo) * 2 ^ s = A * 18446744073709551616 + L := by rw [hA, hL]; grind
      have f2 : (Q1 * 4294967296 + Q0) * y * 2 ^ s = (Q1 * Y) * 4294967296 + Q0 * Y := by rw [hY]; grind
      rw [f1, f2]; omega
    have f3 : R0 = (hi * 18446744073709551616 + lo - (Q1 * 4294967296 + Q0) * y) * 2 ^ s := by
      have : (hi * 18446744073709551616 + lo - (Q1 * 4294967296 + Q0) * y) * 2 ^ s = (hi * 18446744073709551616 + lo) * 2 ^ s - (Q1 * 4294967296 + Q0) * y * 2 ^ s := by grind
      rw [this]; omega
    have f4 : R0 / 2 ^ s = hi * 18446744073709551616 + lo - (Q1 * 4294967296 + Q0) * y := by
      rw [f3]; exact Int.mul_ediv_cancel _ (by omega)
    refine ⟨_, _, rfl, by rw [f4]; omega, Int.ediv_nonneg b2.1 (by omega), ?_, by omega, by omega, 0, hw'⟩
    refine Int.ediv_lt_of_lt_mul p ?_
    rw [← hY]; exact b2.2
end Go.Proofs.YtfalncbcomlelaaGreatDoor
