import Derived.Test.YtemfndmffpalfaaFl8
namespace Go.Proofs.Ytemfndmffpalfaa
open Go.RowKit Tn

theorem refNW (k : Int) (g : Bool) (M : Nat) (e : Int) (h1 : M < 18446744073709551616) : ∃ N : Nat, N < 18446744073709551616 ∧ (OkW (k, g, (M : Int), e) → (N : Int) = pckW (k, g, (M : Int), e)) ∧
    ((k = 4 ∧ (N : Int) = 9221120237041090560)
      ∨ (k = 3 ∧ g = false ∧ (N : Int) = 9218868437227405312)
      ∨ (k = 3 ∧ g = true ∧ (N : Int) = 18442240474082181120)
      ∨ (k = 0 ∧ g = false ∧ (N : Int) = 0)
      ∨ (k = 0 ∧ g = true ∧ (N : Int) = 9223372036854775808)
      ∨ (k = 1 ∧ g = false ∧ (N : Int) = bits .and .u64 (M : Int) 4503599627370495)
      ∨ (k = 1 ∧ g = true ∧ (N : Int) = bits .or .u64 (bits .and .u64 (M : Int) 4503599627370495) 9223372036854775808)
      ∨ (k = 2 ∧ g = false ∧ (N : Int) = bits .or .u64 (IntKind.u64.wrap (IntKind.u64.wrap (IntKind.i64.wrap (IntKind.i64.wrap (e + 1074) + 1)) * 4503599627370496)) (bits .and .u64 (M : Int) 4503599627370495) ∧ decide (-1074 ≤ e) = true ∧ decide (e ≤ 971) = true)
      ∨ (k = 2 ∧ g = true ∧ (N : Int) = bits .or .u64 (bits .or .u64 (IntKind.u64.wrap (IntKind.u64.wrap (IntKind.i64.wrap (IntKind.i64.wrap (e + 1074) + 1)) * 4503599627370496)) (bits .and .u64 (M : Int) 4503599627370495)) 9223372036854775808 ∧ decide (-1074 ≤ e) = true ∧ decide (e ≤ 971) = true)
      ∨ (k = 2 ∧ (N : Int) = 0 ∧ decide (-1074 ≤ e) = false)
      ∨ (k = 2 ∧ (N : Int) = 0 ∧ decide (-1074 ≤ e) = true ∧ decide (e ≤ 971) = false)
      ∨ ((N : Int) = 0 ∧ (k == 4) = false ∧ (k == 3) = false ∧ (k == 0) = false ∧ (k == 1) = false ∧ (k == 2) = false)) := by
  have fb : frW M < 4503599627370496 := Nat.mod_lt _ (by decide)
  have hf := hfW M h1
  have hs := hsgW (frW M) (by omega)
  by_cases k4 : k = 4
  · subst k4
    exact ⟨9221120237041090560, by decide, by intro o; simp [OkW] at o; simp [pckW, o.1], Or.inl ⟨rfl, rfl⟩⟩
  by_cases k3 : k = 3
  · subst k3
    cases g
    · exact ⟨9218868437227405312, by decide, by intro o; simp [pckW], Or.inr (Or.inl ⟨rfl, rfl, rfl⟩)⟩
    · exact ⟨18442240474082181120, by decide, by intro o; simp [pckW], Or.inr (Or.inr (Or.inl ⟨rfl, rfl, rfl⟩))⟩
  by_cases k0 : k = 0
  · subst k0
    cases g
    · exact ⟨0, by decide, by intro o; simp [pckW], Or.inr (Or.inr (Or.inr (Or.inl ⟨rfl, rfl, rfl⟩)))⟩
    · exact ⟨9223372036854775808, by decide, by intro o; simp [pckW], Or.inr (Or.inr (Or.inr (Or.inr (Or.inl ⟨rfl, rfl, rfl⟩))))⟩
  by_cases k1 : k = 1
  · subst k1
    have o1 : ∀ g, OkW (1, g, (M : Int), e) → frW M = M := by
      intro g o
      simp [OkW] at o
      unfold frW; omega
    cases g
    · exact ⟨frW M, by omega, by intro o; simp [pckW, o1 _ o], Or.inr (Or.inr (Or.inr (Or.inr (Or.inr (Or.inl ⟨rfl, rfl, hf.symm⟩)))))⟩
    · refine ⟨frW M + 9223372036854775808, by omega, ?_, Or.inr (Or.inr (Or.inr (Or.inr (Or.inr (Or.inr (Or.inl ⟨rfl, rfl, ?_⟩))))))⟩
      · intro o
        rw [o1 _ o]; simp [pckW]
      · rw [hf, hs]; omega
  by_cases k2 : k = 2
  · subst k2
    by_cases e1 : -1074 ≤ e
    · by_cases e2 : e ≤ 971
      · obtain ⟨D, hD⟩ := Int.eq_ofNat_of_zero_le (show 0 ≤ e + 1075 by omega)
        have r : bits .or .u64 (IntKind.u64.wrap (IntKind.u64.wrap (IntKind.i64.wrap (IntKind.i64.wrap (e + 1074) + 1)) * 4503599627370496)) (bits .and .u64 (M : Int) 4503599627370495) = (D : Int) * 4503599627370496 + (frW M : Int) := by
          rw [w64 (e + 1074) (by omega) (by omega), w64 _ (by omega) (by omega), show e + 1074 + 1 = (D : Int) from by omega, wu64 (D : Int) (by omega) (by omega), wu64 _ (by omega) (by omega), hf, hpkW D _ (by omega) fb]
        have o1 : ∀ g, OkW (2, g, (M : Int), e) → (frW M : Int) = M - 4503599627370496 := by
          intro g o
          simp [OkW] at o
          unfold frW; omega
        cases g
        · refine ⟨D * 4503599627370496 + frW M, by omega, ?_, Or.inr (Or.inr (Or.inr (Or.inr (Or.inr (Or.inr (Or.inr (Or.inl ⟨rfl, rfl, ?_, decide_eq_true e1, decide_eq_true e2⟩)))))))⟩
          · intro o
            have q := o1 _ o
            simp [pckW]; omega
          · rw [r]; omega
        · refine ⟨D * 4503599627370496 + frW M + 9223372036854775808, by omega, ?_, Or.inr (Or.inr (Or.inr (Or.inr (Or.inr (Or.inr (Or.inr (Or.inr (Or.inl ⟨rfl, rfl, ?_, decide_eq_true e1, decide_eq_true e2⟩))))))))⟩
          · intro o
            have q := o1 _ o
            simp [pckW]; omega
          · rw [r]
            have s := hsgW (D * 4503599627370496 + frW M) (by omega)
            rw [show ((D * 4503599627370496 + frW M : Nat) : Int) = (D : Int) * 4503599627370496 + (frW M : Int) from by omega] at s
            rw [s]; omega
      · exact ⟨0, by decide, by intro o; simp [OkW] at o; omega, Or.inr (Or.inr (Or.inr (Or.inr (Or.inr (Or.inr (Or.inr (Or.inr (Or.inr (Or.inr (Or.inl ⟨rfl, rfl, decide_eq_true e1, decide_eq_false e2⟩))))))))))⟩
    · exact ⟨0, by decide, by intro o; simp [OkW] at o; omega, Or.inr (Or.inr (Or.inr (Or.inr (Or.inr (Or.inr (Or.inr (Or.inr (Or.inr (Or.inl ⟨rfl, rfl, decide_eq_false e1⟩)))))))))⟩
  · refine ⟨0, by decide, ?_, Or.inr (Or.inr (Or.inr (Or.inr (Or.inr (Or.inr (Or.inr (Or.inr (Or.inr (Or.inr (Or.inr ⟨rfl, by simp [k4], by simp [k3], by simp [k0], by simp [k1], by simp [k2]⟩))))))))))⟩
    intro o
    simp [OkW] at o
    omega
theorem refNS (k : Int) (g : Bool) (M : Nat) (e : Int) (h1 : M < 18446744073709551616) : ∃ N : Nat, N < 18446744073709551616 ∧ (OkS (k, g, (M : Int), e) → (N : Int) = pckS (k, g, (M : Int), e)) ∧
    ((k = 4 ∧ (N : Int) = 2143289344)
      ∨ (k = 3 ∧ g = false ∧ (N : Int) = 2139095040)
      ∨ (k = 3 ∧ g = true ∧ (N : Int) = 4286578688)
      ∨ (k = 0 ∧ g = false ∧ (N : Int) = 0)
      ∨ (k = 0 ∧ g = true ∧ (N : Int) = 2147483648)
      ∨ (k = 1 ∧ g = false ∧ (N : Int) = bits .and .u64 (M : Int) 8388607)
      ∨ (k = 1 ∧ g = true ∧ (N : Int) = bits .or .u64 (bits .and .u64 (M : Int) 8388607) 2147483648)
      ∨ (k = 2 ∧ g = false ∧ (N : Int) = bits .or .u64 (IntKind.u64.wrap (IntKind.u64.wrap (IntKind.i64.wrap (IntKind.i64.wrap (e + 149) + 1)) * 8388608)) (bits .and .u64 (M : Int) 8388607) ∧ decide (-149 ≤ e) = true ∧ decide (e ≤ 104) = true)
      ∨ (k = 2 ∧ g = true ∧ (N : Int) = bits .or .u64 (bits .or .u64 (IntKind.u64.wrap (IntKind.u64.wrap (IntKind.i64.wrap (IntKind.i64.wrap (e + 149) + 1)) * 8388608)) (bits .and .u64 (M : Int) 8388607)) 2147483648 ∧ decide (-149 ≤ e) = true ∧ decide (e ≤ 104) = true)
      ∨ (k = 2 ∧ (N : Int) = 0 ∧ decide (-149 ≤ e) = false)
      ∨ (k = 2 ∧ (N : Int) = 0 ∧ decide (-149 ≤ e) = true ∧ decide (e ≤ 104) = false)
      ∨ ((N : Int) = 0 ∧ (k == 4) = false ∧ (k == 3) = false ∧ (k == 0) = false ∧ (k == 1) = false ∧ (k == 2) = false)) := by
  have fb : frS M < 8388608 := Nat.mod_lt _ (by decide)
  have hf := hfS M h1
  have hs := hsgS (frS M) (by omega)
  by_cases k4 : k = 4
  · subst k4
    exact ⟨2143289344, by decide, by intro o; simp [OkS] at o; simp [pckS, o.1], Or.inl ⟨rfl, rfl⟩⟩
  by_cases k3 : k = 3
  · subst k3
    cases g
    · exact ⟨2139095040, by decide, by intro o; simp [pckS], Or.inr (Or.inl ⟨rfl, rfl, rfl⟩)⟩
    · exact ⟨4286578688, by decide, by intro o; simp [pckS], Or.inr (Or.inr (Or.inl ⟨rfl, rfl, rfl⟩))⟩
  by_cases k0 : k = 0
  · subst k0
    cases g
    · exact ⟨0, by decide, by intro o; simp [pckS], Or.inr (Or.inr (Or.inr (Or.inl ⟨rfl, rfl, rfl⟩)))⟩
    · exact ⟨2147483648, by decide, by intro o; simp [pckS], Or.inr (Or.inr (Or.inr (Or.inr (Or.inl ⟨rfl, rfl, rfl⟩))))⟩
  by_cases k1 : k = 1
  · subst k1
    have o1 : ∀ g, OkS (1, g, (M : Int), e) → frS M = M := by
      intro g o
      simp [OkS] at o
      unfold frS; omega
    cases g
    · exact ⟨frS M, by omega, by intro o; simp [pckS, o1 _ o], Or.inr (Or.inr (Or.inr (Or.inr (Or.inr (Or.inl ⟨rfl, rfl, hf.symm⟩)))))⟩
    · refine ⟨frS M + 2147483648, by omega, ?_, Or.inr (Or.inr (Or.inr (Or.inr (Or.inr (Or.inr (Or.inl ⟨rfl, rfl, ?_⟩))))))⟩
      · intro o
        rw [o1 _ o]; simp [pckS]
      · rw [hf, hs]; omega
  by_cases k2 : k = 2
  · subst k2
    by_cases e1 : -149 ≤ e
    · by_cases e2 : e ≤ 104
      · obtain ⟨D, hD⟩ := Int.eq_ofNat_of_zero_le (show 0 ≤ e + 150 by omega)
        have r : bits .or .u64 (IntKind.u64.wrap (IntKind.u64.wrap (IntKind.i64.wrap (IntKind.i64.wrap (e + 149) + 1)) * 8388608)) (bits .and .u64 (M : Int) 8388607) = (D : Int) * 8388608 + (frS M : Int) := by
          rw [w64 (e + 149) (by omega) (by omega), w64 _ (by omega) (by omega), show e + 149 + 1 = (D : Int) from by omega, wu64 (D : Int) (by omega) (by omega), wu64 _ (by omega) (by omega), hf, hpkS D _ (by omega) fb]
        have o1 : ∀ g, OkS (2, g, (M : Int), e) → (frS M : Int) = M - 8388608 := by
          intro g o
          simp [OkS] at o
          unfold frS; omega
        cases g
        · refine ⟨D * 8388608 + frS M, by omega, ?_, Or.inr (Or.inr (Or.inr (Or.inr (Or.inr (Or.inr (Or.inr (Or.inl ⟨rfl, rfl, ?_, decide_eq_true e1, decide_eq_true e2⟩)))))))⟩
          · intro o
            have q := o1 _ o
            simp [pckS]; omega
          · rw [r]; omega
        · refine ⟨D * 8388608 + frS M + 2147483648, by omega, ?_, Or.inr (Or.inr (Or.inr (Or.inr (Or.inr (Or.inr (Or.inr (Or.inr (Or.inl ⟨rfl, rfl, ?_, decide_eq_true e1, decide_eq_true e2⟩))))))))⟩
          · intro o
            have q := o1 _ o
            simp [pckS]; omega
          · rw [r]
            have s := hsgS (D * 8388608 + frS M) (by omega)
            rw [show ((D * 8388608 + frS M : Nat) : Int) = (D : Int) * 8388608 + (frS M : Int) from by omega] at s
            rw [s]; omega
      · exact ⟨0, by decide, by intro o; simp [OkS] at o; omega, Or.inr (Or.inr (Or.inr (Or.inr (Or.inr (Or.inr (Or.inr (Or.inr (Or.inr (Or.inr (Or.inl ⟨rfl, rfl, decide_eq_true e1, decide_eq_false e2⟩))))))))))⟩
    · exact ⟨0, by decide, by intro o; simp [OkS] at o; omega, Or.inr (Or.inr (Or.inr (Or.inr (Or.inr (Or.inr (Or.inr (Or.inr (Or.inr (Or.inl ⟨rfl, rfl, decide_eq_false e1⟩)))))))))⟩
  · refine ⟨0, by decide, ?_, Or.inr (Or.inr (Or.inr (Or.inr (Or.inr (Or.inr (Or.inr (Or.inr (Or.inr (Or.inr (Or.inr ⟨rfl, by simp [k4], by simp [k3], by simp [k0], by simp [k1], by simp [k2]⟩))))))))))⟩
    intro o
    simp [OkS] at o
    omega
end Go.Proofs.Ytemfndmffpalfaa
