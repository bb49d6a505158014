import Derived.Test.YtfpmegfdopnnpaaPart10
import Derived.Laws.Externs
import Derived.WalkKit
import Derived.WalkLawsBesides

namespace Go.Proofs.Ytfpmegfdopnnpaa
open Go.RowKit Tn

theorem refNW (k : Int) (g : Bool) (M : Nat) (e : Int) (h1 : M < 18446744073709551616) : ∃ N : Nat, N < 18446744073709551616 ∧ (OkW (k, g, (M : Int), e) → (N : Int) = pckW (k, g, (M : Int), e)) ∧
    ((k = 4 ∧ (N : Int) = 9221120237041090560)
      ∨ (k = 3 ∧ g = false ∧ (N : Int) = 9218868437227405312)
      ∨ (k = 3 ∧ g = true ∧ (N : Int) = 18442240474082181120)
      ∨ (k = 0 ∧ g = false ∧ (N : Int) = 0)
      ∨ (k = 0 ∧ g = true ∧ (N : Int) = 9223372036854775808)
      ∨ (k = 1 ∧ g = false ∧ (N : Int) = bits .and .u64 (M : Int) 4503599627370495)
      ∨ (k = 1 ∧ g = true ∧ (N : Int) = bits .or .u64 (bits .and .u64 (M : Int) 4503599627370495) 9223372036854775808)
      ∨ (k = 2 ∧ g = false ∧ (N : Int) = bits .or .u64 (IntKind.u64.wrap (IntKind.u64.wrap (IntKind.i64.wrap (IntKind.i64.wrap (e + 1074) + 1)) * 4503599627370496)) (bits .and .u64 (M : Int) 4503599627370495) ∧ decide (-1074 ≤ e) = true ∧ decide (e ≤ 971) = true)
      ∨ (k = 2 ∧ g = true ∧ (N : Int) = bits .or .u64 (bits .or .u64 (IntKind.u64.wrap (IntKind.u64.wrap (IntKind.i64.wrap (IntKind.i64.wrap (e + 1074) + 1)) * 4503599627370496)) (bits .and .u64 (M : Int) 4503599627370495)) 9223372036854775808 ∧ decide (-1074 ≤ e) = true ∧ decide (e ≤ 971) = true)
      ∨ (k = 2 ∧ (N : Int) = 0 ∧ decide (-1074 ≤ e) = false)
      ∨ (k = 2 ∧ (N : Int) = 0 ∧ decide (-1074 ≤ e) = true ∧ decide (e ≤ 971) = false)
      ∨ ((N : Int) = 0 ∧ (k == 4) = false ∧ (k == 3) = false ∧ (k == 0) = false ∧ (k == 1) = false ∧ (k == 2) = false)) := by
  have fb : frW M < 4503599627370496 := Nat.mod_lt _ (by decide)
  have hf := hfW M h1
  have hs := hsgW (frW M) (by omega)
  by_cases k4 : k = 4
  · subst k4
    exact ⟨9221120237041090560, by decide, by intro o; simp [OkW] at o; simp [pckW, o.1], Or.inl ⟨rfl, rfl⟩⟩
  by_cases k3 : k = 3
  · subst k3
    cases g
    · exact ⟨9218868437227405312, by decide, by intro o; simp [pckW], Or.inr (Or.inl ⟨rfl, rfl, rfl⟩)⟩
    · exact ⟨18442240474082181120, by decide, by intro o; simp [pckW], Or.inr (Or.inr (Or.inl ⟨rfl, rfl, rfl⟩))⟩
  by_cases k0 : k = 0
  · subst k0
    cases g
    · exact ⟨0, by decide, by intro o; simp [pckW], Or.inr (Or.inr (Or.inr (Or.inl ⟨rfl, rfl, rfl⟩)))⟩
    · exact ⟨9223372036854775808, by decide, by intro o; simp [pckW], Or.inr (Or.inr (Or.inr (Or.inr (Or.inl ⟨rfl, rfl, rfl⟩))))⟩
  by_cases k1 : k = 1
  · subst k1
    have o1 : ∀ g, OkW (1, g, (M : Int), e) → frW M = M := by
      intro g o
      simp [OkW] at o
      unfold frW; omega
    cases g
    · exact ⟨frW M, by omega, by intro o; simp [pckW, o1 _ o], Or.inr (Or.inr (Or.inr (Or.inr (Or.inr (Or.inl ⟨rfl, rfl, hf.symm⟩)))))⟩
    · refine ⟨frW M + 9223372036854775808, by omega, ?_, Or.inr (Or.inr (Or.inr (Or.inr (Or.inr (Or.inr (Or.inl ⟨rfl, rfl, ?_⟩))))))⟩
      · intro o
        rw [o1 _ o]; simp [pckW]
      · rw [hf, hs]; omega
  by_cases k2 : k = 2
  · subst k2
    by_cases e1 : -1074 ≤ e
    · by_cases e2 : e ≤ 971
      · obtain ⟨D, hD⟩ := Int.eq_ofNat_of_zero_le (show 0 ≤ e + 1075 by omega)
        have r : bits .or .u64 (IntKind.u64.wrap (IntKind.u64.wrap (IntKind.i64.wrap (IntKind.i64.wrap (e + 1074) + 1)) * 4503599627370496)) (bits .and .u64 (M : Int) 4503599627370495) = (D : Int) * 4503599627370496 + (frW M : Int) := by
          rw [w64 (e + 1074) (by omega) (by omega), w64 _ (by omega) (by omega), show e + 1074 + 1 = (D : Int) from by omega, wu64 (D : Int) (by omega) (by omega), wu64 _ (by omega) (by omega), hf, hpkW D _ (by omega) fb]
        have o1 : ∀ g, OkW (2, g, (M : Int), e) → (frW M : Int) = M - 4503599627370496 := by
          intro g o
          simp [OkW] at o
          unfold frW; omega
        cases g
        · refine ⟨D * 4503599627370496 + frW M, by omega, ?_, Or.inr (Or.inr (Or.inr (Or.inr (Or.inr (Or.inr (Or.inr (Or.inl ⟨rfl, rfl, ?_, decide_eq_true e1, decide_eq_true e2⟩)))))))⟩
          · intro o
            have q := o1 _ o
            simp [pckW]; omega
          · rw [r]; omega
        · refine ⟨D * 4503599627370496 + frW M + 9223372036854775808, by omega, ?_, Or.inr (Or.inr (Or.inr (Or.inr (Or.inr (Or.inr (Or.inr (Or.inr (Or.inl ⟨rfl, rfl, ?_, decide_eq_true e1, decide_eq_true e2⟩))))))))⟩
          · intro o
            have q := o1 _ o
            simp [pckW]; omega
          · rw [r]
            have s := hsgW (D * 4503599627370496 + frW M) (by omega)
            rw [show ((D * 4503599627370496 + frW M : Nat) : Int) = (D : Int) * 4503599627370496 + (frW M : Int) from by omega] at s
            rw [s]; omega
      · exact ⟨0, by decide, by intro o; simp [OkW] at o; omega, Or.inr (Or.inr (Or.inr (Or.inr (Or.inr (Or.inr (Or.inr (Or.inr (Or.inr (Or.inr (Or.inl ⟨rfl, rfl, decide_eq_true e1, decide_eq_false e2⟩))))))))))⟩
    · exact ⟨0, by decide, by intro o; simp [OkW] at o; omega, Or.inr (Or.inr (Or.inr (Or.inr (Or.inr (Or.inr (Or.inr (Or.inr (Or.inr (Or.inl ⟨rfl, rfl, decide_eq_false e1⟩)))))))))⟩
  · refine ⟨0, by decide, ?_, Or.inr (Or.inr (Or.inr (Or.inr (Or.inr (Or.inr (Or.inr (Or.inr (Or.inr (Or.inr (Or.inr ⟨rfl, by simp [k4], by simp [k3], by simp [k0], by simp [k1], by simp [k2]⟩))))))))))⟩
    intro o
    simp [OkW] at o
    omega
theorem Join_w (p : Int × Bool × Int × Int) (h0 : 0 ≤ p.2.2.1) (h1 : p.2.2.1 < 18446744073709551616) (w : World) :
    Calls Try.prog 17 #[szW, prt4 p] w fun x w' => x = .returned (.tuple #[.int .u64 (joiW p).1, .int .i64 (joiW p).2]) ∧ Below w.heap.size w w' := by
  obtain ⟨k, g, m, e⟩ := p
  simp only at h0 h1
  obtain ⟨M, rfl⟩ := Int.eq_ofNat_of_zero_le h0
  obtain ⟨N, n1, n2, HN⟩ := refNW k g M e (by omega)
  have S := Split_w N n1
  have o' := splW_ok N
  generalize hq : splW N = q at S o'
  obtain ⟨k', g', m', e'⟩ := q
  by_cases o : OkW (k, g, (M : Int), e)
  · have E : splW N = (k, g, (M : Int), e) := by
      have h := splW_pck o
      rw [← n2 o, Int.toNat_natCast] at h
      exact h
    rw [hq] at E
    simp only [Prod.mk.injEq] at E
    obtain ⟨rfl, rfl, rfl, rfl⟩ := E
    have H := Join_w_walk k' g' M e' N k' g' M e' true _ _ _ _ _ _ _ _ rfl rfl rfl rfl rfl rfl rfl rfl HN S (Or.inr (Or.inr (Or.inr (Or.inr ⟨rfl, rfl, rfl, rfl, rfl⟩)))) w
    rw [n2 o] at H
    unfold joiW
    rw [if_pos o]
    exact H
  · have ne : ¬ (k' = k ∧ g' = g ∧ m' = (M : Int) ∧ e' = e) := by
      rintro ⟨rfl, rfl, rfl, rfl⟩
      exact o o'
    unfold joiW
    rw [if_neg o]
    refine Join_w_walk k g M e N k' g' m' e' false _ _ _ _ _ _ _ _ rfl rfl rfl rfl rfl rfl rfl rfl HN S ?_ w
    by_cases a1 : k' = k
    · by_cases a2 : g' = g
      · by_cases a3 : m' = (M : Int)
        · exact Or.inr (Or.inr (Or.inr (Or.inl ⟨a1, a2, a3, by simp; exact fun h => ne ⟨a1, a2, a3, h⟩, rfl⟩)))
        · exact Or.inr (Or.inr (Or.inl ⟨a1, a2, by simp [a3], rfl⟩))
      · exact Or.inr (Or.inl ⟨a1, by simp [a2], rfl⟩)
    · exact Or.inl ⟨by simp [a1], rfl⟩
theorem refNS (k : Int) (g : Bool) (M : Nat) (e : Int) (h1 : M < 18446744073709551616) : ∃ N : Nat, N < 18446744073709551616 ∧ (OkS (k, g, (M : Int), e) → (N : Int) = pckS (k, g, (M : Int), e)) ∧
    ((k = 4 ∧ (N : Int) = 2143289344)
      ∨ (k = 3 ∧ g = false ∧ (N : Int) = 2139095040)
      ∨ (k = 3 ∧ g = true ∧ (N : Int) = 4286578688)
      ∨ (k = 0 ∧ g = false ∧ (N : Int) = 0)
      ∨ (k = 0 ∧ g = true ∧ (N : Int) = 2147483648)
      ∨ (k = 1 ∧ g = false ∧ (N : Int) = bits .and .u64 (M : Int) 8388607)
      ∨ (k = 1 ∧ g = true ∧ (N : Int) = bits .or .u64 (bits .and .u64 (M : Int) 8388607) 2147483648)
      ∨ (k = 2 ∧ g = false ∧ (N : Int) = bits .or .u64 (IntKind.u64.wrap (IntKind.u64.wrap (IntKind.i64.wrap (IntKind.i64.wrap (e + 149) + 1)) * 8388608)) (bits .and .u64 (M : Int) 8388607) ∧ decide (-149 ≤ e) = true ∧ decide (e ≤ 104) = true)
      ∨ (k = 2 ∧ g = true ∧ (N : Int) = bits .or .u64 (bits .or .u64 (IntKind.u64.wrap (IntKind.u64.wrap (IntKind.i64.wrap (IntKind.i64.wrap (e + 149) + 1)) * 8388608)) (bits .and .u64 (M : Int) 8388607)) 2147483648 ∧ decide (-149 ≤ e) = true ∧ decide (e ≤ 104) = true)
      ∨ (k = 2 ∧ (N : Int) = 0 ∧ decide (-149 ≤ e) = false)
      ∨ (k = 2 ∧ (N : Int) = 0 ∧ decide (-149 ≤ e) = true ∧ decide (e ≤ 104) = false)
      ∨ ((N : Int) = 0 ∧ (k == 4) = false ∧ (k == 3) = false ∧ (k == 0) = false ∧ (k == 1) = false ∧ (k == 2) = false)) := by
  have fb : frS M < 8388608 := Nat.mod_lt _ (by decide)
  have hf := hfS M h1
  have hs := hsgS (frS M) (by omega)
  by_cases k4 : k = 4
  · subst k4
    exact ⟨2143289344, by decide, by intro o; simp [OkS] at o; simp [pckS, o.1], Or.inl ⟨rfl, rfl⟩⟩
  by_cases k3 : k = 3
  · subst k3
    cases g
    · exact ⟨2139095040, by decide, by intro o; simp [pckS], Or.inr (Or.inl ⟨rfl, rfl, rfl⟩)⟩
    · exact ⟨4286578688, by decide, by intro o; simp [pckS], Or.inr (Or.inr (Or.inl ⟨rfl, rfl, rfl⟩))⟩
  by_cases k0 : k = 0
  · subst k0
    cases g
    · exact ⟨0, by decide, by intro o; simp [pckS], Or.inr (Or.inr (Or.inr (Or.inl ⟨rfl, rfl, rfl⟩)))⟩
    · exact ⟨2147483648, by decide, by intro o; simp [pckS], Or.inr (Or.inr (Or.inr (Or.inr (Or.inl ⟨rfl, rfl, rfl⟩))))⟩
  by_cases k1 : k = 1
  · subst k1
    have o1 : ∀ g, OkS (1, g, (M : Int), e) → frS M = M := by
      intro g o
      simp [OkS] at o
      unfold frS; omega
    cases g
    · exact ⟨frS M, by omega, by intro o; simp [pckS, o1 _ o], Or.inr (Or.inr (Or.inr (Or.inr (Or.inr (Or.inl ⟨rfl, rfl, hf.symm⟩)))))⟩
    · refine ⟨frS M + 2147483648, by omega, ?_, Or.inr (Or.inr (Or.inr (Or.inr (Or.inr (Or.inr (Or.inl ⟨rfl, rfl, ?_⟩))))))⟩
      · intro o
        rw [o1 _ o]; simp [pckS]
      · rw [hf, hs]; omega
  by_cases k2 : k = 2
  · subst k2
    by_cases e1 : -149 ≤ e
    · by_cases e2 : e ≤ 104
      · obtain ⟨D, hD⟩ := Int.eq_ofNat_of_zero_le (show 0 ≤ e + 150 by omega)
        have r : bits .or .u64 (IntKind.u64.wrap (IntKind.u64.wrap (IntKind.i64.wrap (IntKind.i64.wrap (e + 149) + 1)) * 8388608)) (bits .and .u64 (M : Int) 8388607) = (D : Int) * 8388608 + (frS M : Int) := by
          rw [w64 (e + 149) (by omega) (by omega), w64 _ (by omega) (by omega), show e + 149 + 1 = (D : Int) from by omega, wu64 (D : Int) (by omega) (by omega), wu64 _ (by omega) (by omega), hf, hpkS D _ (by omega) fb]
        have o1 : ∀ g, OkS (2, g, (M : Int), e) → (frS M : Int) = M - 8388608 := by
          intro g o
          simp [OkS] at o
          unfold frS; omega
        cases g
        · refine ⟨D * 8388608 + frS M, by omega, ?_, Or.inr (Or.inr (Or.inr (Or.inr (Or.inr (Or.inr (Or.inr (Or.inl ⟨rfl, rfl, ?_, decide_eq_true e1, decide_eq_true e2⟩)))))))⟩
          · intro o
            have q := o1 _ o
            simp [pckS]; omega
          · rw [r]; omega
        · refine ⟨D * 8388608 + frS M + 2147483648, by omega, ?_, Or.inr (Or.inr (Or.inr (Or.inr (Or.inr (Or.inr (Or.inr (Or.inr (Or.inl ⟨rfl, rfl, ?_, decide_eq_true e1, decide_eq_true e2⟩))))))))⟩
          · intro o
            have q := o1 _ o
            simp [pckS]; omega
          · rw [r]
            have s := hsgS (D * 8388608 + frS M) (by omega)
            rw [show ((D * 8388608 + frS M : Nat) : Int) = (D : Int) * 8388608 + (frS M : Int) from by omega] at s
            rw [s]; omega
      · exact ⟨0, by decide, by intro o; simp [OkS] at o; omega, Or.inr (Or.inr (Or.inr (Or.inr (Or.inr (Or.inr (Or.inr (Or.inr (Or.inr (Or.inr (Or.inl ⟨rfl, rfl, decide_eq_true e1, decide_eq_false e2⟩))))))))))⟩
    · exact ⟨0, by decide, by intro o; simp [OkS] at o; omega, Or.inr (Or.inr (Or.inr (Or.inr (Or.inr (Or.inr (Or.inr (Or.inr (Or.inr (Or.inl ⟨rfl, rfl, decide_eq_false e1⟩)))))))))⟩
  · refine ⟨0, by decide, ?_, Or.inr (Or.inr (Or.inr (Or.inr (Or.inr (Or.inr (Or.inr (Or.inr (Or.inr (Or.inr (Or.inr ⟨rfl, by simp [k4], by simp [k3], by simp [k0], by simp [k1], by simp [k2]⟩))))))))))⟩
    intro o
    simp [OkS] at o
    omega
theorem Join_s (p : Int × Bool × Int × Int) (h0 : 0 ≤ p.2.2.1) (h1 : p.2.2.1 < 18446744073709551616) (w : World) :
    Calls Try.prog 17 #[szS, prt4 p] w fun x w' => x = .returned (.tuple #[.int .u64 (joiS p).1, .int .i64 (joiS p).2]) ∧ Below w.heap.size w w' := by
  obtain ⟨k, g, m, e⟩ := p
  simp only at h0 h1
  obtain ⟨M, rfl⟩ := Int.eq_ofNat_of_zero_le h0
  obtain ⟨N, n1, n2, HN⟩ := refNS k g M e (by omega)
  have S := Split_s N n1
  have o' := splS_ok N
  generalize hq : splS N = q at S o'
  obtain ⟨k', g', m', e'⟩ := q
  by_cases o : OkS (k, g, (M : Int), e)
  · have E : splS N = (k, g, (M : Int), e) := by
      have h := splS_pck o
      rw [← n2 o, Int.toNat_natCast] at h
      exact h
    rw [hq] at E
    simp only [Prod.mk.injEq] at E
    obtain ⟨rfl, rfl, rfl, rfl⟩ := E
    have H := Join_s_walk k' g' M e' N k' g' M e' true _ _ _ _ _ _ _ _ rfl rfl rfl rfl rfl rfl rfl rfl HN S (Or.inr (Or.inr (Or.inr (Or.inr ⟨rfl, rfl, rfl, rfl, rfl⟩)))) w
    rw [n2 o] at H
    unfold joiS
    rw [if_pos o]
    exact H
  · have ne : ¬ (k' = k ∧ g' = g ∧ m' = (M : Int) ∧ e' = e) := by
      rintro ⟨rfl, rfl, rfl, rfl⟩
      exact o o'
    unfold joiS
    rw [if_neg o]
    refine Join_s_walk k g M e N k' g' m' e' false _ _ _ _ _ _ _ _ rfl rfl rfl rfl rfl rfl rfl rfl HN S ?_ w
    by_cases a1 : k' = k
    · by_cases a2 : g' = g
      · by_cases a3 : m' = (M : Int)
        · exact Or.inr (Or.inr (Or.inr (Or.inl ⟨a1, a2, a3, by simp; exact fun h => ne ⟨a1, a2, a3, h⟩, rfl⟩)))
        · exact Or.inr (Or.inr (Or.inl ⟨a1, a2, by simp [a3], rfl⟩))
      · exact Or.inr (Or.inl ⟨a1, by simp [a2], rfl⟩)
    · exact Or.inl ⟨by simp [a1], rfl⟩
end Go.Proofs.Ytfpmegfdopnnpaa

namespace Go.Proofs.Ytfpmegfdopnnpaa
open Go.RowKit Tn

theorem f64bits (b : Nat) (w : World) : (callFunc 42 #[.float .f64 b]).run Try.prog w = .ok (.value (.int .u64 b)) w :=
  run_callFunc_extern (e := Extern.MathFloatBits.float64bits) Try.func42 (by kernel_rfl) rfl (by kernel_rfl) (by kernel_rfl) _ w
theorem f64frombits (b : Nat) (w : World) : (callFunc 9 #[.int .u64 b]).run Try.prog w = .ok (.value (.float .f64 b)) w :=
  run_callFunc_extern (e := Extern.MathFloatBits.float64frombits) Try.func9 (by kernel_rfl) rfl (by kernel_rfl) (by kernel_rfl) _ w
theorem f32bits (b : Nat) (w : World) : (callFunc 46 #[.float .f32 b]).run Try.prog w = .ok (.value (.int .u32 b)) w :=
  run_callFunc_extern (e := Extern.MathFloatBits.float32bits) Try.func46 (by kernel_rfl) rfl (by kernel_rfl) (by kernel_rfl) _ w
theorem f32frombits (b : Nat) (w : World) : (callFunc 13 #[.int .u32 b]).run Try.prog w = .ok (.value (.float .f32 b)) w :=
  run_callFunc_extern (e := Extern.MathFloatBits.float32frombits) Try.func13 (by kernel_rfl) rfl (by kernel_rfl) (by kernel_rfl) _ w
end Go.Proofs.Ytfpmegfdopnnpaa

namespace Tn
open Go

theorem fmt64 : FloatKind.f64.format = Ieee.double := rfl
/-- The sign bit, as a test. -/
def ng64 (n : Nat) : Bool := n / 9223372036854775808 % 2 == 1
/-- The bits below it. -/
def rg64 (n : Nat) : Nat := n % 9223372036854775808
theorem read64 (n : Nat) : Ieee.double.read n = if rg64 n < 4503599627370496 then .number (ng64 n) (rg64 n) (-1074)
    else if rg64 n < 9218868437227405312 then .number (ng64 n) (4503599627370496 + rg64 n % 4503599627370496) (-1074 + ((rg64 n / 4503599627370496 - 1 : Nat) : Int))
    else if rg64 n = 9218868437227405312 then .infinity (ng64 n) else .nan (ng64 n) (rg64 n - 9218868437227405312) := rfl
/-- It is none. -/
def nan64 (n : Nat) : Bool := decide (9218868437227405312 < rg64 n)
theorem order_self (n : Nat) : (FloatKind.f64.format.order n n != some .eq) = nan64 n := by
  rw [fmt64]
  unfold Ieee.Format.order nan64
  rw [read64]
  split
  · have e : decide (9218868437227405312 < rg64 n) = false := by rw [decide_eq_false_iff_not]; omega
    rw [e]; simp [Ieee.Datum.order]
  · split
    · have e : decide (9218868437227405312 < rg64 n) = false := by rw [decide_eq_false_iff_not]; omega
      rw [e]; simp [Ieee.Datum.order]
    · split
      · have e : decide (9218868437227405312 < rg64 n) = false := by rw [decide_eq_false_iff_not]; omega
        rw [e]; simp [Ieee.Datum.order]
      · have e : decide (9218868437227405312 < rg64 n) = true := by rw [decide_eq_true_eq]; omega
        rw [e]; simp [Ieee.Datum.order]
theorem cmp_int (a b : Int) : compare a b = if a < b then .lt else if a = b then .eq else .gt := rfl
theorem cmp_zero (s : Bool) (m k : Nat) : compare (Ieee.signed s m k) (Ieee.signed false 0 0) = if m = 0 then .eq else if s = true then .lt else .gt := by
  have hp : 0 < m → 0 < m <<< k := by intro h; rw [Nat.shiftLeft_eq]; exact Nat.mul_pos h (Nat.two_pow_pos k)
  unfold Ieee.signed
  by_cases hm : m = 0
  · subst hm; cases s <;> simp [Nat.zero_shiftLeft]
  · have := hp (by omega)
    generalize m <<< k = x at this
    rw [cmp_int, Nat.zero_shiftLeft]
    cases s
    · rw [if_neg (by simp), if_neg (by simp; omega), if_neg hm, if_neg (by simp)]
    · rw [if_pos (by simp; omega), if_neg hm, if_pos rfl]
theorem order_0 (n : Nat) (h : nan64 n = false) : FloatKind.f64.format.order n 0 = some (if rg64 n = 0 then .eq else if ng64 n = true then .lt else .gt) := by
  rw [fmt64]
  unfold Ieee.Format.order
  simp only [nan64, decide_eq_false_iff_not] at h
  rw [show Ieee.double.read 0 = .number false 0 (-1074) from rfl, read64 n]
  split
  · simp only [Ieee.Datum.order]
    rw [show min (-1074 : Int) (-1074) = -1074 from rfl, show ((-1074 : Int) - -1074).toNat = 0 from rfl, cmp_zero]
  · split
    · simp only [Ieee.Datum.order]
      rw [show ∀ x : Nat, min (-1074 + (x : Int)) (-1074) = -1074 from fun x => by omega, show ((-1074 : Int) - -1074).toNat = 0 from rfl, cmp_zero]
      simp only [show ¬ (4503599627370496 + rg64 n % 4503599627370496 = 0) from by omega, show ¬ (rg64 n = 0) from by omega, if_false]
    · split
      · simp only [Ieee.Datum.order, show ¬ (rg64 n = 0) from by omega, if_false]
      · exfalso; omega
theorem order_max (n : Nat) (h : nan64 n = false) : (FloatKind.f64.format.order n 9218868437227405311 == some .gt) = decide (n % 18446744073709551616 = 9218868437227405312) := by
  rw [fmt64]
  unfold Ieee.Format.order
  simp only [nan64, decide_eq_false_iff_not] at h
  rw [show Ieee.double.read 9218868437227405311 = .number false 9007199254740991 971 from rfl, read64 n]
  have key : ∀ (s : Bool) (m : Nat) (i : Int), m ≤ 9007199254740991 → i ≤ 971 → compare (Ieee.signed s m (i - min i 971).toNat) (Ieee.signed false 9007199254740991 (971 - min i 971).toNat) ≠ .gt := by
    intro s m i hm hi
    rw [show min i 971 = i from by omega, show (i - i).toNat = 0 from by omega]
    have hp : 9007199254740991 ≤ 9007199254740991 <<< (971 - i).toNat := by rw [Nat.shiftLeft_eq]; exact Nat.le_mul_of_pos_right _ (Nat.two_pow_pos _)
    unfold Ieee.signed
    generalize 9007199254740991 <<< (971 - i).toNat = y at hp
    rw [Nat.shiftLeft_zero, cmp_int, if_neg (show ¬ (false = true) by simp)]
    cases s
    · rw [if_neg (show ¬ (false = true) by simp)]
      split
      · simp
      · split
        · simp
        · exfalso; omega
    · rw [if_pos rfl]
      split
      · simp
      · split
        · simp
        · exfalso; omega
  have sn : rg64 n = n % 9223372036854775808 := rfl
  split
  · have e : decide (n % 18446744073709551616 = 9218868437227405312) = false := by rw [decide_eq_false_iff_not]; omega
    rw [e]
    have k := key (ng64 n) (rg64 n) (-1074) (by omega) (by omega)
    simpa [Ieee.Datum.order] using k
  · split
    · have e : decide (n % 18446744073709551616 = 9218868437227405312) = false := by rw [decide_eq_false_iff_not]; omega
      rw [e]
      have k := key (ng64 n) (4503599627370496 + rg64 n % 4503599627370496) (-1074 + ((rg64 n / 4503599627370496 - 1 : Nat) : Int)) (by omega) (by omega)
      simpa [Ieee.Datum.order] using k
    · split
      · simp only [Ieee.Datum.order]
        have g : ng64 n = (n / 9223372036854775808 % 2 == 1) := rfl
        cases hg : ng64 n
        · rw [hg] at g
          have e : decide (n % 18446744073709551616 = 9218868437227405312) = true := by
            rw [decide_eq_true_eq]
            have := g.symm
            simp at this
            omega
          rw [e]; rfl
        · rw [hg] at g
          have e : decide (n % 18446744073709551616 = 9218868437227405312) = false := by
            rw [decide_eq_false_iff_not]
            have := g.symm
            simp at this
            omega
          rw [e]; rfl
      · exfalso; omega
end Tn

namespace Go.Proofs.Ytfpmegfdopnnpaa
open Go.RowKit Tn

set_option maxRecDepth 100000 in
theorem IsNaN_any (n : Nat) (w : World) : Calls Try.prog 58 #[.float .f64 n] w fun x w' => x = .returned (.bool (nan64 n)) ∧ w' = w := by
  have h := order_self n
  generalize nan64 n = t at h
  go_enter Try.func58, Try.ntmps58
  go_wp2
  go_ret
  exact ⟨rfl, rfl⟩
set_option maxRecDepth 100000 in
theorem IsInf_up (n : Nat) (h : nan64 n = false) (w : World) : Calls Try.prog 59 #[.float .f64 n, .int .i64 1] w fun x w' => x = .returned (.bool (decide (n % 18446744073709551616 = 9218868437227405312))) ∧ w' = w := by
  have h := order_max n h
  generalize decide (n % 18446744073709551616 = 9218868437227405312) = t at h
  go_enter Try.func59, Try.ntmps59
  go_wp2
  go_ret
  exact ⟨rfl, rfl⟩
theorem sign_wrap (n : Nat) (hn : n < 18446744073709551616) : decide (IntKind.i64.wrap (n : Int) < 0) = ng64 n := by
  unfold ng64
  rw [Bool.eq_iff_iff, decide_eq_true_iff, beq_iff_eq]
  simp [IntKind.wrap, IntKind.bits, IntKind.signed]
  omega
set_option maxRecDepth 100000 in
theorem Signbit_any (n : Nat) (hn : n < 18446744073709551616) (w : World) : Calls Try.prog 63 #[.float .f64 n] w fun x w' => x = .returned (.bool (ng64 n)) ∧ w' = w := by
  have h := sign_wrap n hn
  have hb := f64bits n w
  generalize ng64 n = t at h
  generalize hx : IntKind.i64.wrap (n : Int) = s at h
  go_enter Try.func63, Try.ntmps63
  go_wp2
  go_ret
  exact ⟨rfl, rfl⟩
theorem andNot_sign (n : Nat) (hn : n < 18446744073709551616) : bits .andNot .u64 (n : Int) 9223372036854775808 = (rg64 n : Int) := by
  unfold rg64
  by_cases h : 9223372036854775808 ≤ n
  · have e := bits_andNot_pow n 9223372036854775808 63 (by decide) (by decide) h (by omega)
    rw [show ((9223372036854775808 : Nat) : Int) = 9223372036854775808 from rfl] at e
    rw [e]; omega
  · have a1 : (BitVec.ofInt 64 (n : Int)).toNat = n := by
      rw [BitVec.ofInt_natCast, BitVec.toNat_ofNat]; exact Nat.mod_eq_of_lt (by omega)
    have a2 : ~~~ BitVec.ofInt 64 (9223372036854775808 : Int) = BitVec.ofNat 64 9223372036854775807 := by decide
    show IntKind.u64.wrap ((BitVec.ofInt 64 (n : Int) &&& ~~~ BitVec.ofInt 64 (9223372036854775808 : Int)).toNat : Int) = _
    rw [a2, BitVec.toNat_and, a1, show (BitVec.ofNat 64 9223372036854775807).toNat = 2 ^ 63 - 1 from by decide, Nat.and_two_pow_sub_one_eq_mod, IntKind.wrap_u64]
    omega
set_option maxRecDepth 100000 in
theorem size_any (n : Nat) (hn : n < 18446744073709551616) (w : World) : Calls Try.prog 64 #[.float .f64 n] w fun x w' => x = .returned (.int .u64 (rg64 n)) ∧ w' = w := by
  have h := andNot_sign n hn
  have hb := f64bits n w
  generalize rg64 n = t at h
  go_enter Try.func64, Try.ntmps64
  go_wp2
  go_ret
  exact ⟨rfl, rfl⟩
/-- The place in the total order. -/
def rank64 (n : Nat) : Int := if nan64 n = true then 9223372036854775807 else if ng64 n = true then -1 - (rg64 n : Int) else rg64 n
theorem rg64_lt (n : Nat) : rg64 n < 9223372036854775808 := Nat.mod_lt _ (by decide)
set_option maxRecDepth 100000 in
theorem rank_any (n : Nat) (hn : n < 18446744073709551616) (w : World) : Calls Try.prog 61 #[.float .f64 n] w fun x w' => x = .returned (.int .i64 (rank64 n)) ∧ w' = w := by
  have N := IsNaN_any n
  have S := Signbit_any n hn
  have Z := size_any n hn
  have r := rg64_lt n
  unfold rank64
  have hx : IntKind.i64.wrap (rg64 n : Int) = (rg64 n : Int) := w64 _ (by omega) (by omega)
  have hy : IntKind.i64.wrap (-1 - (rg64 n : Int)) = -1 - (rg64 n : Int) := w64 _ (by omega) (by omega)
  generalize rg64 n = z at *
  cases hn1 : nan64 n <;> cases hs1 : ng64 n <;> rw [hn1] at N <;> rw [hs1] at S <;> simp only [if_true, if_false, Bool.false_eq_true]
  all_goals
    go_enter Try.func61, Try.ntmps61
    go_wp2_with (first
      | (go_at_call 58; refine (N _).mono ?_; rintro x w1 ⟨rfl, rfl⟩)
      | (go_at_call 63; refine (S _).mono ?_; rintro x w1 ⟨rfl, rfl⟩)
      | (go_at_call 64; refine (Z _).mono ?_; rintro x w1 ⟨rfl, rfl⟩)
      | fail)
    go_ret
    exact ⟨rfl, rfl⟩
/-- What stands above. -/
def up64 (n : Nat) : Nat := if nan64 n = true then n else if n = 9218868437227405312 then n else if rg64 n = 0 then 1 else if ng64 n = true then n - 1 else n + 1
set_option maxRecDepth 100000 in
theorem Up_any (n : Nat) (hn : n < 18446744073709551616) (w : World) : Calls Try.prog 24 #[.float .f64 n] w fun x w' => x = .returned (.float .f64 (up64 n)) ∧ w' = w := by
  have N := IsNaN_any n
  unfold up64
  by_cases hn1 : nan64 n = true
  · rw [hn1] at N
    rw [if_pos hn1]
    go_enter Try.func24, Try.ntmps24
    go_wp2_with (first
      | (go_at_call 58; refine (N _).mono ?_; rintro x w1 ⟨rfl, rfl⟩)
      | fail)
    go_ret
    exact ⟨rfl, rfl⟩
  rw [if_neg hn1]
  have hn2 : nan64 n = false := by simpa using hn1
  have I := IsInf_up n hn2
  rw [hn2] at N
  by_cases i1 : n = 9218868437227405312
  · rw [if_pos i1]
    have i2 : decide (n % 18446744073709551616 = 9218868437227405312) = true := by rw [decide_eq_true_eq]; omega
    rw [i2] at I
    clear i1 i2
    go_enter Try.func24, Try.ntmps24
    go_wp2_with (first
      | (go_at_call 58; refine (N _).mono ?_; rintro x w1 ⟨rfl, rfl⟩)
      | (go_at_call 59; refine (I _).mono ?_; rintro x w1 ⟨rfl, rfl⟩)
      | fail)
    go_ret
    exact ⟨rfl, rfl⟩
  rw [if_neg i1]
  have i2 : decide (n % 18446744073709551616 = 9218868437227405312) = false := by rw [decide_eq_false_iff_not]; omega
  rw [i2] at I
  have O := order_0 n hn2
  by_cases z1 : rg64 n = 0
  · rw [if_pos z1] at O ⊢
    have o1 : (FloatKind.f64.format.order n 0 == some .eq) = true := by rw [O]; rfl
    have hb : ∀ w, (callFunc 9 #[.int .u64 1]).run Try.prog w = .ok (.value (.float .f64 1)) w := f64frombits 1
    go_enter Try.func24, Try.ntmps24
    go_wp2_with (first
      | (go_at_call 58; refine (N _).mono ?_; rintro x w1 ⟨rfl, rfl⟩)
      | (go_at_call 59; refine (I _).mono ?_; rintro x w1 ⟨rfl, rfl⟩)
      | fail)
    go_ret
    exact ⟨rfl, rfl⟩
  rw [if_neg z1] at O ⊢
  have r0 := rg64_lt n
  have rn : rg64 n = n % 9223372036854775808 := rfl
  by_cases s1 : ng64 n = true
  · rw [if_pos s1] at O ⊢
    have o1 : (FloatKind.f64.format.order n 0 == some .eq) = false := by rw [O]; rfl
    have o2 : (FloatKind.f64.format.order n 0 == some .lt) = true := by rw [O]; rfl
    have hb := f64bits n
    obtain ⟨m, hm⟩ : ∃ m, m = n - 1 := ⟨_, rfl⟩
    rw [← hm]
    have hw : IntKind.u64.wrap ((n : Int) - 1) = (m : Int) := by rw [wu64 _ (by omega) (by omega)]; omega
    have hc := f64frombits m
    clear hm
    go_enter Try.func24, Try.ntmps24
    go_wp2_with (first
      | (go_at_call 58; refine (N _).mono ?_; rintro x w1 ⟨rfl, rfl⟩)
      | (go_at_call 59; refine (I _).mono ?_; rintro x w1 ⟨rfl, rfl⟩)
      | fail)
    go_ret
    exact ⟨rfl, rfl⟩
  · rw [if_neg s1] at O ⊢
    have o1 : (FloatKind.f64.format.order n 0 == some .eq) = false := by rw [O]; rfl
    have o2 : (FloatKind.f64.format.order n 0 == some .lt) = false := by rw [O]; rfl
    have s2 : n / 9223372036854775808 % 2 ≠ 1 := by unfold ng64 at s1; simpa using s1
    have hb := f64bits n
    obtain ⟨m, hm⟩ : ∃ m, m = n + 1 := ⟨_, rfl⟩
    rw [← hm]
    have hw : IntKind.u64.wrap ((n : Int) + 1) = (m : Int) := by rw [wu64 _ (by omega) (by omega)]; omega
    have hc := f64frombits m
    clear hm
    go_enter Try.func24, Try.ntmps24
    go_wp2_with (first
      | (go_at_call 58; refine (N _).mono ?_; rintro x w1 ⟨rfl, rfl⟩)
      | (go_at_call 59; refine (I _).mono ?_; rintro x w1 ⟨rfl, rfl⟩)
      | fail)
    go_ret
    exact ⟨rfl, rfl⟩
end Go.Proofs.Ytfpmegfdopnnpaa

namespace Go.Proofs.Ytfpmegfdopnnpaa
open Go.RowKit Tn

/-- The sign bit turned. -/
def flip64 (n : Nat) : Nat := n ^^^ 9223372036854775808
theorem flip_lt (n : Nat) (h : n < 18446744073709551616) : flip64 n < 18446744073709551616 := Nat.xor_lt_two_pow (n := 64) (by omega) (by decide)
theorem neg_run (n : Nat) (w : World) : (Op.unary .neg (.float .f64 n)).run Try.prog w = .ok (.float .f64 (flip64 n)) w := rfl
theorem up_lt (n : Nat) (h : n < 18446744073709551616) : up64 n < 18446744073709551616 := by
  unfold up64
  repeat' split
  · omega
  · omega
  · omega
  · omega
  · rename_i a
    have : ¬ (n / 9223372036854775808 % 2 = 1) := by intro e; exact a (by unfold ng64; simp [e])
    omega
set_option maxRecDepth 100000 in
theorem Down_any (n : Nat) (hn : n < 18446744073709551616) (w : World) : Calls Try.prog 26 #[.float .f64 n] w fun x w' => x = .returned (.float .f64 (flip64 (up64 (flip64 n)))) ∧ w' = w := by
  have U := Up_any (flip64 n) (flip_lt n hn)
  have e1 := neg_run n
  have e2 := neg_run (up64 (flip64 n))
  generalize flip64 (up64 (flip64 n)) = z at *
  generalize up64 (flip64 n) = y at *
  generalize flip64 n = x at *
  go_enter Try.func26, Try.ntmps26
  go_wp2_with (first
    | (go_at_call 24; refine (U _).mono ?_; rintro x w1 ⟨rfl, rfl⟩)
    | fail)
  go_ret
  exact ⟨rfl, rfl⟩
/-- -1, 0 or 1. -/
def ord3 (a b : Int) : Int := if a < b then -1 else if b < a then 1 else 0
set_option maxRecDepth 100000 in
theorem Compare_any (a b : Int) (w : World) : Calls Try.prog 60 #[.int .i64 a, .int .i64 b] w fun x w' => x = .returned (.int .i64 (ord3 a b)) ∧ w' = w := by
  unfold ord3
  by_cases h1 : a < b
  · rw [if_pos h1]
    go_enter Try.func60, Try.ntmps60
    go_wp2
    go_ret
    exact ⟨rfl, rfl⟩
  · rw [if_neg h1]
    by_cases h2 : b < a
    · rw [if_pos h2]
      go_enter Try.func60, Try.ntmps60
      go_wp2
      go_ret
      exact ⟨rfl, rfl⟩
    · rw [if_neg h2]
      go_enter Try.func60, Try.ntmps60
      go_wp2
      go_ret
      exact ⟨rfl, rfl⟩
set_option maxRecDepth 100000 in
theorem Order_any (n m : Nat) (hn : n < 18446744073709551616) (hm : m < 18446744073709551616) (w : World) : Calls Try.prog 28 #[.float .f64 n, .float .f64 m] w fun x w' => x = .returned (.int .i64 (ord3 (rank64 n) (rank64 m))) ∧ w' = w := by
  have R1 := rank_any n hn
  have R2 := rank_any m hm
  generalize rank64 n = a at *
  generalize rank64 m = b at *
  have C := Compare_any a b
  generalize ord3 a b = c at *
  go_enter Try.func28, Try.ntmps28
  go_wp2_with (first
    | (go_at_call 61; (with_reducible refine (R1 _).mono ?_); rintro x w1 ⟨rfl, rfl⟩)
    | (go_at_call 61; (with_reducible refine (R2 _).mono ?_); rintro x w1 ⟨rfl, rfl⟩)
    | (go_at_call 60; refine (C _).mono ?_; rintro x w1 ⟨rfl, rfl⟩)
    | fail)
  go_ret
  exact ⟨rfl, rfl⟩
set_option maxRecDepth 100000 in
theorem Same_any (n m : Nat) (hn : n < 18446744073709551616) (hm : m < 18446744073709551616) (w : World) : Calls Try.prog 30 #[.float .f64 n, .float .f64 m] w fun x w' => x = .returned (.bool (ord3 (rank64 n) (rank64 m) == 0)) ∧ w' = w := by
  have C := Order_any n m hn hm
  generalize ord3 (rank64 n) (rank64 m) = c at *
  go_enter Try.func30, Try.ntmps30
  go_wp2_with (first
    | (go_at_call 28; refine (C _).mono ?_; rintro x w1 ⟨rfl, rfl⟩)
    | fail)
  go_ret
  exact ⟨rfl, rfl⟩
/-- How many steps lie between. -/
def steps64 (n m : Nat) : Int := if ng64 n = ng64 m then max (rg64 n : Int) (rg64 m) - min (rg64 n : Int) (rg64 m) else (rg64 n : Int) + rg64 m
set_option maxRecDepth 100000 in
set_option maxHeartbeats 800000 in
theorem Steps_any (n m : Nat) (hn : n < 18446744073709551616) (hm : m < 18446744073709551616) (w : World) : Calls Try.prog 32 #[.float .f64 n, .float .f64 m] w fun x w' => x = .returned (if (nan64 n || nan64 m) = true then .tuple #[.int .u64 0, .bool false] else .tuple #[.int .u64 (steps64 n m), .bool true]) ∧ w' = w := by
  have N1 := IsNaN_any n
  have N2 := IsNaN_any m
  have S1 := Signbit_any n hn
  have S2 := Signbit_any m hm
  have Z1 := size_any n hn
  have Z2 := size_any m hm
  have r1 := rg64_lt n
  have r2 := rg64_lt m
  unfold steps64
  generalize ez1 : rg64 n = z1 at *
  generalize ez2 : rg64 m = z2 at *
  clear ez1 ez2
  have hx : IntKind.u64.wrap ((z1 : Int) + z2) = (z1 : Int) + z2 := wu64 _ (by omega) (by omega)
  have hy : IntKind.u64.wrap (max (z1 : Int) z2 - min (z1 : Int) z2) = max (z1 : Int) z2 - min (z1 : Int) z2 := wu64 _ (by omega) (by omega)
  cases hn1 : nan64 n <;> cases hn2 : nan64 m <;> rw [hn1] at N1 <;> rw [hn2] at N2 <;> cases hs1 : ng64 n <;> cases hs2 : ng64 m <;> rw [hs1] at S1 <;> rw [hs2] at S2 <;> simp only [if_true, if_false, Bool.false_eq_true, Bool.true_eq_false, Bool.or_true, Bool.or_false]
  all_goals
    go_enter Try.func32, Try.ntmps32
    go_wp2_with (first
      | (go_at_call 58; (with_reducible refine (N1 _).mono ?_); rintro x w1 ⟨rfl, rfl⟩)
      | (go_at_call 58; (with_reducible refine (N2 _).mono ?_); rintro x w1 ⟨rfl, rfl⟩)
      | (go_at_call 63; (with_reducible refine (S1 _).mono ?_); rintro x w1 ⟨rfl, rfl⟩)
      | (go_at_call 63; (with_reducible refine (S2 _).mono ?_); rintro x w1 ⟨rfl, rfl⟩)
      | (go_at_call 64; (with_reducible refine (Z1 _).mono ?_); rintro x w1 ⟨rfl, rfl⟩)
      | (go_at_call 64; (with_reducible refine (Z2 _).mono ?_); rintro x w1 ⟨rfl, rfl⟩)
      | fail)
  all_goals
    first
    | exact bodyPost_ret (v := .tuple #[.int .u64 0, .bool false]) (by simp [results, Try.results32, go_sem]) rfl ⟨rfl, rfl⟩
    | exact bodyPost_ret (v := .tuple #[.int .u64 ((z1 : Int) + z2), .bool true]) (by simp [results, Try.results32, go_sem]) rfl ⟨rfl, rfl⟩
    | exact bodyPost_ret (v := .tuple #[.int .u64 0, .bool true]) (by simp [results, Try.results32, go_sem]) rfl ⟨by rw [show max (z1 : Int) z2 - min (z1 : Int) z2 = 0 from by omega], rfl⟩
    | exact bodyPost_ret (v := .tuple #[.int .u64 ((z2 : Int) - z1), .bool true]) (by simp [results, Try.results32, go_sem]) rfl ⟨by rw [show max (z1 : Int) z2 - min (z1 : Int) z2 = (z2 : Int) - z1 from by omega], rfl⟩
    | exact bodyPost_ret (v := .tuple #[.int .u64 ((z1 : Int) - z2), .bool true]) (by simp [results, Try.results32, go_sem]) rfl ⟨by rw [show max (z1 : Int) z2 - min (z1 : Int) z2 = (z1 : Int) - z2 from by omega], rfl⟩
end Go.Proofs.Ytfpmegfdopnnpaa
