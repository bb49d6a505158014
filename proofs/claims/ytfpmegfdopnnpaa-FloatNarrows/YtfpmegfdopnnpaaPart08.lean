import Derived.Test.YtfpmegfdopnnpaaPart07
import Derived.Laws.Externs
import Derived.Test.YtfpmegfdopnnpaaPart05
import Derived.Laws.Shifts
import Derived.Deep.RegionHeld3

namespace Go.Proofs.Ytfpmegfdopnnpaa
open Go.RowKit Tn

theorem refNW (k : Int) (g : Bool) (M : Nat) (e : Int) (h1 : M < 18446744073709551616) : ∃ N : Nat, N < 18446744073709551616 ∧ (OkW (k, g, (M : Int), e) → (N : Int) = pckW (k, g, (M : Int), e)) ∧
    ((k = 4 ∧ (N : Int) = 9221120237041090560)
      ∨ (k = 3 ∧ g = false ∧ (N : Int) = 9218868437227405312)
      ∨ (k = 3 ∧ g = true ∧ (N : Int) = 18442240474082181120)
      ∨ (k = 0 ∧ g = false ∧ (N : Int) = 0)
      ∨ (k = 0 ∧ g = true ∧ (N : Int) = 9223372036854775808)
      ∨ (k = 1 ∧ g = false ∧ (N : Int) = bits .and .u64 (M : Int) 4503599627370495)
      ∨ (k = 1 ∧ g = true ∧ (N : Int) = bits .or .u64 (bits .and .u64 (M : Int) 4503599627370495) 9223372036854775808)
      ∨ (k = 2 ∧ g = false ∧ (N : Int) = bits .or .u64 (IntKind.u64.wrap (IntKind.u64.wrap (IntKind.i64.wrap (IntKind.i64.wrap (e + 1074) + 1)) * 4503599627370496)) (bits .and .u64 (M : Int) 4503599627370495) ∧ decide (-1074 ≤ e) = true ∧ decide (e ≤ 971) = true)
      ∨ (k = 2 ∧ g = true ∧ (N : Int) = bits .or .u64 (bits .or .u64 (IntKind.u64.wrap (IntKind.u64.wrap (IntKind.i64.wrap (IntKind.i64.wrap (e + 1074) + 1)) * 4503599627370496)) (bits .and .u64 (M : Int) 4503599627370495)) 9223372036854775808 ∧ decide (-1074 ≤ e) = true ∧ decide (e ≤ 971) = true)
      ∨ (k = 2 ∧ (N : Int) = 0 ∧ decide (-1074 ≤ e) = false)
      ∨ (k = 2 ∧ (N : Int) = 0 ∧ decide (-1074 ≤ e) = true ∧ decide (e ≤ 971) = false)
      ∨ ((N : Int) = 0 ∧ (k == 4) = false ∧ (k == 3) = false ∧ (k == 0) = false ∧ (k == 1) = false ∧ (k == 2) = false)) := by
  have fb : frW M < 4503599627370496 := Nat.mod_lt _ (by decide)
  have hf := hfW M h1
  have hs := hsgW (frW M) (by omega)
  by_cases k4 : k = 4
  · subst k4
    exact ⟨9221120237041090560, by decide, by intro o; simp [OkW] at o; simp [pckW, o.1], Or.inl ⟨rfl, rfl⟩⟩
  by_cases k3 : k = 3
  · subst k3
    cases g
    · exact ⟨9218868437227405312, by decide, by intro o; simp [pckW], Or.inr (Or.inl ⟨rfl, rfl, rfl⟩)⟩
    · exact ⟨18442240474082181120, by decide, by intro o; simp [pckW], Or.inr (Or.inr (Or.inl ⟨rfl, rfl, rfl⟩))⟩
  by_cases k0 : k = 0
  · subst k0
    cases g
    · exact ⟨0, by decide, by intro o; simp [pckW], Or.inr (Or.inr (Or.inr (Or.inl ⟨rfl, rfl, rfl⟩)))⟩
    · exact ⟨9223372036854775808, by decide, by intro o; simp [pckW], Or.inr (Or.inr (Or.inr (Or.inr (Or.inl ⟨rfl, rfl, rfl⟩))))⟩
  by_cases k1 : k = 1
  · subst k1
    have o1 : ∀ g, OkW (1, g, (M : Int), e) → frW M = M := by
      intro g o
      simp [OkW] at o
      unfold frW; omega
    cases g
    · exact ⟨frW M, by omega, by intro o; simp [pckW, o1 _ o], Or.inr (Or.inr (Or.inr (Or.inr (Or.inr (Or.inl ⟨rfl, rfl, hf.symm⟩)))))⟩
    · refine ⟨frW M + 9223372036854775808, by omega, ?_, Or.inr (Or.inr (Or.inr (Or.inr (Or.inr (Or.inr (Or.inl ⟨rfl, rfl, ?_⟩))))))⟩
      · intro o
        rw [o1 _ o]; simp [pckW]
      · rw [hf, hs]; omega
  by_cases k2 : k = 2
  · subst k2
    by_cases e1 : -1074 ≤ e
    · by_cases e2 : e ≤ 971
      · obtain ⟨D, hD⟩ := Int.eq_ofNat_of_zero_le (show 0 ≤ e + 1075 by omega)
        have r : bits .or .u64 (IntKind.u64.wrap (IntKind.u64.wrap (IntKind.i64.wrap (IntKind.i64.wrap (e + 1074) + 1)) * 4503599627370496)) (bits .and .u64 (M : Int) 4503599627370495) = (D : Int) * 4503599627370496 + (frW M : Int) := by
          rw [w64 (e + 1074) (by omega) (by omega), w64 _ (by omega) (by omega), show e + 1074 + 1 = (D : Int) from by omega, wu64 (D : Int) (by omega) (by omega), wu64 _ (by omega) (by omega), hf, hpkW D _ (by omega) fb]
        have o1 : ∀ g, OkW (2, g, (M : Int), e) → (frW M : Int) = M - 4503599627370496 := by
          intro g o
          simp [OkW] at o
          unfold frW; omega
        cases g
        · refine ⟨D * 4503599627370496 + frW M, by omega, ?_, Or.inr (Or.inr (Or.inr (Or.inr (Or.inr (Or.inr (Or.inr (Or.inl ⟨rfl, rfl, ?_, decide_eq_true e1, decide_eq_true e2⟩)))))))⟩
          · intro o
            have q := o1 _ o
            simp [pckW]; omega
          · rw [r]; omega
        · refine ⟨D * 4503599627370496 + frW M + 9223372036854775808, by omega, ?_, Or.inr (Or.inr (Or.inr (Or.inr (Or.inr (Or.inr (Or.inr (Or.inr (Or.inl ⟨rfl, rfl, ?_, decide_eq_true e1, decide_eq_true e2⟩))))))))⟩
          · intro o
            have q := o1 _ o
            simp [pckW]; omega
          · rw [r]
            have s := hsgW (D * 4503599627370496 + frW M) (by omega)
            rw [show ((D * 4503599627370496 + frW M : Nat) : Int) = (D : Int) * 4503599627370496 + (frW M : Int) from by omega] at s
            rw [s]; omega
      · exact ⟨0, by decide, by intro o; simp [OkW] at o; omega, Or.inr (Or.inr (Or.inr (Or.inr (Or.inr (Or.inr (Or.inr (Or.inr (Or.inr (Or.inr (Or.inl ⟨rfl, rfl, decide_eq_true e1, decide_eq_false e2⟩))))))))))⟩
    · exact ⟨0, by decide, by intro o; simp [OkW] at o; omega, Or.inr (Or.inr (Or.inr (Or.inr (Or.inr (Or.inr (Or.inr (Or.inr (Or.inr (Or.inl ⟨rfl, rfl, decide_eq_false e1⟩)))))))))⟩
  · refine ⟨0, by decide, ?_, Or.inr (Or.inr (Or.inr (Or.inr (Or.inr (Or.inr (Or.inr (Or.inr (Or.inr (Or.inr (Or.inr ⟨rfl, by simp [k4], by simp [k3], by simp [k0], by simp [k1], by simp [k2]⟩))))))))))⟩
    intro o
    simp [OkW] at o
    omega
theorem Join_w (p : Int × Bool × Int × Int) (h0 : 0 ≤ p.2.2.1) (h1 : p.2.2.1 < 18446744073709551616) (w : World) :
    Calls Try.prog 17 #[szW, prt4 p] w fun x w' => x = .returned (.tuple #[.int .u64 (joiW p).1, .int .i64 (joiW p).2]) ∧ Below w.heap.size w w' := by
  obtain ⟨k, g, m, e⟩ := p
  simp only at h0 h1
  obtain ⟨M, rfl⟩ := Int.eq_ofNat_of_zero_le h0
  obtain ⟨N, n1, n2, HN⟩ := refNW k g M e (by omega)
  have S := Split_w N n1
  have o' := splW_ok N
  generalize hq : splW N = q at S o'
  obtain ⟨k', g', m', e'⟩ := q
  by_cases o : OkW (k, g, (M : Int), e)
  · have E : splW N = (k, g, (M : Int), e) := by
      have h := splW_pck o
      rw [← n2 o, Int.toNat_natCast] at h
      exact h
    rw [hq] at E
    simp only [Prod.mk.injEq] at E
    obtain ⟨rfl, rfl, rfl, rfl⟩ := E
    have H := Join_w_walk k' g' M e' N k' g' M e' true _ _ _ _ _ _ _ _ rfl rfl rfl rfl rfl rfl rfl rfl HN S (Or.inr (Or.inr (Or.inr (Or.inr ⟨rfl, rfl, rfl, rfl, rfl⟩)))) w
    rw [n2 o] at H
    unfold joiW
    rw [if_pos o]
    exact H
  · have ne : ¬ (k' = k ∧ g' = g ∧ m' = (M : Int) ∧ e' = e) := by
      rintro ⟨rfl, rfl, rfl, rfl⟩
      exact o o'
    unfold joiW
    rw [if_neg o]
    refine Join_w_walk k g M e N k' g' m' e' false _ _ _ _ _ _ _ _ rfl rfl rfl rfl rfl rfl rfl rfl HN S ?_ w
    by_cases a1 : k' = k
    · by_cases a2 : g' = g
      · by_cases a3 : m' = (M : Int)
        · exact Or.inr (Or.inr (Or.inr (Or.inl ⟨a1, a2, a3, by simp; exact fun h => ne ⟨a1, a2, a3, h⟩, rfl⟩)))
        · exact Or.inr (Or.inr (Or.inl ⟨a1, a2, by simp [a3], rfl⟩))
      · exact Or.inr (Or.inl ⟨a1, by simp [a2], rfl⟩)
    · exact Or.inl ⟨by simp [a1], rfl⟩
theorem refNS (k : Int) (g : Bool) (M : Nat) (e : Int) (h1 : M < 18446744073709551616) : ∃ N : Nat, N < 18446744073709551616 ∧ (OkS (k, g, (M : Int), e) → (N : Int) = pckS (k, g, (M : Int), e)) ∧
    ((k = 4 ∧ (N : Int) = 2143289344)
      ∨ (k = 3 ∧ g = false ∧ (N : Int) = 2139095040)
      ∨ (k = 3 ∧ g = true ∧ (N : Int) = 4286578688)
      ∨ (k = 0 ∧ g = false ∧ (N : Int) = 0)
      ∨ (k = 0 ∧ g = true ∧ (N : Int) = 2147483648)
      ∨ (k = 1 ∧ g = false ∧ (N : Int) = bits .and .u64 (M : Int) 8388607)
      ∨ (k = 1 ∧ g = true ∧ (N : Int) = bits .or .u64 (bits .and .u64 (M : Int) 8388607) 2147483648)
      ∨ (k = 2 ∧ g = false ∧ (N : Int) = bits .or .u64 (IntKind.u64.wrap (IntKind.u64.wrap (IntKind.i64.wrap (IntKind.i64.wrap (e + 149) + 1)) * 8388608)) (bits .and .u64 (M : Int) 8388607) ∧ decide (-149 ≤ e) = true ∧ decide (e ≤ 104) = true)
      ∨ (k = 2 ∧ g = true ∧ (N : Int) = bits .or .u64 (bits .or .u64 (IntKind.u64.wrap (IntKind.u64.wrap (IntKind.i64.wrap (IntKind.i64.wrap (e + 149) + 1)) * 8388608)) (bits .and .u64 (M : Int) 8388607)) 2147483648 ∧ decide (-149 ≤ e) = true ∧ decide (e ≤ 104) = true)
      ∨ (k = 2 ∧ (N : Int) = 0 ∧ decide (-149 ≤ e) = false)
      ∨ (k = 2 ∧ (N : Int) = 0 ∧ decide (-149 ≤ e) = true ∧ decide (e ≤ 104) = false)
      ∨ ((N : Int) = 0 ∧ (k == 4) = false ∧ (k == 3) = false ∧ (k == 0) = false ∧ (k == 1) = false ∧ (k == 2) = false)) := by
  have fb : frS M < 8388608 := Nat.mod_lt _ (by decide)
  have hf := hfS M h1
  have hs := hsgS (frS M) (by omega)
  by_cases k4 : k = 4
  · subst k4
    exact ⟨2143289344, by decide, by intro o; simp [OkS] at o; simp [pckS, o.1], Or.inl ⟨rfl, rfl⟩⟩
  by_cases k3 : k = 3
  · subst k3
    cases g
    · exact ⟨2139095040, by decide, by intro o; simp [pckS], Or.inr (Or.inl ⟨rfl, rfl, rfl⟩)⟩
    · exact ⟨4286578688, by decide, by intro o; simp [pckS], Or.inr (Or.inr (Or.inl ⟨rfl, rfl, rfl⟩))⟩
  by_cases k0 : k = 0
  · subst k0
    cases g
    · exact ⟨0, by decide, by intro o; simp [pckS], Or.inr (Or.inr (Or.inr (Or.inl ⟨rfl, rfl, rfl⟩)))⟩
    · exact ⟨2147483648, by decide, by intro o; simp [pckS], Or.inr (Or.inr (Or.inr (Or.inr (Or.inl ⟨rfl, rfl, rfl⟩))))⟩
  by_cases k1 : k = 1
  · subst k1
    have o1 : ∀ g, OkS (1, g, (M : Int), e) → frS M = M := by
      intro g o
      simp [OkS] at o
      unfold frS; omega
    cases g
    · exact ⟨frS M, by omega, by intro o; simp [pckS, o1 _ o], Or.inr (Or.inr (Or.inr (Or.inr (Or.inr (Or.inl ⟨rfl, rfl, hf.symm⟩)))))⟩
    · refine ⟨frS M + 2147483648, by omega, ?_, Or.inr (Or.inr (Or.inr (Or.inr (Or.inr (Or.inr (Or.inl ⟨rfl, rfl, ?_⟩))))))⟩
      · intro o
        rw [o1 _ o]; simp [pckS]
      · rw [hf, hs]; omega
  by_cases k2 : k = 2
  · subst k2
    by_cases e1 : -149 ≤ e
    · by_cases e2 : e ≤ 104
      · obtain ⟨D, hD⟩ := Int.eq_ofNat_of_zero_le (show 0 ≤ e + 150 by omega)
        have r : bits .or .u64 (IntKind.u64.wrap (IntKind.u64.wrap (IntKind.i64.wrap (IntKind.i64.wrap (e + 149) + 1)) * 8388608)) (bits .and .u64 (M : Int) 8388607) = (D : Int) * 8388608 + (frS M : Int) := by
          rw [w64 (e + 149) (by omega) (by omega), w64 _ (by omega) (by omega), show e + 149 + 1 = (D : Int) from by omega, wu64 (D : Int) (by omega) (by omega), wu64 _ (by omega) (by omega), hf, hpkS D _ (by omega) fb]
        have o1 : ∀ g, OkS (2, g, (M : Int), e) → (frS M : Int) = M - 8388608 := by
          intro g o
          simp [OkS] at o
          unfold frS; omega
        cases g
        · refine ⟨D * 8388608 + frS M, by omega, ?_, Or.inr (Or.inr (Or.inr (Or.inr (Or.inr (Or.inr (Or.inr (Or.inl ⟨rfl, rfl, ?_, decide_eq_true e1, decide_eq_true e2⟩)))))))⟩
          · intro o
            have q := o1 _ o
            simp [pckS]; omega
          · rw [r]; omega
        · refine ⟨D * 8388608 + frS M + 2147483648, by omega, ?_, Or.inr (Or.inr (Or.inr (Or.inr (Or.inr (Or.inr (Or.inr (Or.inr (Or.inl ⟨rfl, rfl, ?_, decide_eq_true e1, decide_eq_true e2⟩))))))))⟩
          · intro o
            have q := o1 _ o
            simp [pckS]; omega
          · rw [r]
            have s := hsgS (D * 8388608 + frS M) (by omega)
            rw [show ((D * 8388608 + frS M : Nat) : Int) = (D : Int) * 8388608 + (frS M : Int) from by omega] at s
            rw [s]; omega
      · exact ⟨0, by decide, by intro o; simp [OkS] at o; omega, Or.inr (Or.inr (Or.inr (Or.inr (Or.inr (Or.inr (Or.inr (Or.inr (Or.inr (Or.inr (Or.inl ⟨rfl, rfl, decide_eq_true e1, decide_eq_false e2⟩))))))))))⟩
    · exact ⟨0, by decide, by intro o; simp [OkS] at o; omega, Or.inr (Or.inr (Or.inr (Or.inr (Or.inr (Or.inr (Or.inr (Or.inr (Or.inr (Or.inl ⟨rfl, rfl, decide_eq_false e1⟩)))))))))⟩
  · refine ⟨0, by decide, ?_, Or.inr (Or.inr (Or.inr (Or.inr (Or.inr (Or.inr (Or.inr (Or.inr (Or.inr (Or.inr (Or.inr ⟨rfl, by simp [k4], by simp [k3], by simp [k0], by simp [k1], by simp [k2]⟩))))))))))⟩
    intro o
    simp [OkS] at o
    omega
theorem Join_s (p : Int × Bool × Int × Int) (h0 : 0 ≤ p.2.2.1) (h1 : p.2.2.1 < 18446744073709551616) (w : World) :
    Calls Try.prog 17 #[szS, prt4 p] w fun x w' => x = .returned (.tuple #[.int .u64 (joiS p).1, .int .i64 (joiS p).2]) ∧ Below w.heap.size w w' := by
  obtain ⟨k, g, m, e⟩ := p
  simp only at h0 h1
  obtain ⟨M, rfl⟩ := Int.eq_ofNat_of_zero_le h0
  obtain ⟨N, n1, n2, HN⟩ := refNS k g M e (by omega)
  have S := Split_s N n1
  have o' := splS_ok N
  generalize hq : splS N = q at S o'
  obtain ⟨k', g', m', e'⟩ := q
  by_cases o : OkS (k, g, (M : Int), e)
  · have E : splS N = (k, g, (M : Int), e) := by
      have h := splS_pck o
      rw [← n2 o, Int.toNat_natCast] at h
      exact h
    rw [hq] at E
    simp only [Prod.mk.injEq] at E
    obtain ⟨rfl, rfl, rfl, rfl⟩ := E
    have H := Join_s_walk k' g' M e' N k' g' M e' true _ _ _ _ _ _ _ _ rfl rfl rfl rfl rfl rfl rfl rfl HN S (Or.inr (Or.inr (Or.inr (Or.inr ⟨rfl, rfl, rfl, rfl, rfl⟩)))) w
    rw [n2 o] at H
    unfold joiS
    rw [if_pos o]
    exact H
  · have ne : ¬ (k' = k ∧ g' = g ∧ m' = (M : Int) ∧ e' = e) := by
      rintro ⟨rfl, rfl, rfl, rfl⟩
      exact o o'
    unfold joiS
    rw [if_neg o]
    refine Join_s_walk k g M e N k' g' m' e' false _ _ _ _ _ _ _ _ rfl rfl rfl rfl rfl rfl rfl rfl HN S ?_ w
    by_cases a1 : k' = k
    · by_cases a2 : g' = g
      · by_cases a3 : m' = (M : Int)
        · exact Or.inr (Or.inr (Or.inr (Or.inl ⟨a1, a2, a3, by simp; exact fun h => ne ⟨a1, a2, a3, h⟩, rfl⟩)))
        · exact Or.inr (Or.inr (Or.inl ⟨a1, a2, by simp [a3], rfl⟩))
      · exact Or.inr (Or.inl ⟨a1, by simp [a2], rfl⟩)
    · exact Or.inl ⟨by simp [a1], rfl⟩
end Go.Proofs.Ytfpmegfdopnnpaa

namespace Go.Proofs.Ytfpmegfdopnnpaa
open Go.RowKit Tn

theorem f64bits (b : Nat) (w : World) : (callFunc 42 #[.float .f64 b]).run Try.prog w = .ok (.value (.int .u64 b)) w :=
  run_callFunc_extern (e := Extern.MathFloatBits.float64bits) Try.func42 (by kernel_rfl) rfl (by kernel_rfl) (by kernel_rfl) _ w
theorem f64frombits (b : Nat) (w : World) : (callFunc 9 #[.int .u64 b]).run Try.prog w = .ok (.value (.float .f64 b)) w :=
  run_callFunc_extern (e := Extern.MathFloatBits.float64frombits) Try.func9 (by kernel_rfl) rfl (by kernel_rfl) (by kernel_rfl) _ w
theorem f32bits (b : Nat) (w : World) : (callFunc 46 #[.float .f32 b]).run Try.prog w = .ok (.value (.int .u32 b)) w :=
  run_callFunc_extern (e := Extern.MathFloatBits.float32bits) Try.func46 (by kernel_rfl) rfl (by kernel_rfl) (by kernel_rfl) _ w
theorem f32frombits (b : Nat) (w : World) : (callFunc 13 #[.int .u32 b]).run Try.prog w = .ok (.value (.float .f32 b)) w :=
  run_callFunc_extern (e := Extern.MathFloatBits.float32frombits) Try.func13 (by kernel_rfl) rfl (by kernel_rfl) (by kernel_rfl) _ w
end Go.Proofs.Ytfpmegfdopnnpaa

namespace Go.Proofs.Ytfpmegfdopnnpaa
open Go.RowKit Tn

/-- Whether the neighbour that is farther from nought is taken, by the way. -/
def awayF (way : Int) (neg odd : Bool) (half : Int) : Bool :=
  if way = 1 then neg else if way = 2 then !neg else if way = 4 then true else if way = 5 then decide (0 ≤ half) else if way = 6 then (decide (0 < half) || (half == 0 && odd)) else false
theorem away_cases (P : Int → Prop) (way : Int) (h1 : P 1) (h2 : P 2) (h4 : P 4) (h5 : P 5) (h6 : P 6) (h0 : way ≠ 1 → way ≠ 2 → way ≠ 4 → way ≠ 5 → way ≠ 6 → P way) : P way := by
  by_cases a : way = 1
  · rw [a]; exact h1
  by_cases b : way = 2
  · rw [b]; exact h2
  by_cases c : way = 4
  · rw [c]; exact h4
  by_cases d : way = 5
  · rw [d]; exact h5
  by_cases e : way = 6
  · rw [e]; exact h6
  exact h0 a b c d e
set_option maxRecDepth 100000 in
set_option maxHeartbeats 800000 in
/-- exact.IsAway. -/
theorem IsAway_any (neg odd : Bool) (half way : Int) (w : World) :
    Calls Try.prog 105 #[.bool neg, .bool odd, .int .i64 half, .int .i64 way] w fun e w' => e = .returned (.bool (awayF way neg odd half)) ∧ w' = w := by
  refine away_cases (fun way => Calls Try.prog 105 #[.bool neg, .bool odd, .int .i64 half, .int .i64 way] w fun e w' => e = .returned (.bool (awayF way neg odd half)) ∧ w' = w) way ?_ ?_ ?_ ?_ ?_ ?_
  · simp only [awayF]
    go_enter Try.func105, Try.ntmps105
    go_wp2
    go_ret
    exact ⟨by simp, rfl⟩
  · simp only [awayF]
    go_enter Try.func105, Try.ntmps105
    go_wp2
    go_ret
    exact ⟨by simp, rfl⟩
  · simp only [awayF]
    go_enter Try.func105, Try.ntmps105
    go_wp2
    go_ret
    exact ⟨by simp, rfl⟩
  · simp only [awayF]
    go_enter Try.func105, Try.ntmps105
    go_wp2
    go_ret
    exact ⟨by simp, rfl⟩
  · have e : awayF 6 neg odd half = (decide (0 < half) || (half == 0 && odd)) := by simp [awayF]
    rw [e]
    clear e
    by_cases h1 : 0 < half
    · have d1 : decide (half > 0) = true := decide_eq_true h1
      go_enter Try.func105, Try.ntmps105
      go_wp2
      go_ret
      exact ⟨by simp [h1], rfl⟩
    · have d1 : decide (half > 0) = false := decide_eq_false h1
      by_cases h2 : half = 0
      · subst h2
        go_enter Try.func105, Try.ntmps105
        go_wp2
        go_ret
        exact ⟨by simp, rfl⟩
      · have d2 : (half == 0) = false := by rw [beq_eq_false_iff_ne]; exact h2
        go_enter Try.func105, Try.ntmps105
        go_wp2
        go_ret
        exact ⟨by simp, rfl⟩
  · intro a b c d e
    have f1 : (way == 1) = false := by rw [beq_eq_false_iff_ne]; exact a
    have f2 : (way == 2) = false := by rw [beq_eq_false_iff_ne]; exact b
    have f4 : (way == 4) = false := by rw [beq_eq_false_iff_ne]; exact c
    have f5 : (way == 5) = false := by rw [beq_eq_false_iff_ne]; exact d
    have f6 : (way == 6) = false := by rw [beq_eq_false_iff_ne]; exact e
    have r : awayF way neg odd half = false := by simp [awayF, a, b, c, d, e]
    rw [r]
    clear a b c d e r
    go_enter Try.func105, Try.ntmps105
    go_wp2
    go_ret
    exact ⟨rfl, rfl⟩
set_option maxRecDepth 100000 in
set_option maxHeartbeats 800000 in
/-- The reference's away. -/
theorem Away_any (neg odd : Bool) (half way : Int) (w : World) :
    Calls Try.prog 87 #[.int .i64 way, .bool neg, .bool odd, .int .i64 half] w fun e w' => e = .returned (.bool (awayF way neg odd half)) ∧ w' = w := by
  refine away_cases (fun way => Calls Try.prog 87 #[.int .i64 way, .bool neg, .bool odd, .int .i64 half] w fun e w' => e = .returned (.bool (awayF way neg odd half)) ∧ w' = w) way ?_ ?_ ?_ ?_ ?_ ?_
  · simp only [awayF]
    go_enter Try.func87, Try.ntmps87
    go_wp2
    go_ret
    exact ⟨by simp, rfl⟩
  · simp only [awayF]
    go_enter Try.func87, Try.ntmps87
    go_wp2
    go_ret
    exact ⟨by simp, rfl⟩
  · simp only [awayF]
    go_enter Try.func87, Try.ntmps87
    go_wp2
    go_ret
    exact ⟨by simp, rfl⟩
  · simp only [awayF]
    go_enter Try.func87, Try.ntmps87
    go_wp2
    go_ret
    exact ⟨by simp, rfl⟩
  · have e : awayF 6 neg odd half = (decide (0 < half) || (half == 0 && odd)) := by simp [awayF]
    rw [e]
    clear e
    by_cases h1 : 0 < half
    · have d1 : decide (half > 0) = true := decide_eq_true h1
      go_enter Try.func87, Try.ntmps87
      go_wp2
      go_ret
      exact ⟨by simp [h1], rfl⟩
    · have d1 : decide (half > 0) = false := decide_eq_false h1
      by_cases h2 : half = 0
      · subst h2
        go_enter Try.func87, Try.ntmps87
        go_wp2
        go_ret
        exact ⟨by simp, rfl⟩
      · have d2 : (half == 0) = false := by rw [beq_eq_false_iff_ne]; exact h2
        go_enter Try.func87, Try.ntmps87
        go_wp2
        go_ret
        exact ⟨by simp, rfl⟩
  · intro a b c d e
    have f1 : (way == 1) = false := by rw [beq_eq_false_iff_ne]; exact a
    have f2 : (way == 2) = false := by rw [beq_eq_false_iff_ne]; exact b
    have f4 : (way == 4) = false := by rw [beq_eq_false_iff_ne]; exact c
    have f5 : (way == 5) = false := by rw [beq_eq_false_iff_ne]; exact d
    have f6 : (way == 6) = false := by rw [beq_eq_false_iff_ne]; exact e
    have r : awayF way neg odd half = false := by simp [awayF, a, b, c, d, e]
    rw [r]
    clear a b c d e r
    go_enter Try.func87, Try.ntmps87
    go_wp2
    go_ret
    exact ⟨rfl, rfl⟩
end Go.Proofs.Ytfpmegfdopnnpaa

namespace Go.Proofs.Ytfpmegfdopnnpaa
open Go.RowKit Tn

/-- How what drops out stands to half of what stays. -/
def besideF (rest : Int) (places : Nat) (more : Bool) : Int :=
  if rest < 2 ^ (places - 1) then -1 else if 2 ^ (places - 1) < rest then 1 else if more = true then 1 else 0
set_option maxRecDepth 100000 in
set_option maxHeartbeats 800000 in
/-- float.besideHalf, of 1 to 64 places. -/
theorem besideHalf_any (rest h : Int) (places : Nat) (more : Bool) (p1 : 1 ≤ places) (p2 : places ≤ 64) (hh : h = 2 ^ (places - 1)) (w : World) :
    Calls Try.prog 106 #[.int .u64 rest, .int .i64 places, .bool more] w fun e w' => e = .returned (.int .i64 (besideF rest places more)) ∧ w' = w := by
  unfold besideF
  rw [← hh]
  have hb : (0 : Int) < h ∧ h ≤ 9223372036854775808 := by
    have e : ((2 ^ (places - 1) : Nat) : Int) = (2 : Int) ^ (places - 1) := by simp
    have a := Nat.two_pow_pos (places - 1)
    have b : 2 ^ (places - 1) ≤ 2 ^ 63 := Nat.pow_le_pow_right (by decide) (by omega)
    rw [hh, ← e]; omega
  have hx : IntKind.i64.wrap ((places : Int) - 1) = (places : Int) - 1 := w64 _ (by omega) (by omega)
  have hy : ((places : Int) - 1).toNat = places - 1 := by omega
  have hz : IntKind.u64.wrap ((2 : Int) ^ (places - 1)) = h := by rw [← hh]; exact wu64 _ (by omega) (by omega)
  have c1 : decide ((places : Int) > 64) = false := by rw [decide_eq_false_iff_not]; omega
  clear hh
  by_cases r1 : rest < h
  · have d1 : decide (rest < h) = true := decide_eq_true r1
    rw [if_pos r1]
    go_enter Try.func106, Try.ntmps106
    go_wp2
    go_ret
    exact ⟨rfl, rfl⟩
  · have d1 : decide (rest < h) = false := decide_eq_false r1
    rw [if_neg r1]
    by_cases r2 : h < rest
    · have d2 : decide (rest > h) = true := decide_eq_true r2
      rw [if_pos r2]
      clear r1 r2
      go_enter Try.func106, Try.ntmps106
      go_wp2
      go_ret
      exact ⟨rfl, rfl⟩
    · have d2 : decide (rest > h) = false := decide_eq_false r2
      rw [if_neg r2]
      clear r1 r2
      cases more
      · simp only [Bool.false_eq_true, if_false]
        go_enter Try.func106, Try.ntmps106
        go_wp2
        go_ret
        exact ⟨rfl, rfl⟩
      · simp only [if_true]
        go_enter Try.func106, Try.ntmps106
        go_wp2
        go_ret
        exact ⟨rfl, rfl⟩
set_option maxRecDepth 100000 in
set_option maxHeartbeats 800000 in
/-- Beyond 64 places. -/
theorem besideHalf_far (rest places : Int) (more : Bool) (p1 : 64 < places) (p2 : places < 9223372036854775808) (w : World) :
    Calls Try.prog 106 #[.int .u64 rest, .int .i64 places, .bool more] w fun e w' => e = .returned (.int .i64 (-1)) ∧ w' = w := by
  have hx : IntKind.i64.wrap (places - 1) = places - 1 := w64 _ (by omega) (by omega)
  have c1 : decide (places > 64) = true := decide_eq_true p1
  have h0 : (0 : Int) ≤ places - 1 := by omega
  have s1 : Op.shift .shl .u64 1 .i64 (places - 1) = pure (.int .u64 0) := by
    rw [shift_shl_any _ _ _ _ h0, show min (places - 1).toNat IntKind.u64.bits = 64 from by simp [IntKind.bits]; omega]
    rfl
  go_enter Try.func106, Try.ntmps106
  go_wp2
  go_ret
  exact ⟨rfl, rfl⟩
end Go.Proofs.Ytfpmegfdopnnpaa

namespace Go.Proofs.Ytfpmegfdopnnpaa
open Go.RowKit Tn

/-- What a size by 2 to the places is, rounded; and whether nothing was lost. -/
def cutF (mant : Int) (places : Nat) (more neg : Bool) (way : Int) : Int × Bool :=
  if mant % 2 ^ places = 0 ∧ more = false then (mant / 2 ^ places, true)
  else (if awayF way neg (mant / 2 ^ places % 2 == 1) (besideF (mant % 2 ^ places) places more) = true then mant / 2 ^ places + 1 else mant / 2 ^ places, false)
set_option maxRecDepth 100000 in
set_option maxHeartbeats 1600000 in
/-- float.cut, of 1 to 64 places. -/
theorem cut_any (mant : Int) (places : Nat) (more neg : Bool) (way : Int) (m0 : 0 ≤ mant) (m1 : mant < 18446744073709551616) (p1 : 1 ≤ places) (p2 : places ≤ 64) (w : World) :
    Calls Try.prog 81 #[.int .u64 mant, .int .i64 places, .bool more, .bool neg, .int .i64 way] w fun e w' => e = .returned (.tuple #[.int .u64 (cutF mant places more neg way).1, .bool (cutF mant places more neg way).2]) ∧ w' = w := by
  have B := besideHalf_any (mant % 2 ^ places) _ places more p1 p2 rfl
  have A := IsAway_any neg (mant / 2 ^ places % 2 == 1) (besideF (mant % 2 ^ places) places more) way
  unfold cutF
  have tp : (0 : Int) < 2 ^ places := Int.pow_pos (by decide)
  have tp2 : (2 : Int) ≤ 2 ^ places := by
    obtain ⟨q, rfl⟩ : ∃ q, places = q + 1 := ⟨places - 1, by omega⟩
    rw [Int.pow_succ]
    have : (0 : Int) < 2 ^ q := Int.pow_pos (by decide)
    omega
  generalize hT : (2 : Int) ^ places = T at *
  have e0 := Int.mul_ediv_add_emod mant T
  have r0 := Int.emod_nonneg mant (show T ≠ 0 by omega)
  have l0 : 0 ≤ mant / T := Int.ediv_nonneg m0 (by omega)
  have l1 : mant / T ≤ 9223372036854775807 := by
    have := Int.mul_le_mul_of_nonneg_right tp2 l0
    omega
  generalize besideF (mant % T) places more = bs at *
  generalize hl : mant / T = l at *
  generalize hr : mant % T = r at *
  have odd : (bits .and .u64 l 1 == 1) = (l % 2 == 1) := by
    obtain ⟨L, rfl⟩ := Int.eq_ofNat_of_zero_le l0
    have e := bits_and_u64_nat L 1 (by omega) (by decide)
    rw [show ((1 : Nat) : Int) = 1 from rfl, Nat.and_one_is_mod] at e
    rw [e]; simp
  have hy : ((places : Int)).toNat = places := by omega
  have s1 : IntKind.u64.wrap (l * T) = l * T := wu64 _ (Int.mul_nonneg l0 (by omega)) (by rw [Int.mul_comm]; omega)
  have s2 : IntKind.u64.wrap (mant - l * T) = r := by rw [show mant - l * T = r from by rw [Int.mul_comm]; omega]; exact wu64 _ r0 (by have := Int.mul_nonneg (Int.le_of_lt tp) l0; omega)
  have s3 : IntKind.u64.wrap (l + 1) = l + 1 := wu64 _ (by omega) (by omega)
  have HX : Hid (T * l + r = mant) := e0
  generalize (l % 2 == 1) = od at *
  clear e0
  by_cases z : r = 0 ∧ more = false
  · obtain ⟨z1, rfl⟩ := z
    rw [if_pos ⟨z1, rfl⟩]
    have zz : (r == 0) = true := by rw [beq_iff_eq]; exact z1
    clear z1
    go_enter Try.func81, Try.ntmps81
    go_wp2
    exact bodyPost_ret (v := .tuple #[.int .u64 l, .bool true]) (by simp [results, Try.results81, go_sem]) rfl ⟨rfl, rfl⟩
  · rw [if_neg z]
    have zz : ((r == 0) = true ∧ more = true) ∨ (r == 0) = false := by
      by_cases h : r = 0
      · left
        refine ⟨by rw [beq_iff_eq]; exact h, ?_⟩
        cases hm : more
        · exact absurd ⟨h, hm⟩ z
        · rfl
      · right; rw [beq_eq_false_iff_ne]; exact h
    clear z
    generalize awayF way neg od bs = t at *
    rcases zz with ⟨z1, rfl⟩ | z1
    · cases t
      · simp only [Bool.false_eq_true, if_false]
        go_enter Try.func81, Try.ntmps81
        go_wp2_with (first
          | (go_at_call 106; refine (B _).mono ?_; rintro x w1 ⟨rfl, rfl⟩)
          | (go_at_call 105; refine (A _).mono ?_; rintro x w1 ⟨rfl, rfl⟩)
          | fail)
        exact bodyPost_ret (v := .tuple #[.int .u64 l, .bool false]) (by simp [results, Try.results81, go_sem]) rfl ⟨rfl, rfl⟩
      · simp only [if_true]
        go_enter Try.func81, Try.ntmps81
        go_wp2_with (first
          | (go_at_call 106; refine (B _).mono ?_; rintro x w1 ⟨rfl, rfl⟩)
          | (go_at_call 105; refine (A _).mono ?_; rintro x w1 ⟨rfl, rfl⟩)
          | fail)
        exact bodyPost_ret (v := .tuple #[.int .u64 (l + 1), .bool false]) (by simp [results, Try.results81, go_sem]) rfl ⟨rfl, rfl⟩
    · cases t
      · simp only [Bool.false_eq_true, if_false]
        go_enter Try.func81, Try.ntmps81
        go_wp2_with (first
          | (go_at_call 106; refine (B _).mono ?_; rintro x w1 ⟨rfl, rfl⟩)
          | (go_at_call 105; refine (A _).mono ?_; rintro x w1 ⟨rfl, rfl⟩)
          | fail)
        exact bodyPost_ret (v := .tuple #[.int .u64 l, .bool false]) (by simp [results, Try.results81, go_sem]) rfl ⟨rfl, rfl⟩
      · simp only [if_true]
        go_enter Try.func81, Try.ntmps81
        go_wp2_with (first
          | (go_at_call 106; refine (B _).mono ?_; rintro x w1 ⟨rfl, rfl⟩)
          | (go_at_call 105; refine (A _).mono ?_; rintro x w1 ⟨rfl, rfl⟩)
          | fail)
        exact bodyPost_ret (v := .tuple #[.int .u64 (l + 1), .bool false]) (by simp [results, Try.results81, go_sem]) rfl ⟨rfl, rfl⟩
end Go.Proofs.Ytfpmegfdopnnpaa

namespace Go.Proofs.Ytfpmegfdopnnpaa
open Go.RowKit Tn

/-- The parts of m times 2 to the e. -/
def finW (neg : Bool) (m e : Int) : Int × Bool × Int × Int := if m = 0 then (0, neg, 0, 0) else if m < 4503599627370496 then (1, neg, m, e) else (2, neg, m, e)
set_option maxRecDepth 100000 in
set_option maxHeartbeats 1600000 in
theorem finite_w (neg : Bool) (m e : Int) (w : World) : Calls Try.prog 83 #[fmtW, .bool neg, .int .u64 m, .int .i64 e] w fun x w' => x = .returned (prt4 (finW neg m e)) ∧ Below w.heap.size w w' := by
  unfold finW
  by_cases h1 : m = 0
  · rw [if_pos h1]
    have d1 : (m == 0) = true := by rw [beq_iff_eq]; exact h1
    clear h1
    go_enter Try.func83, Try.ntmps83
    go_wp2
    exact bodyPost_ret (v := prt 0 neg 0 0) (by simp [results, Try.results83, go_sem]) rfl ⟨rfl, ((Below.refl _ _).alloc (Nat.le_refl _) _).alloc (by simp) _⟩
  rw [if_neg h1]
  have d1 : (m == 0) = false := by rw [beq_eq_false_iff_ne]; exact h1
  clear h1
  by_cases h2 : m < 4503599627370496
  · rw [if_pos h2]
    have d2 : decide (m < 4503599627370496) = true := decide_eq_true h2
    clear h2
    go_enter Try.func83, Try.ntmps83
    have K0 : Blk ((w.alloc (.cells #[.int .i64 53, .int .i64 (-1074), .int .i64 971] 72)).alloc (.cells #[.int .i64 0, .bool false, .int .u64 0, .int .i64 0] 25)) w.heap.size #[.int .i64 53, .int .i64 (-1074), .int .i64 971] 72 := (Blk.new w _ _).alloc _
    have K1 := Blk.new (w.alloc (.cells #[.int .i64 53, .int .i64 (-1074), .int .i64 971] 72)) #[.int .i64 0, .bool false, .int .u64 0, .int .i64 0] 25
    have pr : Below w.heap.size w ((w.alloc (.cells #[.int .i64 53, .int .i64 (-1074), .int .i64 971] 72)).alloc (.cells #[.int .i64 0, .bool false, .int .u64 0, .int .i64 0] 25)) := ((Below.refl _ _).alloc (Nat.le_refl _) _).alloc (by simp) _
    simp only [World.size_alloc] at K1
    go_wp2_with (first
      | (go_at_call 77; refine (leastNormal_w _).mono ?_; rintro x w1 ⟨rfl, b1⟩; replace K0 := K0.below b1 K0.lt; replace K1 := K1.below b1 K1.lt; replace pr := bel pr b1; clear b1; have e0 : w1.cell? ⟨w.heap.size, 0, none⟩ = some (.int .i64 53) := K0.at 0; have e1 : w1.cell? ⟨w.heap.size, 1, none⟩ = some (.int .i64 (-1074)) := K0.at 1; have e2 : w1.cell? ⟨w.heap.size, 2, none⟩ = some (.int .i64 971) := K0.at 2; have c0 : w1.cell? ⟨w.heap.size + 1, 0, none⟩ = some (.int .i64 0) := K1.at 0; have c1 : w1.cell? ⟨w.heap.size + 1, 1, none⟩ = some (.bool false) := K1.at 1; have c2 : w1.cell? ⟨w.heap.size + 1, 2, none⟩ = some (.int .u64 0) := K1.at 2; have c3 : w1.cell? ⟨w.heap.size + 1, 3, none⟩ = some (.int .i64 0) := K1.at 3; have z0 := K1.free 0; have z1 := K1.free 1; have z2 := K1.free 2; have z3 := K1.free 3)
      | fail)
    obtain ⟨F0, F1, F2, F3, FB⟩ := put4 (.int .i64 1) (.bool neg) (.int .u64 m) (.int .i64 e) (K1.at 0) (K1.at 1) (K1.at 2) (K1.at 3)
    exact bodyPost_ret (v := prt 1 neg m e) (by simp [results, Try.results83, go_sem, F0, F1, F2, F3]) rfl ⟨rfl, FB _ _ (by omega) pr⟩
  · rw [if_neg h2]
    have d2 : decide (m < 4503599627370496) = false := decide_eq_false h2
    clear h2
    go_enter Try.func83, Try.ntmps83
    have K0 : Blk ((w.alloc (.cells #[.int .i64 53, .int .i64 (-1074), .int .i64 971] 72)).alloc (.cells #[.int .i64 0, .bool false, .int .u64 0, .int .i64 0] 25)) w.heap.size #[.int .i64 53, .int .i64 (-1074), .int .i64 971] 72 := (Blk.new w _ _).alloc _
    have K1 := Blk.new (w.alloc (.cells #[.int .i64 53, .int .i64 (-1074), .int .i64 971] 72)) #[.int .i64 0, .bool false, .int .u64 0, .int .i64 0] 25
    have pr : Below w.heap.size w ((w.alloc (.cells #[.int .i64 53, .int .i64 (-1074), .int .i64 971] 72)).alloc (.cells #[.int .i64 0, .bool false, .int .u64 0, .int .i64 0] 25)) := ((Below.refl _ _).alloc (Nat.le_refl _) _).alloc (by simp) _
    simp only [World.size_alloc] at K1
    go_wp2_with (first
      | (go_at_call 77; refine (leastNormal_w _).mono ?_; rintro x w1 ⟨rfl, b1⟩; replace K0 := K0.below b1 K0.lt; replace K1 := K1.below b1 K1.lt; replace pr := bel pr b1; clear b1; have e0 : w1.cell? ⟨w.heap.size, 0, none⟩ = some (.int .i64 53) := K0.at 0; have e1 : w1.cell? ⟨w.heap.size, 1, none⟩ = some (.int .i64 (-1074)) := K0.at 1; have e2 : w1.cell? ⟨w.heap.size, 2, none⟩ = some (.int .i64 971) := K0.at 2; have c0 : w1.cell? ⟨w.heap.size + 1, 0, none⟩ = some (.int .i64 0) := K1.at 0; have c1 : w1.cell? ⟨w.heap.size + 1, 1, none⟩ = some (.bool false) := K1.at 1; have c2 : w1.cell? ⟨w.heap.size + 1, 2, none⟩ = some (.int .u64 0) := K1.at 2; have c3 : w1.cell? ⟨w.heap.size + 1, 3, none⟩ = some (.int .i64 0) := K1.at 3; have z0 := K1.free 0; have z1 := K1.free 1; have z2 := K1.free 2; have z3 := K1.free 3)
      | fail)
    obtain ⟨F0, F1, F2, F3, FB⟩ := put4 (.int .i64 2) (.bool neg) (.int .u64 m) (.int .i64 e) (K1.at 0) (K1.at 1) (K1.at 2) (K1.at 3)
    exact bodyPost_ret (v := prt 2 neg m e) (by simp [results, Try.results83, go_sem, F0, F1, F2, F3]) rfl ⟨rfl, FB _ _ (by omega) pr⟩
/-- The parts of m times 2 to the e. -/
def finS (neg : Bool) (m e : Int) : Int × Bool × Int × Int := if m = 0 then (0, neg, 0, 0) else if m < 8388608 then (1, neg, m, e) else (2, neg, m, e)
set_option maxRecDepth 100000 in
set_option maxHeartbeats 1600000 in
theorem finite_s (neg : Bool) (m e : Int) (w : World) : Calls Try.prog 83 #[fmtS, .bool neg, .int .u64 m, .int .i64 e] w fun x w' => x = .returned (prt4 (finS neg m e)) ∧ Below w.heap.size w w' := by
  unfold finS
  by_cases h1 : m = 0
  · rw [if_pos h1]
    have d1 : (m == 0) = true := by rw [beq_iff_eq]; exact h1
    clear h1
    go_enter Try.func83, Try.ntmps83
    go_wp2
    exact bodyPost_ret (v := prt 0 neg 0 0) (by simp [results, Try.results83, go_sem]) rfl ⟨rfl, ((Below.refl _ _).alloc (Nat.le_refl _) _).alloc (by simp) _⟩
  rw [if_neg h1]
  have d1 : (m == 0) = false := by rw [beq_eq_false_iff_ne]; exact h1
  clear h1
  by_cases h2 : m < 8388608
  · rw [if_pos h2]
    have d2 : decide (m < 8388608) = true := decide_eq_true h2
    clear h2
    go_enter Try.func83, Try.ntmps83
    have K0 : Blk ((w.alloc (.cells #[.int .i64 24, .int .i64 (-149), .int .i64 104] 72)).alloc (.cells #[.int .i64 0, .bool false, .int .u64 0, .int .i64 0] 25)) w.heap.size #[.int .i64 24, .int .i64 (-149), .int .i64 104] 72 := (Blk.new w _ _).alloc _
    have K1 := Blk.new (w.alloc (.cells #[.int .i64 24, .int .i64 (-149), .int .i64 104] 72)) #[.int .i64 0, .bool false, .int .u64 0, .int .i64 0] 25
    have pr : Below w.heap.size w ((w.alloc (.cells #[.int .i64 24, .int .i64 (-149), .int .i64 104] 72)).alloc (.cells #[.int .i64 0, .bool false, .int .u64 0, .int .i64 0] 25)) := ((Below.refl _ _).alloc (Nat.le_refl _) _).alloc (by simp) _
    simp only [World.size_alloc] at K1
    go_wp2_with (first
      | (go_at_call 77; refine (leastNormal_s _).mono ?_; rintro x w1 ⟨rfl, b1⟩; replace K0 := K0.below b1 K0.lt; replace K1 := K1.below b1 K1.lt; replace pr := bel pr b1; clear b1; have e0 : w1.cell? ⟨w.heap.size, 0, none⟩ = some (.int .i64 24) := K0.at 0; have e1 : w1.cell? ⟨w.heap.size, 1, none⟩ = some (.int .i64 (-149)) := K0.at 1; have e2 : w1.cell? ⟨w.heap.size, 2, none⟩ = some (.int .i64 104) := K0.at 2; have c0 : w1.cell? ⟨w.heap.size + 1, 0, none⟩ = some (.int .i64 0) := K1.at 0; have c1 : w1.cell? ⟨w.heap.size + 1, 1, none⟩ = some (.bool false) := K1.at 1; have c2 : w1.cell? ⟨w.heap.size + 1, 2, none⟩ = some (.int .u64 0) := K1.at 2; have c3 : w1.cell? ⟨w.heap.size + 1, 3, none⟩ = some (.int .i64 0) := K1.at 3; have z0 := K1.free 0; have z1 := K1.free 1; have z2 := K1.free 2; have z3 := K1.free 3)
      | fail)
    obtain ⟨F0, F1, F2, F3, FB⟩ := put4 (.int .i64 1) (.bool neg) (.int .u64 m) (.int .i64 e) (K1.at 0) (K1.at 1) (K1.at 2) (K1.at 3)
    exact bodyPost_ret (v := prt 1 neg m e) (by simp [results, Try.results83, go_sem, F0, F1, F2, F3]) rfl ⟨rfl, FB _ _ (by omega) pr⟩
  · rw [if_neg h2]
    have d2 : decide (m < 8388608) = false := decide_eq_false h2
    clear h2
    go_enter Try.func83, Try.ntmps83
    have K0 : Blk ((w.alloc (.cells #[.int .i64 24, .int .i64 (-149), .int .i64 104] 72)).alloc (.cells #[.int .i64 0, .bool false, .int .u64 0, .int .i64 0] 25)) w.heap.size #[.int .i64 24, .int .i64 (-149), .int .i64 104] 72 := (Blk.new w _ _).alloc _
    have K1 := Blk.new (w.alloc (.cells #[.int .i64 24, .int .i64 (-149), .int .i64 104] 72)) #[.int .i64 0, .bool false, .int .u64 0, .int .i64 0] 25
    have pr : Below w.heap.size w ((w.alloc (.cells #[.int .i64 24, .int .i64 (-149), .int .i64 104] 72)).alloc (.cells #[.int .i64 0, .bool false, .int .u64 0, .int .i64 0] 25)) := ((Below.refl _ _).alloc (Nat.le_refl _) _).alloc (by simp) _
    simp only [World.size_alloc] at K1
    go_wp2_with (first
      | (go_at_call 77; refine (leastNormal_s _).mono ?_; rintro x w1 ⟨rfl, b1⟩; replace K0 := K0.below b1 K0.lt; replace K1 := K1.below b1 K1.lt; replace pr := bel pr b1; clear b1; have e0 : w1.cell? ⟨w.heap.size, 0, none⟩ = some (.int .i64 24) := K0.at 0; have e1 : w1.cell? ⟨w.heap.size, 1, none⟩ = some (.int .i64 (-149)) := K0.at 1; have e2 : w1.cell? ⟨w.heap.size, 2, none⟩ = some (.int .i64 104) := K0.at 2; have c0 : w1.cell? ⟨w.heap.size + 1, 0, none⟩ = some (.int .i64 0) := K1.at 0; have c1 : w1.cell? ⟨w.heap.size + 1, 1, none⟩ = some (.bool false) := K1.at 1; have c2 : w1.cell? ⟨w.heap.size + 1, 2, none⟩ = some (.int .u64 0) := K1.at 2; have c3 : w1.cell? ⟨w.heap.size + 1, 3, none⟩ = some (.int .i64 0) := K1.at 3; have z0 := K1.free 0; have z1 := K1.free 1; have z2 := K1.free 2; have z3 := K1.free 3)
      | fail)
    obtain ⟨F0, F1, F2, F3, FB⟩ := put4 (.int .i64 2) (.bool neg) (.int .u64 m) (.int .i64 e) (K1.at 0) (K1.at 1) (K1.at 2) (K1.at 3)
    exact bodyPost_ret (v := prt 2 neg m e) (by simp [results, Try.results83, go_sem, F0, F1, F2, F3]) rfl ⟨rfl, FB _ _ (by omega) pr⟩
end Go.Proofs.Ytfpmegfdopnnpaa

namespace Go.Proofs.Ytfpmegfdopnnpaa
open Go.RowKit Tn

set_option maxRecDepth 100000 in
set_option maxHeartbeats 1600000 in
theorem Len64_one (w : World) : Calls Try.prog 97 #[.int .u64 1] w fun e w' => e = .returned (.int .i64 1) ∧ w' = w := by
  go_enter Try.func97, Try.ntmps97
  go_wp2
  go_ret
  exact ⟨by kernel_rfl, rfl⟩
set_option maxRecDepth 100000 in
theorem LeadingZeros64_one (w : World) : Calls Try.prog 104 #[.int .u64 1] w fun e w' => e = .returned (.int .i64 63) ∧ w' = w := by
  go_enter Try.func104, Try.ntmps104
  go_wp2_with (first
    | (go_at_call 97; refine (Len64_one _).mono ?_; rintro e w' ⟨rfl, rfl⟩)
    | fail)
  go_ret
  exact ⟨rfl, rfl⟩
theorem blk_set {w : World} {n i : Nat} {c : Array Value} {t : TypeId} {v : Value} (h : Blk w n c t) : Blk (w.setCell ⟨n, i, none⟩ v) n (c.setIfInBounds i v) t := by
  have h' : w.heap[n]? = some (.cells c t (0, 0)) := h
  show (w.setCell ⟨n, i, none⟩ v).heap[n]? = _
  simp [World.setCell, Array.getElem?_modify, h']
theorem blk_set_other {w : World} {n m i : Nat} {c : Array Value} {t : TypeId} {v : Value} (h : Blk w n c t) (hn : n ≠ m) : Blk (w.setCell ⟨m, i, none⟩ v) n c t := h.wr ((Wr.refl m i 1 w).setCell i (by omega) v) hn
theorem bel_set {w W : World} {m i : Nat} {v : Value} (h : Below w.heap.size w W) (hm : w.heap.size ≤ m) : Below w.heap.size w (W.setCell ⟨m, i, none⟩ v) := h.setCell (p := ⟨m, i, none⟩) hm v
/-- A number of float's own. -/
abbrev nmb (k : Int) (g : Bool) (h l e : Int) (m : Bool) (f : Int) : Value := .agg #[.int .i64 k, .bool g, .int .u64 h, .int .u64 l, .int .i64 e, .bool m, .int .i64 f]
set_option maxRecDepth 100000 in
set_option maxHeartbeats 1600000 in
theorem raised_one (x1 x2 E : Int) (hx1 : IntKind.i64.wrap (E - 64) = x1) (hx2 : IntKind.i64.wrap (x1 - 63) = x2) (w : World) :
    Calls Try.prog 80 #[.agg #[.int .i64 2, .bool false, .int .u64 0, .int .u64 1, .int .i64 E, .bool false, .int .i64 0]] w fun e w' => e = .returned (.agg #[.int .i64 2, .bool false, .int .u64 9223372036854775808, .int .u64 0, .int .i64 x2, .bool false, .int .i64 0]) ∧ Below w.heap.size w w' := by
  go_enter Try.func80, Try.ntmps80
  go_wp2_with (first
    | (go_at_call 104; refine (LeadingZeros64_one _).mono ?_; rintro e w' ⟨rfl, rfl⟩)
    | fail)
  generalize hW : (w.alloc (.cells #[.int .i64 2, .bool false, .int .u64 1, .int .u64 0, .int .i64 x1, .bool false, .int .i64 0] 85)).alloc (.cells #[.int .i64 0, .bool false, .int .u64 0, .int .u64 0, .int .i64 0, .bool false, .int .i64 0] 85) = W
  have K1 : Blk W w.heap.size #[.int .i64 2, .bool false, .int .u64 1, .int .u64 0, .int .i64 x1, .bool false, .int .i64 0] 85 := by rw [← hW]; exact (Blk.new w _ _).alloc _
  have K2 : Blk W (w.heap.size + 1) #[.int .i64 0, .bool false, .int .u64 0, .int .u64 0, .int .i64 0, .bool false, .int .i64 0] 85 := by rw [← hW]; have := Blk.new (w.alloc (.cells #[.int .i64 2, .bool false, .int .u64 1, .int .u64 0, .int .i64 x1, .bool false, .int .i64 0] 85)) #[.int .i64 0, .bool false, .int .u64 0, .int .u64 0, .int .i64 0, .bool false, .int .i64 0] 85; simpa using this
  have pr : Below w.heap.size w W := by rw [← hW]; exact ((Below.refl _ _).alloc (Nat.le_refl _) _).alloc (by simp) _
  clear hW
  have c2 : W.cell? ⟨w.heap.size, 2, none⟩ = some (.int .u64 1) := K1.at 2
  have c3 : W.cell? ⟨w.heap.size, 3, none⟩ = some (.int .u64 0) := K1.at 3
  have c4 : W.cell? ⟨w.heap.size, 4, none⟩ = some (.int .i64 x1) := K1.at 4
  have f2 := K1.free 2
  have f3 := K1.free 3
  have f4 := K1.free 4
  have o1 : bits .or .u64 9223372036854775808 0 = 9223372036854775808 := by decide
  go_region
  have J1 : Blk (((W.setCell ⟨w.heap.size, 2, none⟩ (.int .u64 9223372036854775808)).setCell ⟨w.heap.size, 3, none⟩ (.int .u64 0)).setCell ⟨w.heap.size, 4, none⟩ (.int .i64 x2)).drew w.heap.size #[.int .i64 2, .bool false, .int .u64 9223372036854775808, .int .u64 0, .int .i64 x2, .bool false, .int .i64 0] 85 := blk_set (blk_set (blk_set K1))
  have J2 : Blk (((W.setCell ⟨w.heap.size, 2, none⟩ (.int .u64 9223372036854775808)).setCell ⟨w.heap.size, 3, none⟩ (.int .u64 0)).setCell ⟨w.heap.size, 4, none⟩ (.int .i64 x2)).drew (w.heap.size + 1) #[.int .i64 0, .bool false, .int .u64 0, .int .u64 0, .int .i64 0, .bool false, .int .i64 0] 85 := blk_set_other (blk_set_other (blk_set_other K2 (by omega)) (by omega)) (by omega)
  have pr2 : Below w.heap.size w (((W.setCell ⟨w.heap.size, 2, none⟩ (.int .u64 9223372036854775808)).setCell ⟨w.heap.size, 3, none⟩ (.int .u64 0)).setCell ⟨w.heap.size, 4, none⟩ (.int .i64 x2)).drew := (bel_set (bel_set (bel_set pr (Nat.le_refl _)) (Nat.le_refl _)) (Nat.le_refl _)).drew
  clear c2 c3 c4 f2 f3 f4 K1 K2 pr
  generalize (((W.setCell ⟨w.heap.size, 2, none⟩ (.int .u64 9223372036854775808)).setCell ⟨w.heap.size, 3, none⟩ (.int .u64 0)).setCell ⟨w.heap.size, 4, none⟩ (.int .i64 x2)).drew = W2 at *
  have c0 : W2.cell? ⟨w.heap.size, 0, none⟩ = some (.int .i64 2) := J1.at 0
  have c1 : W2.cell? ⟨w.heap.size, 1, none⟩ = some (.bool false) := J1.at 1
  have c2 : W2.cell? ⟨w.heap.size, 2, none⟩ = some (.int .u64 9223372036854775808) := J1.at 2
  have c3 : W2.cell? ⟨w.heap.size, 3, none⟩ = some (.int .u64 0) := J1.at 3
  have c4 : W2.cell? ⟨w.heap.size, 4, none⟩ = some (.int .i64 x2) := J1.at 4
  have c5 : W2.cell? ⟨w.heap.size, 5, none⟩ = some (.bool false) := J1.at 5
  have c6 : W2.cell? ⟨w.heap.size, 6, none⟩ = some (.int .i64 0) := J1.at 6
  have d0 : W2.cell? ⟨w.heap.size + 1, 0, none⟩ = some (.int .i64 0) := J2.at 0
  have d1 : W2.cell? ⟨w.heap.size + 1, 1, none⟩ = some (.bool false) := J2.at 1
  have d2 : W2.cell? ⟨w.heap.size + 1, 2, none⟩ = some (.int .u64 0) := J2.at 2
  have d3 : W2.cell? ⟨w.heap.size + 1, 3, none⟩ = some (.int .u64 0) := J2.at 3
  have d4 : W2.cell? ⟨w.heap.size + 1, 4, none⟩ = some (.int .i64 0) := J2.at 4
  have d5 : W2.cell? ⟨w.heap.size + 1, 5, none⟩ = some (.bool false) := J2.at 5
  have d6 : W2.cell? ⟨w.heap.size + 1, 6, none⟩ = some (.int .i64 0) := J2.at 6
  have f0 := J2.free 0
  have f1 := J2.free 1
  have f2 := J2.free 2
  have f3 := J2.free 3
  have f4 := J2.free 4
  have f5 := J2.free 5
  have f6 := J2.free 6
  go_wp2
  have JF : Blk (((((((W2.setCell ⟨w.heap.size + 1, 0, none⟩ (.int .i64 2)).setCell ⟨w.heap.size + 1, 1, none⟩ (.bool false)).setCell ⟨w.heap.size + 1, 2, none⟩ (.int .u64 9223372036854775808)).setCell ⟨w.heap.size + 1, 3, none⟩ (.int .u64 0)).setCell ⟨w.heap.size + 1, 4, none⟩ (.int .i64 x2)).setCell ⟨w.heap.size + 1, 5, none⟩ (.bool false)).setCell ⟨w.heap.size + 1, 6, none⟩ (.int .i64 0)) (w.heap.size + 1) #[.int .i64 2, .bool false, .int .u64 9223372036854775808, .int .u64 0, .int .i64 x2, .bool false, .int .i64 0] 85 := (blk_set (blk_set (blk_set (blk_set (blk_set (blk_set (blk_set J2)))))))
  have F0 : (((((((W2.setCell ⟨w.heap.size + 1, 0, none⟩ (.int .i64 2)).setCell ⟨w.heap.size + 1, 1, none⟩ (.bool false)).setCell ⟨w.heap.size + 1, 2, none⟩ (.int .u64 9223372036854775808)).setCell ⟨w.heap.size + 1, 3, none⟩ (.int .u64 0)).setCell ⟨w.heap.size + 1, 4, none⟩ (.int .i64 x2)).setCell ⟨w.heap.size + 1, 5, none⟩ (.bool false)).setCell ⟨w.heap.size + 1, 6, none⟩ (.int .i64 0)).cell? ⟨w.heap.size + 1, 0, none⟩ = some (.int .i64 2) := JF.at 0
  have F1 : (((((((W2.setCell ⟨w.heap.size + 1, 0, none⟩ (.int .i64 2)).setCell ⟨w.heap.size + 1, 1, none⟩ (.bool false)).setCell ⟨w.heap.size + 1, 2, none⟩ (.int .u64 9223372036854775808)).setCell ⟨w.heap.size + 1, 3, none⟩ (.int .u64 0)).setCell ⟨w.heap.size + 1, 4, none⟩ (.int .i64 x2)).setCell ⟨w.heap.size + 1, 5, none⟩ (.bool false)).setCell ⟨w.heap.size + 1, 6, none⟩ (.int .i64 0)).cell? ⟨w.heap.size + 1, 1, none⟩ = some (.bool false) := JF.at 1
  have F2 : (((((((W2.setCell ⟨w.heap.size + 1, 0, none⟩ (.int .i64 2)).setCell ⟨w.heap.size + 1, 1, none⟩ (.bool false)).setCell ⟨w.heap.size + 1, 2, none⟩ (.int .u64 9223372036854775808)).setCell ⟨w.heap.size + 1, 3, none⟩ (.int .u64 0)).setCell ⟨w.heap.size + 1, 4, none⟩ (.int .i64 x2)).setCell ⟨w.heap.size + 1, 5, none⟩ (.bool false)).setCell ⟨w.heap.size + 1, 6, none⟩ (.int .i64 0)).cell? ⟨w.heap.size + 1, 2, none⟩ = some (.int .u64 9223372036854775808) := JF.at 2
  have F3 : (((((((W2.setCell ⟨w.heap.size + 1, 0, none⟩ (.int .i64 2)).setCell ⟨w.heap.size + 1, 1, none⟩ (.bool false)).setCell ⟨w.heap.size + 1, 2, none⟩ (.int .u64 9223372036854775808)).setCell ⟨w.heap.size + 1, 3, none⟩ (.int .u64 0)).setCell ⟨w.heap.size + 1, 4, none⟩ (.int .i64 x2)).setCell ⟨w.heap.size + 1, 5, none⟩ (.bool false)).setCell ⟨w.heap.size + 1, 6, none⟩ (.int .i64 0)).cell? ⟨w.heap.size + 1, 3, none⟩ = some (.int .u64 0) := JF.at 3
  have F4 : (((((((W2.setCell ⟨w.heap.size + 1, 0, none⟩ (.int .i64 2)).setCell ⟨w.heap.size + 1, 1, none⟩ (.bool false)).setCell ⟨w.heap.size + 1, 2, none⟩ (.int .u64 9223372036854775808)).setCell ⟨w.heap.size + 1, 3, none⟩ (.int .u64 0)).setCell ⟨w.heap.size + 1, 4, none⟩ (.int .i64 x2)).setCell ⟨w.heap.size + 1, 5, none⟩ (.bool false)).setCell ⟨w.heap.size + 1, 6, none⟩ (.int .i64 0)).cell? ⟨w.heap.size + 1, 4, none⟩ = some (.int .i64 x2) := JF.at 4
  have F5 : (((((((W2.setCell ⟨w.heap.size + 1, 0, none⟩ (.int .i64 2)).setCell ⟨w.heap.size + 1, 1, none⟩ (.bool false)).setCell ⟨w.heap.size + 1, 2, none⟩ (.int .u64 9223372036854775808)).setCell ⟨w.heap.size + 1, 3, none⟩ (.int .u64 0)).setCell ⟨w.heap.size + 1, 4, none⟩ (.int .i64 x2)).setCell ⟨w.heap.size + 1, 5, none⟩ (.bool false)).setCell ⟨w.heap.size + 1, 6, none⟩ (.int .i64 0)).cell? ⟨w.heap.size + 1, 5, none⟩ = some (.bool false) := JF.at 5
  have F6 : (((((((W2.setCell ⟨w.heap.size + 1, 0, none⟩ (.int .i64 2)).setCell ⟨w.heap.size + 1, 1, none⟩ (.bool false)).setCell ⟨w.heap.size + 1, 2, none⟩ (.int .u64 9223372036854775808)).setCell ⟨w.heap.size + 1, 3, none⟩ (.int .u64 0)).setCell ⟨w.heap.size + 1, 4, none⟩ (.int .i64 x2)).setCell ⟨w.heap.size + 1, 5, none⟩ (.bool false)).setCell ⟨w.heap.size + 1, 6, none⟩ (.int .i64 0)).cell? ⟨w.heap.size + 1, 6, none⟩ = some (.int .i64 0) := JF.at 6
  exact bodyPost_ret (v := .agg #[.int .i64 2, .bool false, .int .u64 9223372036854775808, .int .u64 0, .int .i64 x2, .bool false, .int .i64 0]) (by simp [results, Try.results80, go_sem, F0, F1, F2, F3, F4, F5, F6]) rfl ⟨rfl, (bel_set (bel_set (bel_set (bel_set (bel_set (bel_set (bel_set pr2 (Nat.le_succ _)) (Nat.le_succ _)) (Nat.le_succ _)) (Nat.le_succ _)) (Nat.le_succ _)) (Nat.le_succ _)) (Nat.le_succ _))⟩
end Go.Proofs.Ytfpmegfdopnnpaa

namespace Tl
/-- The number of a row of limbs of 30 bits, the lowest first. -/
def val : List Int → Int
  | [] => 0
  | x :: xs => x + 1073741824 * val xs
/-- The unit behind n words. -/
def pw : Nat → Int
  | 0 => 1
  | n + 1 => 1073741824 * pw n
/-- Each is a word. -/
def Wd (xs : List Int) : Prop := ∀ x, x ∈ xs → 0 ≤ x ∧ x < 1073741824

theorem pw_pos (n : Nat) : 0 < pw n := by
  induction n with
  | zero => simp [pw]
  | succ n ih => simp only [pw]; omega
theorem pw_add (m n : Nat) : pw (m + n) = pw m * pw n := by
  induction m with
  | zero => simp [pw]
  | succ m ih => rw [Nat.succ_add]; simp only [pw, ih]; grind
theorem pw_mono {m n : Nat} (h : m ≤ n) : pw m ≤ pw n := by
  obtain ⟨k, rfl⟩ := Nat.exists_eq_add_of_le h
  rw [pw_add]
  have h1 := pw_pos m
  have h2 : 1 ≤ pw k := pw_pos k
  have := Int.mul_le_mul_of_nonneg_left h2 (Int.le_of_lt h1)
  omega
theorem Wd.nil : Wd [] := by intro x h; simp at h
theorem Wd.cons {x : Int} {xs : List Int} (h0 : 0 ≤ x) (h1 : x < 1073741824) (h : Wd xs) : Wd (x :: xs) := by
  intro y hy
  rcases List.mem_cons.1 hy with rfl | hy
  · exact ⟨h0, h1⟩
  · exact h y hy
theorem Wd.head {x : Int} {xs : List Int} (h : Wd (x :: xs)) : 0 ≤ x ∧ x < 1073741824 := h x (by simp)
theorem Wd.tail {x : Int} {xs : List Int} (h : Wd (x :: xs)) : Wd xs := fun y hy => h y (by simp [hy])
theorem Wd.append {xs ys : List Int} (h : Wd xs) (k : Wd ys) : Wd (xs ++ ys) := by
  intro y hy
  rcases List.mem_append.1 hy with hy | hy
  · exact h y hy
  · exact k y hy
theorem Wd.left {xs ys : List Int} (h : Wd (xs ++ ys)) : Wd xs := fun y hy => h y (by simp [hy])
theorem Wd.right {xs ys : List Int} (h : Wd (xs ++ ys)) : Wd ys := fun y hy => h y (by simp [hy])
theorem Wd.take {xs : List Int} (h : Wd xs) (n : Nat) : Wd (xs.take n) := fun y hy => h y (List.mem_of_mem_take hy)
theorem Wd.drop {xs : List Int} (h : Wd xs) (n : Nat) : Wd (xs.drop n) := fun y hy => h y (List.mem_of_mem_drop hy)
theorem Wd.set {xs : List Int} (h : Wd xs) (n : Nat) {v : Int} (h0 : 0 ≤ v) (h1 : v < 1073741824) : Wd (xs.set n v) := by
  intro y hy
  rcases List.mem_or_eq_of_mem_set hy with hy | rfl
  · exact h y hy
  · exact ⟨h0, h1⟩
theorem Wd.zeros (n : Nat) : Wd (List.replicate n 0) := by
  intro y hy; have := List.eq_of_mem_replicate hy; omega
theorem Wd.get {xs : List Int} (h : Wd xs) (i : Nat) : 0 ≤ xs.getD i 0 ∧ xs.getD i 0 < 1073741824 := by
  by_cases hi : i < xs.length
  · simp only [List.getD_eq_getElem?_getD, List.getElem?_eq_getElem hi, Option.getD_some]; exact h _ (List.getElem_mem hi)
  · simp [List.getD_eq_getElem?_getD, List.getElem?_eq_none (Nat.le_of_not_lt hi)]

theorem val_append (xs ys : List Int) : val (xs ++ ys) = val xs + pw xs.length * val ys := by
  induction xs with
  | nil => simp [val, pw]
  | cons x xs ih => simp only [List.cons_append, val, ih, List.length_cons, pw]; grind
theorem val_nonneg {xs : List Int} (h : Wd xs) : 0 ≤ val xs := by
  induction xs with
  | nil => simp [val]
  | cons x xs ih => have := ih h.tail; have := h.head; simp only [val]; omega
theorem val_lt {xs : List Int} (h : Wd xs) : val xs < pw xs.length := by
  induction xs with
  | nil => simp [val, pw]
  | cons x xs ih => have := ih h.tail; have := h.head; simp only [val, List.length_cons, pw]; omega
theorem val_zeros (n : Nat) : val (List.replicate n 0) = 0 := by
  induction n with
  | zero => rfl
  | succ n ih => simp [List.replicate_succ, val, ih]
theorem val_split (xs : List Int) (n : Nat) (h : n ≤ xs.length) : val xs = val (xs.take n) + pw n * val (xs.drop n) := by
  conv => lhs; rw [← List.take_append_drop n xs]
  rw [val_append, List.length_take, Nat.min_eq_left h]
theorem take_succ_getD (xs : List Int) (k : Nat) (h : k < xs.length) : xs.take (k + 1) = xs.take k ++ [xs.getD k 0] := by
  rw [List.take_succ_eq_append_getElem h]; simp [List.getD_eq_getElem?_getD, List.getElem?_eq_getElem h]
theorem drop_getD (xs : List Int) (k : Nat) (h : k < xs.length) : xs.drop k = xs.getD k 0 :: xs.drop (k + 1) := by
  rw [List.drop_eq_getElem_cons h]; simp [List.getD_eq_getElem?_getD, List.getElem?_eq_getElem h]
theorem val_take_succ (xs : List Int) (k : Nat) (h : k < xs.length) : val (xs.take (k + 1)) = val (xs.take k) + pw k * xs.getD k 0 := by
  rw [take_succ_getD xs k h, val_append, List.length_take, Nat.min_eq_left (Nat.le_of_lt h)]; simp [val]
theorem take_set_succ (xs : List Int) (k : Nat) (v : Int) (h : k < xs.length) : (xs.set k v).take (k + 1) = xs.take k ++ [v] := by
  rw [take_succ_getD _ k (by simpa using h)]
  congr 1
  · rw [List.take_set]; exact List.set_eq_of_length_le (by simp; omega)
  · simp [List.getD_eq_getElem?_getD, h]
theorem drop_set_succ (xs : List Int) (k : Nat) (v : Int) : (xs.set k v).drop (k + 1) = xs.drop (k + 1) := by
  rw [List.drop_set_of_lt (by omega)]
/-- No nought at the high end. -/
def Nm (xs : List Int) : Prop := xs = [] ∨ xs.getD (xs.length - 1) 0 ≠ 0
theorem Nm.nil : Nm [] := Or.inl rfl
theorem val_low {xs : List Int} (h : Wd xs) (n : Nm xs) (ne : xs ≠ []) : pw (xs.length - 1) ≤ val xs := by
  have hl : 0 < xs.length := by cases xs with | nil => exact absurd rfl ne | cons => simp
  have e := val_split xs (xs.length - 1) (by omega)
  rw [drop_getD xs _ (by omega), Nat.sub_add_cancel hl, List.drop_length] at e
  rcases n with n | n
  · exact absurd n ne
  · have h1 := (h.get (xs.length - 1)).1
    have h2 := val_nonneg (h.take (xs.length - 1))
    have h3 := Int.mul_le_mul_of_nonneg_left (show 1 ≤ xs.getD (xs.length - 1) 0 by omega) (Int.le_of_lt (pw_pos (xs.length - 1)))
    simp only [val, Int.mul_zero, Int.add_zero] at e
    omega
theorem pw_lt {m n : Nat} (h : m < n) : pw m < pw n := by
  have := pw_mono (show m + 1 ≤ n from h); have := pw_pos m; simp only [pw] at *; omega
/-- More words, a greater number. -/
theorem val_lt_of_length {xs ys : List Int} (h : Wd xs) (k : Wd ys) (n : Nm ys) (hl : xs.length < ys.length) : val xs < val ys := by
  have h1 := val_lt h
  have h2 := val_low k n (by intro e; simp [e] at hl)
  have h3 := pw_mono (show xs.length ≤ ys.length - 1 by omega)
  omega
theorem val_eq_zero {xs : List Int} (h : Wd xs) (n : Nm xs) : val xs = 0 ↔ xs = [] := by
  constructor
  · intro e
    by_cases ne : xs = []
    · exact ne
    · have := val_low h n ne; have := pw_pos (xs.length - 1); omega
  · rintro rfl; rfl
/-- A number has one row of words. -/
theorem val_inj {xs : List Int} : ∀ {ys : List Int}, Wd xs → Wd ys → xs.length = ys.length → val xs = val ys → xs = ys := by
  induction xs with
  | nil => intro ys _ _ hl _; cases ys with | nil => rfl | cons => simp at hl
  | cons x xs ih =>
    intro ys h k hl e
    cases ys with
    | nil => simp at hl
    | cons y ys =>
      have := h.head; have := k.head
      simp only [val] at e
      have e1 : x = y := by omega
      have e2 : val xs = val ys := by omega
      rw [e1, ih h.tail k.tail (by simpa using hl) e2]
theorem val_inj_nm {xs ys : List Int} (h : Wd xs) (k : Wd ys) (m : Nm xs) (n : Nm ys) (e : val xs = val ys) : xs = ys := by
  refine val_inj h k ?_ e
  rcases Nat.lt_trichotomy xs.length ys.length with l | l | l
  · have := val_lt_of_length h k n l; omega
  · exact l
  · have := val_lt_of_length k h m l; omega
end Tl
