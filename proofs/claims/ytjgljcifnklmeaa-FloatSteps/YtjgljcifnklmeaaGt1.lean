import Derived.Test.YtjgljcifnklmeaaGp3
import Derived.Test.YtjgljcifnklmeaaGq3
namespace Go.Proofs.Ytjgljcifnklmeaa
open Go.RowKit Tn

/-- How many places above the least one a float's last place stands. -/
def gapT (n : Nat) : Nat := if fdW n = 0 then 0 else fdW n - 1
theorem pow2 (a : Nat) : ((2 ^ a : Nat) : Int) = (2 : Int) ^ a := by simp
theorem cut_pow (P : Nat) (p1 : 1 ≤ P) (p2 : P ≤ 63) (w : World) : Calls Try.prog 81 #[.int .u64 9223372036854775808, .int .i64 P, .bool false, .bool false, .int .i64 6] w fun e w' => e = .returned (.tuple #[.int .u64 (2 ^ (63 - P)), .bool true]) ∧ w' = w := by
  refine (cut_any 9223372036854775808 P false false 6 (by decide) (by decide) p1 (by omega) w).mono ?_
  have e : (9223372036854775808 : Int) = 2 ^ (63 - P) * 2 ^ P := by
    rw [← Int.pow_add, show 63 - P + P = 63 from by omega]; decide
  have p0 : (0 : Int) < 2 ^ P := Int.pow_pos (by decide)
  have c : cutF 9223372036854775808 P false false 6 = (2 ^ (63 - P), true) := by
    unfold cutF
    rw [e, Int.mul_emod_left, Int.mul_ediv_cancel _ (by omega)]
    simp
  rw [c]
  rintro x w' ⟨rfl, rfl⟩
  exact ⟨rfl, rfl⟩
theorem fin_pow {T : Nat} {M X : Int} (hT : T ≤ 2045) (h : (T ≤ 51 ∧ M = 2 ^ T ∧ X = -1074) ∨ (52 ≤ T ∧ M = 4503599627370496 ∧ X = (T : Int) - 1126)) : OkW (finW false M X) ∧ pckW (finW false M X) = L.gapB T ∧ 0 ≤ (finW false M X).2.2.1 ∧ (finW false M X).2.2.1 < 18446744073709551616 := by
  rcases h with ⟨h, rfl, rfl⟩ | ⟨h, rfl, rfl⟩
  · have a := L.two_pow_pos T
    have b := L.two_pow_le h
    have t51 : (2 : Int) ^ 51 = 2251799813685248 := by decide
    have e : finW false (2 ^ T) (-1074) = (1, false, 2 ^ T, -1074) := by unfold finW; rw [if_neg (by omega), if_pos (by omega)]
    rw [e]
    refine ⟨Or.inr (Or.inl ⟨rfl, a, by show (2 : Int) ^ T < _; omega, rfl⟩), ?_, by show (0 : Int) ≤ 2 ^ T; omega, by show (2 : Int) ^ T < _; omega⟩
    unfold pckW L.gapB
    rw [if_pos h]
    simp
  · have e : finW false 4503599627370496 ((T : Int) - 1126) = (2, false, 4503599627370496, (T : Int) - 1126) := by unfold finW; rw [if_neg (by omega), if_neg (by omega)]
    rw [e]
    refine ⟨Or.inr (Or.inr (Or.inl ⟨rfl, by show (4503599627370496 : Int) ≤ 4503599627370496; decide, by show (4503599627370496 : Int) < 9007199254740992; decide, by show -1074 ≤ (T : Int) - 1126; omega, by show (T : Int) - 1126 ≤ 971; omega⟩)), ?_, by show (0 : Int) ≤ 4503599627370496; decide, by show (4503599627370496 : Int) < 18446744073709551616; decide⟩
    unfold pckW L.gapB
    rw [if_neg (by omega)]
    simp
    omega
/-- round of a power of two. -/
theorem round_pow (T : Nat) (hT : T ≤ 2045) : ∃ N : Nat, N < 18446744073709551616 ∧ (N : Int) = L.gapB T ∧ ∀ w : World, Calls Try.prog 53 #[.agg #[.int .i64 53, .int .i64 (-1074), .int .i64 971], .agg #[.int .i64 2, .bool false, .int .u64 0, .int .u64 1, .int .i64 ((T : Int) - 1074), .bool false, .int .i64 0], .int .i64 6] w fun x w' => x = .returned (.tuple #[.int .u64 N, .int .i64 0]) ∧ Below w.heap.size w w' := by
  obtain ⟨M, X, P, hP1, hP2, hX, hPX, hM, hMX⟩ : ∃ (M X : Int) (P : Nat), 1 ≤ P ∧ P ≤ 63 ∧ (if (T : Int) - 1126 < -1074 then -1074 else (T : Int) - 1126) = X ∧ X - ((T : Int) - 1201) - 64 = P ∧ M = 2 ^ (63 - P) ∧ ((T ≤ 51 ∧ M = 2 ^ T ∧ X = -1074) ∨ (52 ≤ T ∧ M = 4503599627370496 ∧ X = (T : Int) - 1126)) := by
    by_cases h : T ≤ 51
    · exact ⟨2 ^ T, -1074, 63 - T, by omega, by omega, by rw [if_pos (by omega)], by omega, by rw [show 63 - (63 - T) = T from by omega], Or.inl ⟨h, rfl, rfl⟩⟩
    · exact ⟨4503599627370496, (T : Int) - 1126, 11, by omega, by omega, by rw [if_neg (by omega)], by omega, by decide, Or.inr ⟨by omega, rfl, rfl⟩⟩
  obtain ⟨ok, pk, f0, f1⟩ := fin_pow hT hMX
  obtain ⟨N, hN, hp, PK⟩ := pack_w (finW false M X) f0 f1
  refine ⟨N, hN, (hp ok).trans pk, ?_⟩
  have hM2 : M ≤ 4503599627370496 := by
    rcases hMX with ⟨h, e, _⟩ | ⟨_, e, _⟩
    · have := L.two_pow_le h
      have t51 : (2 : Int) ^ 51 = 2251799813685248 := by decide
      omega
    · omega
  have hX1 : -1074 ≤ X ∧ X ≤ 971 := by rcases hMX with ⟨_, _, e⟩ | ⟨_, _, e⟩ <;> omega
  intro w
  exact round_one ((T : Int) - 1074) ((T : Int) - 1138) ((T : Int) - 1201) ((T : Int) - 1073) ((T : Int) - 1126) (X - ((T : Int) - 1201)) X M N P (by rw [show (T : Int) - 1074 - 64 = (T : Int) - 1138 from by omega]; exact w64 _ (by omega) (by omega)) (by rw [show (T : Int) - 1138 - 63 = (T : Int) - 1201 from by omega]; exact w64 _ (by omega) (by omega)) (by rw [show (T : Int) - 1201 + 128 = (T : Int) - 1073 from by omega]; exact w64 _ (by omega) (by omega)) (by rw [show (T : Int) - 1073 - 53 = (T : Int) - 1126 from by omega]; exact w64 _ (by omega) (by omega)) hX (w64 _ (by omega) (by omega)) (by rw [hPX]; exact w64 _ (by omega) (by omega)) hX1.2 (fun w => by rw [hM]; exact cut_pow P hP1 hP2 w) (by rw [beq_eq_false_iff_ne]; omega) PK w
/-- The bits of a float's gap. -/
def gap64 (n : Nat) : Nat := (L.gapB (gapT n)).toNat
theorem gapT_le (n : Nat) (h : fdW n ≠ 2047) : gapT n ≤ 2045 := by
  have h1 : fdW n < 2048 := Nat.mod_lt _ (by decide)
  unfold gapT
  split <;> omega
theorem gap64_eq (n N : Nat) (h : (N : Int) = L.gapB (gapT n)) : gap64 n = N := by unfold gap64; omega
/-- float.Gap. -/
theorem FGap64 (n : Nat) (hn : n < 18446744073709551616) (w : World) : Calls Try.prog 34 #[.float .f64 n] w fun x w' => x = .returned (if fdW n = 2047 then .tuple #[.float .f64 0, .bool false] else .tuple #[.float .f64 (gap64 n), .bool true]) ∧ Below w.heap.size w w' := by
  have S := fun w => FSplit64 n hn w
  by_cases h : fdW n = 2047
  · rw [if_pos h]
    by_cases hf : frW n = 0
    · have e : splW n = (3, sgW n, 0, 0) := by unfold splW; rw [if_pos h, if_pos hf]
      rw [e] at S
      exact FGap_no n 3 (sgW n) 0 0 S (fun w => isFinite_no3 3 (sgW n) 0 0 (by decide) w) w
    · have e : splW n = (4, false, 0, 0) := by unfold splW; rw [if_pos h, if_neg hf]
      rw [e] at S
      exact FGap_no n 4 false 0 0 S (fun w => isFinite_no4 4 false 0 0 (by decide) (by decide) w) w
  · rw [if_neg h]
    obtain ⟨N, _, eN, R⟩ := round_pow (gapT n) (gapT_le n h)
    rw [gap64_eq n N eN]
    by_cases h0 : fdW n = 0
    · have eT : gapT n = 0 := by unfold gapT; rw [if_pos h0]
      rw [eT] at R
      by_cases hf : frW n = 0
      · have e : splW n = (0, sgW n, 0, 0) := by unfold splW; rw [if_neg h, if_pos h0, if_pos hf]
        rw [e] at S
        exact FGap_nought n 0 (sgW n) 0 0 S (fun w => isFinite_yes 0 (sgW n) 0 0 (by decide) (by decide) w) (by decide) N R w
      · have e : splW n = (1, sgW n, (frW n : Int), -1074) := by unfold splW; rw [if_neg h, if_pos h0, if_neg hf]
        rw [e] at S
        exact FGap_other n 1 (sgW n) _ (-1074) S (fun w => isFinite_yes 1 (sgW n) _ (-1074) (by decide) (by decide) w) (by decide) N R w
    · have eT : (gapT n : Int) - 1074 = (fdW n : Int) - 1 - 1074 := by unfold gapT; rw [if_neg h0]; omega
      rw [eT] at R
      have e : splW n = (2, sgW n, (frW n : Int) + 4503599627370496, (fdW n : Int) - 1 - 1074) := by unfold splW; rw [if_neg h, if_neg h0]
      rw [e] at S
      exact FGap_other n 2 (sgW n) _ _ S (fun w => isFinite_yes 2 (sgW n) _ _ (by decide) (by decide) w) (by decide) N R w
/-- The reference's Gap. -/
theorem RGap64 (n : Nat) (hn : n < 18446744073709551616) (w : World) : Calls Try.prog 35 #[.int .u64 n] w fun x w' => x = .returned (if fdW n = 2047 then .tuple #[.int .u64 0, .bool false] else .tuple #[.int .u64 (gap64 n), .bool true]) ∧ Below w.heap.size w w' := by
  have S := fun w => Split_w n hn w
  have F := fun w => Finite_w n (fdW n) (decide (fdW n ≠ 2047)) (hdW n hn) (by rw [Bool.eq_iff_iff, decide_eq_true_iff, bne_iff_ne]; omega) w
  by_cases h : fdW n = 2047
  · rw [if_pos h]
    rw [decide_eq_false (show ¬ (fdW n ≠ 2047) from fun x => x h)] at F
    exact L.RGap_no n F w
  · rw [if_neg h]
    rw [decide_eq_true (show fdW n ≠ 2047 from h)] at F
    obtain ⟨N, _, eN, _⟩ := round_pow (gapT n) (gapT_le n h)
    rw [gap64_eq n N eN, eN]
    by_cases h0 : fdW n = 0
    · have eT : gapT n = 0 := by unfold gapT; rw [if_pos h0]
      rw [eT]
      by_cases hf : frW n = 0
      · have e : splW n = (0, sgW n, 0, 0) := by unfold splW; rw [if_neg h, if_pos h0, if_pos hf]
        rw [e] at S
        exact L.RGap_other n 0 (sgW n) 0 0 F S (by decide) w
      · have e : splW n = (1, sgW n, (frW n : Int), -1074) := by unfold splW; rw [if_neg h, if_pos h0, if_neg hf]
        rw [e] at S
        exact L.RGap_other n 1 (sgW n) _ _ F S (by decide) w
    · have eT : (fdW n : Int) - 1 - 1074 + 1074 = (gapT n : Int) := by unfold gapT; rw [if_neg h0]; omega
      have e : splW n = (2, sgW n, (frW n : Int) + 4503599627370496, (fdW n : Int) - 1 - 1074) := by unfold splW; rw [if_neg h, if_neg h0]
      rw [e] at S
      exact L.RGap_norm n (sgW n) _ _ (gapT n) F S eT (gapT_le n h) w
end Go.Proofs.Ytjgljcifnklmeaa
