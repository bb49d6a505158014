import Derived.Test.YteepjipecfdkoaaDoorDy3
namespace Go.Proofs.YteepjipecfdkoaaDoor.Dy
open Go.RowKit Tn

set_option maxHeartbeats 400000 in
theorem leapsAhead_any (y : Int) (h1 : 1 ≤ y) (h2 : y ≤ 20000) (w : World) : Calls Tryd.prog 31 #[.int .i64 y] w fun e w' => e = .returned (.int .i64 ((y - 1) / 4 - (y - 1) / 100 + (y - 1) / 400)) ∧ w' = w := by
  obtain ⟨a, ha⟩ : ∃ a, y - 1 = a := ⟨_, rfl⟩
  obtain ⟨p, hp⟩ : ∃ a', a / 4 = a' := ⟨_, rfl⟩
  obtain ⟨q, hq⟩ : ∃ a', a / 100 = a' := ⟨_, rfl⟩
  obtain ⟨r, hr⟩ : ∃ a', a / 400 = a' := ⟨_, rfl⟩
  have e0 : IntKind.i64.wrap (y - 1) = a := by rw [wrapI _ (by omega) (by omega)]; exact ha
  have e1 : a.tdiv 4 = p := by rw [Int.tdiv_eq_ediv_of_nonneg (by omega)]; exact hp
  have e2 : a.tdiv 100 = q := by rw [Int.tdiv_eq_ediv_of_nonneg (by omega)]; exact hq
  have e3 : a.tdiv 400 = r := by rw [Int.tdiv_eq_ediv_of_nonneg (by omega)]; exact hr
  have f1 : IntKind.i64.wrap p = p := wrapI _ (by omega) (by omega)
  have f2 : IntKind.i64.wrap q = q := wrapI _ (by omega) (by omega)
  have f3 : IntKind.i64.wrap r = r := wrapI _ (by omega) (by omega)
  have f4 : IntKind.i64.wrap (p - q) = p - q := wrapI _ (by omega) (by omega)
  have f5 : IntKind.i64.wrap (p - q + r) = p - q + r := wrapI _ (by omega) (by omega)
  rw [ha, hp, hq, hr]
  clear ha hp hq hr h1 h2
  go_enter Tryd.func31, Tryd.ntmps31
  go_wp2
  go_ret
  exact ⟨rfl, rfl⟩
set_option maxHeartbeats 400000 in
theorem daysAhead_any (y : Int) (h1 : 1 ≤ y) (h2 : y ≤ 20000) (w : World) : Calls Tryd.prog 19 #[.int .i64 y] w fun e w' => e = .returned (.int .i64 (hd y)) ∧ w' = w := by
  have A := leapsAhead_any y h1 h2
  obtain ⟨a, ha⟩ : ∃ a, y - 1 = a := ⟨_, rfl⟩
  obtain ⟨p, hp⟩ : ∃ p, (y - 1) / 4 - (y - 1) / 100 + (y - 1) / 400 = p := ⟨_, rfl⟩
  have H : hd y = 365 * a + p := by unfold hd; omega
  have e0 : IntKind.i64.wrap (y - 1) = a := by rw [wrapI _ (by omega) (by omega)]; exact ha
  have e1 : IntKind.i64.wrap (365 * a) = 365 * a := wrapI _ (by omega) (by omega)
  have e2 : IntKind.i64.wrap (365 * a + p) = 365 * a + p := wrapI _ (by omega) (by omega)
  rw [hp] at A
  rw [H]
  clear ha hp H h1 h2
  go_enter Tryd.func19, Tryd.ntmps19
  go_wp2_with (first | (go_at_call 31; refine (A _).mono ?_; rintro x w1 ⟨rfl, rfl⟩) | fail)
  go_ret
  exact ⟨rfl, rfl⟩
set_option maxHeartbeats 400000 in
theorem weekdayOf_any (n : Int) (h1 : 1 ≤ n) (h2 : n ≤ 4000000) (w : World) : Calls Tryd.prog 34 #[.int .i64 n] w fun e w' => e = .returned (.int .i64 ((n - 1) % 7 + 1)) ∧ w' = w := by
  obtain ⟨a, ha⟩ : ∃ a, n - 1 = a := ⟨_, rfl⟩
  obtain ⟨p, hp⟩ : ∃ a', a % 7 = a' := ⟨_, rfl⟩
  have e0 : IntKind.i64.wrap (n - 1) = a := by rw [wrapI _ (by omega) (by omega)]; exact ha
  have e1 : a.tmod 7 = p := by rw [Int.tmod_eq_emod_of_nonneg (by omega)]; exact hp
  have f1 : IntKind.i64.wrap p = p := wrapI _ (by omega) (by omega)
  have f2 : IntKind.i64.wrap (p + 1) = p + 1 := wrapI _ (by omega) (by omega)
  rw [ha, hp]
  clear ha hp h1 h2
  go_enter Tryd.func34, Tryd.ntmps34
  go_wp2
  go_ret
  exact ⟨rfl, rfl⟩
set_option maxHeartbeats 400000 in
theorem RWeekday_any (n : Int) (h1 : 1 ≤ n) (h2 : n ≤ 4000000) (w : World) : Calls Tryd.prog 36 #[.int .i64 n] w fun e w' => e = .returned (.int .i64 ((n - 1) % 7 + 1)) ∧ w' = w := by
  obtain ⟨a, ha⟩ : ∃ a, n - 1 = a := ⟨_, rfl⟩
  obtain ⟨p, hp⟩ : ∃ a', a % 7 = a' := ⟨_, rfl⟩
  have e0 : IntKind.i64.wrap (n - 1) = a := by rw [wrapI _ (by omega) (by omega)]; exact ha
  have e1 : a.tmod 7 = p := by rw [Int.tmod_eq_emod_of_nonneg (by omega)]; exact hp
  have f1 : IntKind.i64.wrap p = p := wrapI _ (by omega) (by omega)
  have f2 : IntKind.i64.wrap (p + 1) = p + 1 := wrapI _ (by omega) (by omega)
  rw [ha, hp]
  clear ha hp h1 h2
  go_enter Tryd.func36, Tryd.ntmps36
  go_wp2
  go_ret
  exact ⟨rfl, rfl⟩
set_option maxHeartbeats 400000 in
theorem size_any (y : Int) (h : 0 ≤ y) (w : World) : Calls Tryd.prog 37 #[.int .i64 y] w fun e w' => e = .returned (.int .i64 (sz (lp y))) ∧ w' = w := by
  have L := RLeap_any y h
  clear h
  generalize lp y = l at L ⊢
  cases l
  all_goals
    go_enter Tryd.func37, Tryd.ntmps37
    go_wp2_with (first | (go_at_call 35; refine (L _).mono ?_; rintro x w1 ⟨rfl, rfl⟩) | fail)
    go_ret
    exact ⟨rfl, rfl⟩
theorem hd_400 {q : Int} : hd (q * 400 + 1) = q * 146097 := by unfold hd; omega
set_option maxHeartbeats 400000 in
/-- The reference's ahead: year by year. -/
theorem ahead_any (y : Int) (h1 : 1 ≤ y) (h2 : y ≤ 20000) (w : World) : Calls Tryd.prog 25 #[.int .i64 y] w fun e w' => e = .returned (.int .i64 (hd y)) ∧ w' = w := by
  obtain ⟨a, ha⟩ : ∃ a, y - 1 = a := ⟨_, rfl⟩
  obtain ⟨q, hq⟩ : ∃ a', a / 400 = a' := ⟨_, rfl⟩
  have e0 : IntKind.i64.wrap (y - 1) = a := by rw [wrapI _ (by omega) (by omega)]; exact ha
  have e1 : a.tdiv 400 = q := by rw [Int.tdiv_eq_ediv_of_nonneg (by omega)]; exact hq
  have f0 : IntKind.i64.wrap q = q := wrapI _ (by omega) (by omega)
  have f1 : IntKind.i64.wrap (q * 146097) = q * 146097 := wrapI _ (by omega) (by omega)
  have f2 : IntKind.i64.wrap (q * 400) = q * 400 := wrapI _ (by omega) (by omega)
  have f3 : IntKind.i64.wrap (q * 400 + 1) = q * 400 + 1 := wrapI _ (by omega) (by omega)
  have i0 : 1 ≤ q * 400 + 1 ∧ q * 400 + 1 ≤ y := by omega
  clear hq ha
  go_enter Tryd.func25, Tryd.ntmps25
  go_wp2_with fail
  go_loop [3, 4] (fun n t => ∃ z : Int, 1 ≤ z ∧ z ≤ y ∧ t = .int .i64 z ∧ n = .int .i64 (hd z)) (fun _ t => (y - RowKit.intOf t).toNat)
  case atStart => exact ⟨_, i0.1, i0.2, rfl, by rw [hd_400]⟩
  case round =>
    obtain ⟨z, z1, z2, rfl, rfl⟩ := hrel
    by_cases c : z < y
    · have S := size_any z (by omega)
      have E : Hid (hd z + sz (lp z) = hd (z + 1)) := (hd_succ z).symm
      have hb := hd_bd z1
      have sb : sz (lp z) = 365 ∨ sz (lp z) = 366 := by cases lp z <;> decide
      have f5 : IntKind.i64.wrap (hd z + sz (lp z)) = hd z + sz (lp z) := wrapI _ (by omega) (by omega)
      have f6 : IntKind.i64.wrap (z + 1) = z + 1 := wrapI _ (by omega) (by omega)
      clear hb sb
      generalize hd z = H at *
      generalize sz (lp z) = S0 at *
      go_wp2_with (first | (go_at_call 37; refine (S _).mono ?_; rintro x w1 ⟨rfl, rfl⟩) | fail)
      go_round
      case rel => exact ⟨z + 1, by omega, by omega, rfl, by rw [E.out]⟩
      case measure => simp [RowKit.intOf]; omega
    · obtain rfl : z = y := by omega
      go_wp2_with fail
      go_ret
      exact ⟨rfl, rfl⟩
end Go.Proofs.YteepjipecfdkoaaDoor.Dy
