import Derived.Test.YtohdbpnkenoclabDoorDy3
namespace Go.Proofs.YtohdbpnkenoclabDoor.Dy
open Go.RowKit Tn

set_option maxHeartbeats 400000 in
theorem leapsAhead_any (y : Int) (h1 : 1 ≤ y) (h2 : y ≤ 20000) (w : World) : Calls Tryd.prog 36 #[.int .i64 y] w fun e w' => e = .returned (.int .i64 ((y - 1) / 4 - (y - 1) / 100 + (y - 1) / 400)) ∧ w' = w := by
  obtain ⟨a, ha⟩ : ∃ a, y - 1 = a := ⟨_, rfl⟩
  obtain ⟨p, hp⟩ : ∃ a', a / 4 = a' := ⟨_, rfl⟩
  obtain ⟨q, hq⟩ : ∃ a', a / 100 = a' := ⟨_, rfl⟩
  obtain ⟨r, hr⟩ : ∃ a', a / 400 = a' := ⟨_, rfl⟩
  have e0 : IntKind.i64.wrap (y - 1) = a := by rw [wrapI _ (by omega) (by omega)]; exact ha
  have e1 : a.tdiv 4 = p := by rw [Int.tdiv_eq_ediv_of_nonneg (by omega)]; exact hp
  have e2 : a.tdiv 100 = q := by rw [Int.tdiv_eq_ediv_of_nonneg (by omega)]; exact hq
  have e3 : a.tdiv 400 = r := by rw [Int.tdiv_eq_ediv_of_nonneg (by omega)]; exact hr
  have f1 : IntKind.i64.wrap p = p := wrapI _ (by omega) (by omega)
  have f2 : IntKind.i64.wrap q = q := wrapI _ (by omega) (by omega)
  have f3 : IntKind.i64.wrap r = r := wrapI _ (by omega) (by omega)
  have f4 : IntKind.i64.wrap (p - q) = p - q := wrapI _ (by omega) (by omega)
  have f5 : IntKind.i64.wrap (p - q + r) = p - q + r := wrapI _ (by omega) (by omega)
  rw [ha, hp, hq, hr]
  clear ha hp hq hr h1 h2
  go_enter Tryd.func36, Tryd.ntmps36
  go_wp2
  go_ret
  exact ⟨rfl, rfl⟩
set_option maxHeartbeats 400000 in
theorem daysAhead_any (y : Int) (h1 : 1 ≤ y) (h2 : y ≤ 20000) (w : World) : Calls Tryd.prog 29 #[.int .i64 y] w fun e w' => e = .returned (.int .i64 (hd y)) ∧ w' = w := by
  have A := leapsAhead_any y h1 h2
  obtain ⟨a, ha⟩ : ∃ a, y - 1 = a := ⟨_, rfl⟩
  obtain ⟨p, hp⟩ : ∃ p, (y - 1) / 4 - (y - 1) / 100 + (y - 1) / 400 = p := ⟨_, rfl⟩
  have H : hd y = 365 * a + p := by unfold hd; omega
  have e0 : IntKind.i64.wrap (y - 1) = a := by rw [wrapI _ (by omega) (by omega)]; exact ha
  have e1 : IntKind.i64.wrap (365 * a) = 365 * a := wrapI _ (by omega) (by omega)
  have e2 : IntKind.i64.wrap (365 * a + p) = 365 * a + p := wrapI _ (by omega) (by omega)
  rw [hp] at A
  rw [H]
  clear ha hp H h1 h2
  go_enter Tryd.func29, Tryd.ntmps29
  go_wp2_with (first | (go_at_call 36; refine (A _).mono ?_; rintro x w1 ⟨rfl, rfl⟩) | fail)
  go_ret
  exact ⟨rfl, rfl⟩
set_option maxHeartbeats 400000 in
theorem oneMore_any (n : Int) (b : Bool) (h1 : 0 ≤ n) (h2 : n ≤ 20000) (w : World) : Calls Tryd.prog 19 #[.int .i64 n, .bool b] w fun e w' => e = .returned (.int .i64 (if b then n + 1 else n)) ∧ w' = w := by
  have e0 : IntKind.i64.wrap (n + 1) = n + 1 := wrapI _ (by omega) (by omega)
  clear h1 h2
  cases b
  all_goals
    go_enter Tryd.func19, Tryd.ntmps19
    go_wp2
    go_ret
    exact ⟨rfl, rfl⟩
theorem hd_400 {q : Int} : hd (q * 400 + 1) = q * 146097 := by unfold hd; omega
end Go.Proofs.YtohdbpnkenoclabDoor.Dy
