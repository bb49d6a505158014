import Derived.Test.YtohdbpnkenoclaaDoorDy9
namespace Go.Proofs.YtohdbpnkenoclaaDoor.Dy
open Go.RowKit Tn
/-- Easter, by the chapter's letters. -/
def eaH (y : Int) : Int := (19 * (y % 19) + y / 100 - y / 100 / 4 - (y / 100 - (y / 100 + 8) / 25 + 1) / 3 + 15) % 30
def eaL (y : Int) : Int := (32 + 2 * (y / 100 % 4) + 2 * (y % 100 / 4) - eaH y - y % 4) % 7
def eaN (y : Int) : Int := eaH y + eaL y - 7 * ((y % 19 + 11 * eaH y + 22 * eaL y) / 451) + 114
set_option maxHeartbeats 4000000 in
theorem REaster_any (y : Int) (h1 : 1 ≤ y) (h2 : y ≤ 9999) (w : World) : Calls Tryd.prog 14 #[.int .i64 y] w fun e w' => e = .returned (dt y (eaN y / 31) (eaN y % 31 + 1)) ∧ Below w.heap.size w w' := by
  unfold dt eaN eaL eaH
  go_enter Tryd.func14, Tryd.ntmps14
  go_wp2_with fail
  refine bodyPost_ret (v := .agg #[.int .i64 y, .int .i64 _, .int .i64 _]) (by simp [results, Tryd.results14, go_sem]) rfl ⟨rfl, bl _ _⟩
set_option maxHeartbeats 4000000 in
theorem Easter_any (y : Int) (w : World) : Calls Tryd.prog 12 #[.int .i64 y] w fun e w' => e = .returned (if yr y then .tuple #[dt y (eaN y / 31) (eaN y % 31 + 1), .int .i64 0] else .tuple #[dt 0 0 0, .int .i64 1]) ∧ Below w.heap.size w w' := by
  have Y := isYear_any y
  cases g : yr y
  · rw [g] at Y
    unfold dt
    go_enter Tryd.func12, Tryd.ntmps12
    go_wp2_with (first | (go_at_call 34; refine (Y _).mono ?_; rintro x w1 ⟨rfl, rfl⟩) | fail)
    exact bodyPost_ret (v := .tuple #[.agg #[.int .i64 0, .int .i64 0, .int .i64 0], .int .i64 1]) (by simp [results, Tryd.results12, go_sem]) rfl ⟨rfl, bl _ _⟩
  · rw [g] at Y
    obtain ⟨h1, h2⟩ := yr_iff.1 g
    rw [if_pos rfl]
    unfold dt eaN eaL eaH
    go_enter Tryd.func12, Tryd.ntmps12
    go_wp2_with (first | (go_at_call 34; refine (Y _).mono ?_; rintro x w1 ⟨rfl, rfl⟩) | fail)
    refine bodyPost_ret (v := .tuple #[.agg #[.int .i64 y, .int .i64 _, .int .i64 _], .int .i64 0]) (by simp [results, Tryd.results12, go_sem]) rfl ⟨rfl, bl _ _⟩
set_option maxHeartbeats 400000 in
theorem Leap_any (y : Int) (w : World) : Calls Tryd.prog 10 #[.int .i64 y] w fun e w' => e = .returned (.tuple #[.bool (yr y && lp y), .int .i64 (rg (yr y))]) ∧ w' = w := by
  have Y := isYear_any y
  cases g : yr y
  · rw [g] at Y
    unfold rg
    go_enter Tryd.func10, Tryd.ntmps10
    go_wp2_with (first | (go_at_call 34; refine (Y _).mono ?_; rintro x w1 ⟨rfl, rfl⟩) | fail)
    go_ret2
    exact ⟨rfl, rfl⟩
  · rw [g] at Y
    have L := isLeap_any y (by have := yr_iff.1 g; omega)
    generalize lp y = l at *
    unfold rg
    go_enter Tryd.func10, Tryd.ntmps10
    go_wp2_with (first | (go_at_call 34; refine (Y _).mono ?_; rintro x w1 ⟨rfl, rfl⟩) | (go_at_call 35; refine (L _).mono ?_; rintro x w1 ⟨rfl, rfl⟩) | fail)
    go_ret2
    exact ⟨rfl, rfl⟩
set_option maxHeartbeats 400000 in
theorem Length_any (y m : Int) (w : World) (G : Gl w) : Calls Tryd.prog 11 #[.int .i64 y, .int .i64 m] w fun e w' => e = .returned (.tuple #[.int .i64 (if yr y && mt m then ml (lp y) m else 0), .int .i64 (rg (yr y && mt m))]) ∧ w' = w := by
  have Y := isYear_any y
  have M := isMonth_any m
  cases g : yr y
  · rw [g] at Y
    unfold rg
    go_enter Tryd.func11, Tryd.ntmps11
    go_wp2_with (first | (go_at_call 34; refine (Y _).mono ?_; rintro x w1 ⟨rfl, rfl⟩) | fail)
    go_ret2
    exact ⟨rfl, rfl⟩
  cases h : mt m
  · rw [g] at Y
    rw [h] at M
    unfold rg
    go_enter Tryd.func11, Tryd.ntmps11
    go_wp2_with (first | (go_at_call 34; refine (Y _).mono ?_; rintro x w1 ⟨rfl, rfl⟩) | (go_at_call 36; refine (M _).mono ?_; rintro x w1 ⟨rfl, rfl⟩) | fail)
    go_ret2
    exact ⟨rfl, rfl⟩
  · rw [g] at Y
    rw [h] at M
    have L := lengthOf_any y m (by have := yr_iff.1 g; omega) (mt_iff.1 h).1 (mt_iff.1 h).2 w G
    generalize ml (lp y) m = l at *
    unfold rg
    go_enter Tryd.func11, Tryd.ntmps11
    go_wp2_with (first | (go_at_call 34; refine (Y _).mono ?_; rintro x w1 ⟨rfl, rfl⟩) | (go_at_call 36; refine (M _).mono ?_; rintro x w1 ⟨rfl, rfl⟩) | (go_at_call 37; refine L.mono ?_; rintro x w1 ⟨rfl, rfl⟩) | fail)
    go_ret2
    exact ⟨rfl, rfl⟩
set_option maxHeartbeats 400000 in
theorem names_any (w : World) : Calls Tryd.prog 9 #[] w fun e w' => e = .returned (.bool true) ∧ w' = w := by
  go_enter Tryd.func9, Tryd.ntmps9
  go_wp2
  go_ret
  exact ⟨rfl, rfl⟩
end Go.Proofs.YtohdbpnkenoclaaDoor.Dy
