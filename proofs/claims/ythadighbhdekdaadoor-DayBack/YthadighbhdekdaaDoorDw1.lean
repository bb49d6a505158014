import Derived.Test.YthadighbhdekdaaDoorDy9
namespace Go.Proofs.YthadighbhdekdaaDoor.Dy
open Go.RowKit Tn
/-- Easter, by the chapter's letters. -/
def eaH (y : Int) : Int := (19 * (y % 19) + y / 100 - y / 100 / 4 - (y / 100 - (y / 100 + 8) / 25 + 1) / 3 + 15) % 30
def eaL (y : Int) : Int := (32 + 2 * (y / 100 % 4) + 2 * (y % 100 / 4) - eaH y - y % 4) % 7
def eaN (y : Int) : Int := eaH y + eaL y - 7 * ((y % 19 + 11 * eaH y + 22 * eaL y) / 451) + 114
set_option maxHeartbeats 4000000 in
theorem Easter_any (y : Int) (w : World) : Calls Tryd.prog 27 #[.int .i64 y] w fun e w' => e = .returned (if yr y then .tuple #[dt y (eaN y / 31) (eaN y % 31 + 1), .int .i64 0] else .tuple #[dt 0 0 0, .int .i64 1]) ∧ Below w.heap.size w w' := by
  have Y := isYear_any y
  cases g : yr y
  · rw [g] at Y
    unfold dt
    go_enter Tryd.func27, Tryd.ntmps27
    go_wp2_with (first | (go_at_call 40; refine (Y _).mono ?_; rintro x w1 ⟨rfl, rfl⟩) | fail)
    exact bodyPost_ret (v := .tuple #[.agg #[.int .i64 0, .int .i64 0, .int .i64 0], .int .i64 1]) (by simp [results, Tryd.results27, go_sem]) rfl ⟨rfl, bl _ _⟩
  · rw [g] at Y
    obtain ⟨h1, h2⟩ := yr_iff.1 g
    rw [if_pos rfl]
    unfold dt eaN eaL eaH
    go_enter Tryd.func27, Tryd.ntmps27
    go_wp2_with (first | (go_at_call 40; refine (Y _).mono ?_; rintro x w1 ⟨rfl, rfl⟩) | fail)
    refine bodyPost_ret (v := .tuple #[.agg #[.int .i64 y, .int .i64 _, .int .i64 _], .int .i64 0]) (by simp [results, Tryd.results27, go_sem]) rfl ⟨rfl, bl _ _⟩
end Go.Proofs.YthadighbhdekdaaDoor.Dy
