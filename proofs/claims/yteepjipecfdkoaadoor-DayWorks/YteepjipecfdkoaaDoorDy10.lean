import Derived.Test.YteepjipecfdkoaaDoorDy9
namespace Go.Proofs.YteepjipecfdkoaaDoor.Dy
open Go.RowKit Tn
set_option maxHeartbeats 400000 in
theorem monthsAhead_any (y m d : Int) (h1 : 0 ≤ y) (h2 : y ≤ 20000) (m1 : 0 ≤ m) (m2 : m ≤ 12) (w : World) : Calls Tryd.prog 10 #[dt y m d] w fun e w' => e = .returned (.int .i64 (mo y m)) ∧ Below w.heap.size w w' := by
  have pr := bl (w := w) #[.int .i64 y, .int .i64 m, .int .i64 d] 23
  have e1 : IntKind.i64.wrap (y - 1) = y - 1 := wrapI _ (by omega) (by omega)
  have e2 : IntKind.i64.wrap (12 * (y - 1)) = 12 * (y - 1) := wrapI _ (by omega) (by omega)
  have e3 : IntKind.i64.wrap (12 * (y - 1) + m) = 12 * (y - 1) + m := wrapI _ (by omega) (by omega)
  have e4 : IntKind.i64.wrap (12 * (y - 1) + m - 1) = mo y m := by rw [wrapI _ (by omega) (by omega)]; unfold mo; omega
  clear h1 h2 m1 m2
  generalize mo y m = a at *
  unfold dt
  go_enter Tryd.func10, Tryd.ntmps10
  go_wp2_with fail
  go_ret
  exact ⟨rfl, pr⟩
theorem min_ite (d L : Int) : min d L = if d ≤ L then d else L := by split <;> omega
end Go.Proofs.YteepjipecfdkoaaDoor.Dy
