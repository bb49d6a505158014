import Derived.Test.YtfalncbcomlelaaGreatDoorMt4
import Derived.Test.YtfalncbcomlelaaGreatDoorProg
import Derived.Test.YtfalncbcomlelaaGreatDoorMemL
import Derived.Laws.Strings
namespace Go.Proofs.YtfalncbcomlelaaGreatDoor.Mo
open Go.RowKit Go.Lib Dc

theorem empty_iff (s : ByteArray) : s.toList.isEmpty = decide (s.size = 0) := by
  rw [ByteArray.toList_eq, Bool.eq_iff_iff, List.isEmpty_iff, decide_eq_true_iff, ← List.length_eq_zero_iff, Array.length_toList]
  rfl
set_option maxHeartbeats 1600000 in
set_option maxRecDepth 100000 in
/-- exact.CutSign. -/
theorem CutSign_any (s : ByteArray) (w : World) (hs : s.size ≤ 9223372036854775807) :
    Calls Tryz.prog 65 #[.string s] w fun e w' => e = .returned (.tuple #[.bool (neg s), .string (rest s)]) ∧ Below w.heap.size w w' := by
  have he := empty_iff s
  by_cases h0 : s.size = 0
  · have hn : neg s = false := by unfold neg; rw [bt_out (by omega)]; decide
    have hr : rest s = s := by unfold rest; rw [hn]; rfl
    rw [hn, hr]
    rw [h0] at he
    simp at he
    go_enter Tryz.func65, Tryz.ntmps65
    go_wp2
    go_ret2
    exact ⟨rfl, Below.refl _ _⟩
  · have hp : 0 < s.size := by omega
    have he' : s.toList.isEmpty = false := by rw [he]; simp [h0]
    clear he
    have hb := bt_in hp
    rcases hn : neg s with _ | _
    · have hc : (((s[0].toNat : Int)) == 45) = false := by
        rw [beq_eq_false_iff_ne]
        have : ¬ bt s 0 = 45 := by simpa [neg] using hn
        rw [hb] at this
        omega
      have hr : rest s = s := by unfold rest; rw [hn]; rfl
      rw [hr]
      clear hb hn hr
      go_enter Tryz.func65, Tryz.ntmps65
      go_wp2
      go_ret2
      exact ⟨rfl, Below.refl _ _⟩
    · have hc : (((s[0].toNat : Int)) == 45) = true := by
        rw [beq_iff_eq]
        have : bt s 0 = 45 := by simpa [neg] using hn
        rw [hb] at this
        omega
      have hr : rest s = s.extract 1 s.size := by unfold rest; rw [hn]; rfl
      rw [hr]
      clear hb hn hr
      have h1 : (1 : Int) ≤ (s.size : Int) := by omega
      go_enter Tryz.func65, Tryz.ntmps65
      go_wp2_with fail
      go_region
      all_goals
        go_wp2
        go_ret2
        exact ⟨rfl, (by repeat (first | exact Below.refl _ _ | refine L.below_drewN ?_ _ | refine Below.drew ?_))⟩
end Go.Proofs.YtfalncbcomlelaaGreatDoor.Mo
