import Derived.Test.YteepjipecfdkoaaDoorDy5
namespace Go.Proofs.YteepjipecfdkoaaDoor.Dy
open Go.RowKit Tn
set_option maxHeartbeats 400000 in
theorem RNumber_any (y m d : Int) (h1 : 1 ≤ y) (h2 : y ≤ 20000) (m1 : 1 ≤ m) (m2 : m ≤ 12) (d1 : 0 ≤ d) (d2 : d ≤ 31) (w : World) : Calls Tryd.prog 13 #[dt y m d] w fun e w' => e = .returned (.int .i64 (num y m d)) ∧ Below w.heap.size w w' := by
  have K0 := Blk.new w #[.int .i64 y, .int .i64 m, .int .i64 d] 23
  have pr := bl (w := w) #[.int .i64 y, .int .i64 m, .int .i64 d] 23
  have A := ahead_any y h1 h2
  have hb := hd_bd h1
  have f5 : IntKind.i64.wrap (hd y + d) = hd y + d := wrapI _ (by omega) (by omega)
  unfold dt
  go_enter Tryd.func13, Tryd.ntmps13
  go_wp2_with fail
  generalize w.alloc (.cells #[.int .i64 y, .int .i64 m, .int .i64 d] 23) = W at *
  have q0 := K0.c0
  have q1 := K0.c1
  have q2 := K0.c2
  clear K0
  go_quiet ((go_at_call 25; exact Calls.quiet_of_same (A _)))
  have q0' : (W.drewN nq).cell? ⟨w.heap.size, 0, none⟩ = some (.int .i64 y) := q0
  have q1' : (W.drewN nq).cell? ⟨w.heap.size, 1, none⟩ = some (.int .i64 m) := q1
  have pr' := blN (n := nq) pr
  clear q0 q1 q2 pr A
  generalize W.drewN nq = V at *
  go_wp2_with fail
  trace_state
  go_loop [3, 4] (fun n t => ∃ z : Int, 1 ≤ z ∧ z ≤ m ∧ t = .int .i64 z ∧ n = .int .i64 (hd y + cu (lp y) z + d)) (fun _ t => (m - RowKit.intOf t).toNat)
  case atStart => exact ⟨1, by omega, by omega, rfl, by rw [cu_one]; simp⟩
  case round =>
    obtain ⟨z, z1, z2, rfl, rfl⟩ := hrel
    by_cases c : z < m
    · have S := RLength_any y z (by omega) z1 (by omega)
      have cb := cu_bd (lp y) z1 (by omega)
      have sb : sz (lp y) = 365 ∨ sz (lp y) = 366 := by cases lp y <;> decide
      have mb := ml_bd (lp y) z
      have f6 : IntKind.i64.wrap (z + 1) = z + 1 := wrapI _ (by omega) (by omega)
      obtain ⟨H, hH⟩ : ∃ H, hd y + cu (lp y) z + d = H := ⟨_, rfl⟩
      have E : Hid (H + ml (lp y) z = hd y + cu (lp y) (z + 1) + d) := by show _ = _; rw [cu_succ _ z1 (by omega)]; omega
      have f5 : IntKind.i64.wrap (H + ml (lp y) z) = H + ml (lp y) z := wrapI _ (by omega) (by omega)
      rw [hH]
      clear cb sb mb hH hb
      generalize ml (lp y) z = S0 at *
      go_wp2_with (first | (go_at_call 22; refine (S _).mono ?_; rintro x w1 ⟨rfl, rfl⟩) | fail)
      go_round
      case rel => exact ⟨z + 1, by omega, by omega, rfl, by rw [E.out]⟩
      case measure => simp [RowKit.intOf]; omega
    · obtain rfl : z = m := by omega
      go_wp2_with fail
      go_ret
      exact ⟨rfl, pr'⟩
end Go.Proofs.YteepjipecfdkoaaDoor.Dy
