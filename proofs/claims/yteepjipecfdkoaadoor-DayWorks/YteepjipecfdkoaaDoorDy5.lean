import Derived.Test.YteepjipecfdkoaaDoorDy4
import Derived.Deep.RegionWith
namespace Go.Proofs.YteepjipecfdkoaaDoor.Dy
open Go.RowKit Tn
set_option maxHeartbeats 400000 in
theorem dayInYear_any (y m d : Int) (h1 : 0 ≤ y) (m1 : 1 ≤ m) (m2 : m ≤ 12) (d1 : 0 ≤ d) (d2 : d ≤ 31) (w : World) (G : Gl w) : Calls Tryd.prog 28 #[dt y m d] w fun e w' => e = .returned (.int .i64 (cu (lp y) m + d)) ∧ Below w.heap.size w w' := by
  have K0 := Blk.new w #[.int .i64 y, .int .i64 m, .int .i64 d] 23
  have pr := bl (w := w) #[.int .i64 y, .int .i64 m, .int .i64 d] 23
  have G' := G.alloc (.cells #[.int .i64 y, .int .i64 m, .int .i64 d] 23)
  unfold dt
  clear G
  go_enter Tryd.func28, Tryd.ntmps28
  go_wp2_with fail
  generalize w.alloc (.cells #[.int .i64 y, .int .i64 m, .int .i64 d] 23) = W at *
  have q0 : W.cell? ⟨w.heap.size, 0, none⟩ = some (.int .i64 y) := K0.at 0
  have q1 : W.cell? ⟨w.heap.size, 1, none⟩ = some (.int .i64 m) := K0.at 1
  clear K0
  go_loop [3, 4] (fun n t => ∃ z : Int, 1 ≤ z ∧ z ≤ m ∧ t = .int .i64 z ∧ n = .int .i64 (cu (lp y) z + d)) (fun _ t => (m - RowKit.intOf t).toNat)
  case atStart => exact ⟨1, by omega, by omega, rfl, by rw [cu_one]; simp⟩
  case round =>
    obtain ⟨z, z1, z2, rfl, rfl⟩ := hrel
    by_cases c : z < m
    · have S := lengthOf_any y z h1 z1 (by omega) W G'
      have cb := cu_bd (lp y) z1 (by omega)
      have sb : sz (lp y) = 365 ∨ sz (lp y) = 366 := by cases lp y <;> decide
      have mb := ml_bd (lp y) z
      have f6 : IntKind.i64.wrap (z + 1) = z + 1 := wrapI _ (by omega) (by omega)
      obtain ⟨H, hH⟩ : ∃ H, cu (lp y) z + d = H := ⟨_, rfl⟩
      have E : Hid (H + ml (lp y) z = cu (lp y) (z + 1) + d) := by show _ = _; rw [cu_succ _ z1 (by omega)]; omega
      have f5 : IntKind.i64.wrap (H + ml (lp y) z) = H + ml (lp y) z := wrapI _ (by omega) (by omega)
      rw [hH]
      clear cb sb mb hH
      generalize ml (lp y) z = S0 at *
      go_wp2_with (first | (go_at_call 20; refine S.mono ?_; rintro x w1 ⟨rfl, rfl⟩) | fail)
      go_round
      case rel => exact ⟨z + 1, by omega, by omega, rfl, by rw [E.out]⟩
      case measure => simp [RowKit.intOf]; omega
    · obtain rfl : z = m := by omega
      go_wp2_with fail
      go_ret
      exact ⟨rfl, pr⟩
set_option maxHeartbeats 400000 in
theorem numberOf_any (y m d : Int) (h1 : 1 ≤ y) (h2 : y ≤ 20000) (m1 : 1 ≤ m) (m2 : m ≤ 12) (d1 : 0 ≤ d) (d2 : d ≤ 31) (w : World) (G : Gl w) : Calls Tryd.prog 15 #[dt y m d] w fun e w' => e = .returned (.int .i64 (num y m d)) ∧ Below w.heap.size w w' := by
  have K0 := Blk.new w #[.int .i64 y, .int .i64 m, .int .i64 d] 23
  have pr := bl (w := w) #[.int .i64 y, .int .i64 m, .int .i64 d] 23
  have G' := G.alloc (.cells #[.int .i64 y, .int .i64 m, .int .i64 d] 23)
  have A := daysAhead_any y h1 h2
  have D := dayInYear_any y m d (by omega) m1 m2 d1 d2
  have cb := cu_bd (lp y) m1 m2
  have sb : sz (lp y) = 365 ∨ sz (lp y) = 366 := by cases lp y <;> decide
  have mb := ml_bd (lp y) m
  have hb := hd_bd h1
  have f5 : IntKind.i64.wrap (hd y + (cu (lp y) m + d)) = num y m d := by rw [wrapI _ (by omega) (by omega)]; unfold num; omega
  clear cb sb mb hb G h1 h2 m1 m2 d1 d2
  generalize num y m d = N at *
  generalize hd y = H at *
  generalize cu (lp y) m + d = C at *
  unfold dt at *
  go_enter Tryd.func15, Tryd.ntmps15
  go_wp2_with fail
  generalize w.alloc (.cells #[.int .i64 y, .int .i64 m, .int .i64 d] 23) = W at *
  have q0 : W.cell? ⟨w.heap.size, 0, none⟩ = some (.int .i64 y) := K0.at 0
  have q1 : W.cell? ⟨w.heap.size, 1, none⟩ = some (.int .i64 m) := K0.at 1
  have q2 : W.cell? ⟨w.heap.size, 2, none⟩ = some (.int .i64 d) := K0.at 2
  clear K0
  go_region_with (first
    | (go_at_call 19; refine (A _).mono ?_; rintro x w1 ⟨rfl, rfl⟩)
    | (go_at_call 28; refine (D _ (Gl.drew G' _)).mono ?_; rintro x w1 ⟨rfl, b1⟩))
  all_goals
    go_wp2_with fail
    go_ret
    exact ⟨rfl, belN pr b1⟩
set_option maxHeartbeats 400000 in
theorem Number_any (y m d : Int) (w : World) (G : Gl w) : Calls Tryd.prog 6 #[dt y m d] w fun e w' => e = .returned (.tuple #[.int .i64 (if good y m d then num y m d else 0), .int .i64 (er (good y m d))]) ∧ Below w.heap.size w w' := by
  have K0 := Blk.new w #[.int .i64 y, .int .i64 m, .int .i64 d] 23
  have pr := bl (w := w) #[.int .i64 y, .int .i64 m, .int .i64 d] 23
  have G' := G.alloc (.cells #[.int .i64 y, .int .i64 m, .int .i64 d] 23)
  have C := Check_any y m d
  clear G
  cases g : good y m d
  · rw [g] at C
    unfold dt er at *
    go_enter Tryd.func6, Tryd.ntmps6
    go_wp2_with (first
      | (go_at_call 14; refine (C _ G').mono ?_; rintro x w1 ⟨rfl, b1⟩)
      | fail)
    go_ret2
    exact ⟨rfl, belT pr b1⟩
  · have gg := good_iff.1 g
    have mb := ml_bd (lp y) m
    have N := numberOf_any y m d (by omega) (by omega) (by omega) (by omega) (by omega) (by omega)
    clear gg mb
    rw [g] at C
    clear g
    generalize num y m d = N0 at *
    unfold dt er at *
    go_enter Tryd.func6, Tryd.ntmps6
    go_wp2_with (first
      | (go_at_call 14; refine (C _ G').mono ?_; rintro x w1 ⟨rfl, b1⟩; have K1 := K0.below b1 K0.lt; have G1 := G'.grow b1; have k0 := K1.c0; have k1 := K1.c1; have k2 := K1.c2)
      | (go_at_call 15; refine (N _ G1).mono ?_; rintro x w2 ⟨rfl, b2⟩)
      | fail)
    go_ret2
    exact ⟨rfl, belT (belT pr b1) b2⟩
end Go.Proofs.YteepjipecfdkoaaDoor.Dy
