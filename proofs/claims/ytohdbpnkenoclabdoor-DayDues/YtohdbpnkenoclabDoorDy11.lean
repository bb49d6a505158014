import Derived.Test.YtohdbpnkenoclabDoorDy10
namespace Go.Proofs.YtohdbpnkenoclabDoor.Dy
open Go.RowKit Tn
set_option maxHeartbeats 800000 in
theorem RMonths_low (y m d n b c k : Int) (w : World) (e1 : IntKind.i64.wrap (y * 12) = b) (e2 : IntKind.i64.wrap (b + m) = c) (e3 : IntKind.i64.wrap (c - 1) = c - 1) (e4 : IntKind.i64.wrap (c - 1 + n) = k) (hk : k < 12) :
    Calls Tryd.prog 34 #[dt y m d, .int .i64 n] w fun e w' => e = .returned (dt 0 0 0) ∧ Below w.heap.size w w' := by
  have pr := belT (bl (w := w) #[.int .i64 y, .int .i64 m, .int .i64 d] 23) (bl (w := w.alloc (.cells #[.int .i64 y, .int .i64 m, .int .i64 d] 23)) #[.int .i64 0, .int .i64 0, .int .i64 0] 23)
  unfold dt
  go_enter Tryd.func34, Tryd.ntmps34
  go_wp2_with fail
  exact bodyPost_ret (v := .agg #[.int .i64 0, .int .i64 0, .int .i64 0]) (by simp [results, Tryd.results34, go_sem]) rfl ⟨rfl, pr⟩
set_option maxHeartbeats 6400000 in
theorem RMonths_walk (y m d n b c k r Y M L D : Int) (w : World) (LO : ∀ W, Calls Tryd.prog 33 #[.int .i64 Y, .int .i64 M] W fun e w' => e = .returned (.int .i64 L) ∧ w' = W)
    (e1 : IntKind.i64.wrap (y * 12) = b) (e2 : IntKind.i64.wrap (b + m) = c) (e3 : IntKind.i64.wrap (c - 1) = c - 1) (e4 : IntKind.i64.wrap (c - 1 + n) = k) (hk : 12 ≤ k) (e5 : k.tdiv 12 = Y) (e6 : IntKind.i64.wrap Y = Y) (e7 : k.tmod 12 = r) (e8 : IntKind.i64.wrap (r + 1) = M) (hD : D = if d ≤ L then d else L) :
    Calls Tryd.prog 34 #[dt y m d, .int .i64 n] w fun e w' => e = .returned (dt Y M D) ∧ Below w.heap.size w w' := by
  have K0 := ((Blk.new w #[.int .i64 y, .int .i64 m, .int .i64 d] 23).alloc (.cells #[.int .i64 0, .int .i64 0, .int .i64 0] 23)).alloc (.cells #[.int .i64 Y, .int .i64 M, .int .i64 0] 23)
  have R0 := (Blk.new (w.alloc (.cells #[.int .i64 y, .int .i64 m, .int .i64 d] 23)) #[.int .i64 0, .int .i64 0, .int .i64 0] 23).alloc (.cells #[.int .i64 Y, .int .i64 M, .int .i64 0] 23)
  have O0 := Blk.new ((w.alloc (.cells #[.int .i64 y, .int .i64 m, .int .i64 d] 23)).alloc (.cells #[.int .i64 0, .int .i64 0, .int .i64 0] 23)) #[.int .i64 Y, .int .i64 M, .int .i64 0] 23
  have pr := belT (belT (bl (w := w) #[.int .i64 y, .int .i64 m, .int .i64 d] 23) (bl (w := w.alloc (.cells #[.int .i64 y, .int .i64 m, .int .i64 d] 23)) #[.int .i64 0, .int .i64 0, .int .i64 0] 23)) (bl (w := (w.alloc (.cells #[.int .i64 y, .int .i64 m, .int .i64 d] 23)).alloc (.cells #[.int .i64 0, .int .i64 0, .int .i64 0] 23)) #[.int .i64 Y, .int .i64 M, .int .i64 0] 23)
  rw [show ((w.alloc (.cells #[.int .i64 y, .int .i64 m, .int .i64 d] 23)).alloc (.cells #[.int .i64 0, .int .i64 0, .int .i64 0] 23)).heap.size = w.heap.size + 1 + 1 by simp] at O0
  rw [show (w.alloc (.cells #[.int .i64 y, .int .i64 m, .int .i64 d] 23)).heap.size = w.heap.size + 1 by simp] at R0
  unfold dt at *
  by_cases h : d ≤ L
  · rw [if_pos h] at hD
    rw [hD]
    clear hD
    go_enter Tryd.func34, Tryd.ntmps34
    go_wp2_with fail
    generalize ((w.alloc (.cells #[.int .i64 y, .int .i64 m, .int .i64 d] 23)).alloc (.cells #[.int .i64 0, .int .i64 0, .int .i64 0] 23)).alloc (.cells #[.int .i64 Y, .int .i64 M, .int .i64 0] 23) = V at *
    have k0 := K0.c0
    have k1 := K0.c1
    have k2 := K0.c2
    have r0 := R0.c0
    have r1 := R0.c1
    have r2 := R0.c2
    have o0 := O0.c0
    have o1 := O0.c1
    have o2 := O0.c2
    have f0 := R0.free 0
    have f1 := R0.free 1
    have f2 := R0.free 2
    have g2 := O0.free 2
    go_region_with (first
      | (go_at_call 33; refine (LO _).mono ?_; rintro x w2 ⟨rfl, rfl⟩))
    all_goals
      go_wp2_with fail
      have KE := dput3 (dskip R0 (show w.heap.size + 1 + 1 ≠ w.heap.size + 1 by omega) 2 (.int .i64 d)) Y M d
      have bE := dset3 (x := .int .i64 Y) (y := .int .i64 M) (z := .int .i64 d) (pr.setCell (p := ⟨w.heap.size + 1 + 1, 2, none⟩) (show w.heap.size ≤ w.heap.size + 1 + 1 by omega) (.int .i64 d)) (show w.heap.size ≤ w.heap.size + 1 by omega)
      generalize (((V.setCell ⟨w.heap.size + 1 + 1, 2, none⟩ (.int .i64 d)).setCell ⟨w.heap.size + 1, 0, none⟩ (.int .i64 Y)).setCell ⟨w.heap.size + 1, 1, none⟩ (.int .i64 M)).setCell ⟨w.heap.size + 1, 2, none⟩ (.int .i64 d) = WE at *
      have z0 : WE.drew.cell? ⟨w.heap.size + 1, 0, none⟩ = some (.int .i64 Y) := KE.c0
      have z1 : WE.drew.cell? ⟨w.heap.size + 1, 1, none⟩ = some (.int .i64 M) := KE.c1
      have z2 : WE.drew.cell? ⟨w.heap.size + 1, 2, none⟩ = some (.int .i64 d) := KE.c2
      exact bodyPost_ret (v := .agg #[.int .i64 Y, .int .i64 M, .int .i64 d]) (by simp [results, Tryd.results34, go_sem, z0, z1, z2]) rfl ⟨rfl, ⟨bE.os, bE.tape, bE.output, bE.size, bE.block⟩⟩
  · rw [if_neg h] at hD
    rw [hD]
    clear hD
    replace h : L < d := by omega
    go_enter Tryd.func34, Tryd.ntmps34
    go_wp2_with fail
    generalize ((w.alloc (.cells #[.int .i64 y, .int .i64 m, .int .i64 d] 23)).alloc (.cells #[.int .i64 0, .int .i64 0, .int .i64 0] 23)).alloc (.cells #[.int .i64 Y, .int .i64 M, .int .i64 0] 23) = V at *
    have k0 := K0.c0
    have k1 := K0.c1
    have k2 := K0.c2
    have r0 := R0.c0
    have r1 := R0.c1
    have r2 := R0.c2
    have o0 := O0.c0
    have o1 := O0.c1
    have o2 := O0.c2
    have f0 := R0.free 0
    have f1 := R0.free 1
    have f2 := R0.free 2
    have g2 := O0.free 2
    go_region_with (first
      | (go_at_call 33; refine (LO _).mono ?_; rintro x w2 ⟨rfl, rfl⟩))
    all_goals
      go_wp2_with fail
      have KE := dput3 (dskip R0 (show w.heap.size + 1 + 1 ≠ w.heap.size + 1 by omega) 2 (.int .i64 L)) Y M L
      have bE := dset3 (x := .int .i64 Y) (y := .int .i64 M) (z := .int .i64 L) (pr.setCell (p := ⟨w.heap.size + 1 + 1, 2, none⟩) (show w.heap.size ≤ w.heap.size + 1 + 1 by omega) (.int .i64 L)) (show w.heap.size ≤ w.heap.size + 1 by omega)
      generalize (((V.setCell ⟨w.heap.size + 1 + 1, 2, none⟩ (.int .i64 L)).setCell ⟨w.heap.size + 1, 0, none⟩ (.int .i64 Y)).setCell ⟨w.heap.size + 1, 1, none⟩ (.int .i64 M)).setCell ⟨w.heap.size + 1, 2, none⟩ (.int .i64 L) = WE at *
      have z0 : WE.drew.cell? ⟨w.heap.size + 1, 0, none⟩ = some (.int .i64 Y) := KE.c0
      have z1 : WE.drew.cell? ⟨w.heap.size + 1, 1, none⟩ = some (.int .i64 M) := KE.c1
      have z2 : WE.drew.cell? ⟨w.heap.size + 1, 2, none⟩ = some (.int .i64 L) := KE.c2
      exact bodyPost_ret (v := .agg #[.int .i64 Y, .int .i64 M, .int .i64 L]) (by simp [results, Tryd.results34, go_sem, z0, z1, z2]) rfl ⟨rfl, ⟨bE.os, bE.tape, bE.output, bE.size, bE.block⟩⟩
theorem RMonths_bad (y m d n : Int) (h1 : 0 ≤ y) (h2 : y ≤ 20000) (m1 : 0 ≤ m) (m2 : m ≤ 12) (n1 : -200000 ≤ n) (a0 : mo y m + n < 0) (w : World) :
    Calls Tryd.prog 34 #[dt y m d, .int .i64 n] w fun e w' => e = .returned (dt 0 0 0) ∧ Below w.heap.size w w' := by
  unfold mo at a0
  refine RMonths_low y m d n (y * 12) (y * 12 + m) (y * 12 + m - 1 + n) w ?_ ?_ ?_ ?_ (by omega)
  all_goals exact wrapI _ (by omega) (by omega)
theorem RMonths_any (y m d n : Int) (h1 : 0 ≤ y) (h2 : y ≤ 20000) (m1 : 0 ≤ m) (m2 : m ≤ 12) (a0 : 0 ≤ mo y m + n) (a1 : mo y m + n ≤ 500000) (w : World) :
    Calls Tryd.prog 34 #[dt y m d, .int .i64 n] w fun e w' => e = .returned (dt ((mo y m + n) / 12 + 1) ((mo y m + n) % 12 + 1) (min d (mk (mo y m + n)))) ∧ Below w.heap.size w w' := by
  have hb : mo y m = 12 * (y - 1) + (m - 1) := rfl
  generalize mo y m = b at *
  obtain ⟨a, ha⟩ : ∃ a, b + n = a := ⟨_, rfl⟩
  rw [ha] at a0 a1 ⊢
  have LO := fun W => RLength_any (a / 12 + 1) (a % 12 + 1) (by omega) (by omega) (by omega) W
  refine RMonths_walk y m d n (y * 12) (y * 12 + m) (y * 12 + m - 1 + n) (a % 12) _ _ (mk a) _ w LO ?_ ?_ ?_ ?_ (by omega) ?_ ?_ ?_ ?_ (min_ite _ _)
  · exact wrapI _ (by omega) (by omega)
  · exact wrapI _ (by omega) (by omega)
  · exact wrapI _ (by omega) (by omega)
  · exact wrapI _ (by omega) (by omega)
  · rw [Int.tdiv_eq_ediv_of_nonneg (by omega)]; omega
  · exact wrapI _ (by omega) (by omega)
  · rw [Int.tmod_eq_emod_of_nonneg (by omega)]; omega
  · exact wrapI _ (by omega) (by omega)
end Go.Proofs.YtohdbpnkenoclabDoor.Dy
