import Derived.Test.YthadighbhdekdaaDoorDy9
namespace Go.Proofs.YthadighbhdekdaaDoor.Dy
open Go.RowKit Tn
set_option maxHeartbeats 400000 in
theorem monthsAhead_any (y m d : Int) (h1 : 0 ≤ y) (h2 : y ≤ 20000) (m1 : 0 ≤ m) (m2 : m ≤ 12) (w : World) : Calls Tryd.prog 37 #[dt y m d] w fun e w' => e = .returned (.int .i64 (mo y m)) ∧ Below w.heap.size w w' := by
  have pr := bl (w := w) #[.int .i64 y, .int .i64 m, .int .i64 d] 23
  have e1 : IntKind.i64.wrap (y - 1) = y - 1 := wrapI _ (by omega) (by omega)
  have e2 : IntKind.i64.wrap (12 * (y - 1)) = 12 * (y - 1) := wrapI _ (by omega) (by omega)
  have e3 : IntKind.i64.wrap (12 * (y - 1) + m) = 12 * (y - 1) + m := wrapI _ (by omega) (by omega)
  have e4 : IntKind.i64.wrap (12 * (y - 1) + m - 1) = mo y m := by rw [wrapI _ (by omega) (by omega)]; unfold mo; omega
  clear h1 h2 m1 m2
  generalize mo y m = a at *
  unfold dt
  go_enter Tryd.func37, Tryd.ntmps37
  go_wp2_with fail
  go_ret
  exact ⟨rfl, pr⟩
set_option maxHeartbeats 800000 in
theorem monthsOn_walk (y m d n a b q r Y M L D : Int) (w : World) (G : Gl w) (A : ∀ W, Calls Tryd.prog 37 #[dt y m d] W fun e w' => e = .returned (.int .i64 b) ∧ Below W.heap.size W w')
    (LO : ∀ W, Gl W → Calls Tryd.prog 32 #[.int .i64 Y, .int .i64 M] W fun e w' => e = .returned (.int .i64 L) ∧ w' = W)
    (e1 : IntKind.i64.wrap (b + n) = a) (e2 : a.tdiv 12 = q) (e3 : IntKind.i64.wrap q = q) (e4 : IntKind.i64.wrap (1 + q) = Y) (e5 : a.tmod 12 = r) (e7 : IntKind.i64.wrap (1 + r) = M) (hD : D = if d ≤ L then d else L) :
    Calls Tryd.prog 46 #[dt y m d, .int .i64 n] w fun e w' => e = .returned (dt Y M D) ∧ Below w.heap.size w w' := by
  have K0 := (Blk.new w #[.int .i64 y, .int .i64 m, .int .i64 d] 23).alloc (.cells #[.int .i64 0, .int .i64 0, .int .i64 0] 23)
  have R0 := Blk.new (w.alloc (.cells #[.int .i64 y, .int .i64 m, .int .i64 d] 23)) #[.int .i64 0, .int .i64 0, .int .i64 0] 23
  rw [show (w.alloc (.cells #[.int .i64 y, .int .i64 m, .int .i64 d] 23)).heap.size = w.heap.size + 1 by simp] at R0
  have pr := belT (bl (w := w) #[.int .i64 y, .int .i64 m, .int .i64 d] 23) (bl (w := w.alloc (.cells #[.int .i64 y, .int .i64 m, .int .i64 d] 23)) #[.int .i64 0, .int .i64 0, .int .i64 0] 23)
  have G0 := (G.alloc (.cells #[.int .i64 y, .int .i64 m, .int .i64 d] 23)).alloc (.cells #[.int .i64 0, .int .i64 0, .int .i64 0] 23)
  unfold dt at *
  by_cases c : d ≤ L
  · rw [if_pos c] at hD
    rw [hD]
    clear hD
    go_enter Tryd.func46, Tryd.ntmps46
    go_wp2_with (first
      | (go_at_call 37; refine (A _).mono ?_; rintro x w1 ⟨rfl, b1⟩; have K1 := K0.below b1 K0.lt; have R1 := R0.below b1 R0.lt; have G1 := G0.grow b1; have p1 := belT pr b1; have k0 := K1.c0; have k1 := K1.c1; have k2 := K1.c2; have r0 := R1.c0; have r1 := R1.c1; have r2 := R1.c2; have f0 := R1.free 0; have f1 := R1.free 1; have f2 := R1.free 2)
      | fail)
    go_region_with (first
      | (go_at_call 32; refine (LO _ (Gl.drew G1 _)).mono ?_; rintro x w2 ⟨rfl, rfl⟩))
    all_goals
      go_wp2_with fail
      have KE := dput3 (show Blk (w1.drewN 1) _ _ _ from R1) Y M d
      have bE := dset3 (x := .int .i64 Y) (y := .int .i64 M) (z := .int .i64 d) (blN (n := 1) p1) (show w.heap.size ≤ w.heap.size + 1 by omega)
      generalize (((w1.drewN 1).setCell ⟨w.heap.size + 1, 0, none⟩ (.int .i64 Y)).setCell ⟨w.heap.size + 1, 1, none⟩ (.int .i64 M)).setCell ⟨w.heap.size + 1, 2, none⟩ (.int .i64 d) = WE at *
      have z0 := KE.c0
      have z1 := KE.c1
      have z2 := KE.c2
      exact bodyPost_ret (v := .agg #[.int .i64 Y, .int .i64 M, .int .i64 d]) (by simp [results, Tryd.results46, go_sem, z0, z1, z2]) rfl ⟨rfl, bE⟩
  · rw [if_neg c] at hD
    rw [hD]
    clear hD
    replace c : L < d := by omega
    go_enter Tryd.func46, Tryd.ntmps46
    go_wp2_with (first
      | (go_at_call 37; refine (A _).mono ?_; rintro x w1 ⟨rfl, b1⟩; have K1 := K0.below b1 K0.lt; have R1 := R0.below b1 R0.lt; have G1 := G0.grow b1; have p1 := belT pr b1; have k0 := K1.c0; have k1 := K1.c1; have k2 := K1.c2; have r0 := R1.c0; have r1 := R1.c1; have r2 := R1.c2; have f0 := R1.free 0; have f1 := R1.free 1; have f2 := R1.free 2)
      | fail)
    go_region_with (first
      | (go_at_call 32; refine (LO _ (Gl.drew G1 _)).mono ?_; rintro x w2 ⟨rfl, rfl⟩))
    all_goals
      go_wp2_with fail
      have KE := dput3 (show Blk (w1.drewN 1) _ _ _ from R1) Y M L
      have bE := dset3 (x := .int .i64 Y) (y := .int .i64 M) (z := .int .i64 L) (blN (n := 1) p1) (show w.heap.size ≤ w.heap.size + 1 by omega)
      generalize (((w1.drewN 1).setCell ⟨w.heap.size + 1, 0, none⟩ (.int .i64 Y)).setCell ⟨w.heap.size + 1, 1, none⟩ (.int .i64 M)).setCell ⟨w.heap.size + 1, 2, none⟩ (.int .i64 L) = WE at *
      have z0 := KE.c0
      have z1 := KE.c1
      have z2 := KE.c2
      exact bodyPost_ret (v := .agg #[.int .i64 Y, .int .i64 M, .int .i64 L]) (by simp [results, Tryd.results46, go_sem, z0, z1, z2]) rfl ⟨rfl, bE⟩
theorem min_ite (d L : Int) : min d L = if d ≤ L then d else L := by split <;> omega
theorem monthsOn_any (y m d n : Int) (h1 : 0 ≤ y) (h2 : y ≤ 20000) (m1 : 0 ≤ m) (m2 : m ≤ 12) (a0 : 0 ≤ mo y m + n) (a1 : mo y m + n ≤ 200000) (w : World) (G : Gl w) :
    Calls Tryd.prog 46 #[dt y m d, .int .i64 n] w fun e w' => e = .returned (dt ((mo y m + n) / 12 + 1) ((mo y m + n) % 12 + 1) (min d (mk (mo y m + n)))) ∧ Below w.heap.size w w' := by
  have A := monthsAhead_any y m d h1 h2 m1 m2
  have hb : mo y m = 12 * (y - 1) + (m - 1) := rfl
  generalize mo y m = b at *
  obtain ⟨a, ha⟩ : ∃ a, b + n = a := ⟨_, rfl⟩
  rw [ha] at a0 a1 ⊢
  have LO := fun W g => lengthOf_any (a / 12 + 1) (a % 12 + 1) (by omega) (by omega) (by omega) W g
  refine monthsOn_walk y m d n a b (a / 12) (a % 12) _ _ (mk a) _ w G A LO ?_ ?_ ?_ ?_ ?_ ?_ (min_ite _ _)
  · rw [wrapI _ (by omega) (by omega)]; exact ha
  · rw [Int.tdiv_eq_ediv_of_nonneg (by omega)]
  · exact wrapI _ (by omega) (by omega)
  · rw [wrapI _ (by omega) (by omega)]; omega
  · rw [Int.tmod_eq_emod_of_nonneg (by omega)]
  · rw [wrapI _ (by omega) (by omega)]; omega
end Go.Proofs.YthadighbhdekdaaDoor.Dy
