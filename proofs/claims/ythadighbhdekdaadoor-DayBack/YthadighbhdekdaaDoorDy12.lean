import Derived.Test.YthadighbhdekdaaDoorDy10
namespace Go.Proofs.YthadighbhdekdaaDoor.Dy
open Go.RowKit Tn
set_option maxHeartbeats 400000 in
theorem isWithin_any (f n l h : Int) (f0 : 0 ≤ f) (f1 : f ≤ 4000000) (l0 : 0 ≤ l) (l1 : l ≤ 4000000) (h0 : 0 ≤ h) (h1 : h ≤ 4000000) (w : World) :
    Calls Tryd.prog 33 #[.int .i64 f, .int .i64 n, .int .i64 l, .int .i64 h] w fun e w' => e = .returned (.bool (decide (l ≤ f + n ∧ f + n ≤ h))) ∧ w' = w := by
  have e1 : IntKind.i64.wrap (l - f) = l - f := wrapI _ (by omega) (by omega)
  have e2 : IntKind.i64.wrap (h - f) = h - f := wrapI _ (by omega) (by omega)
  obtain ⟨p, hp⟩ : ∃ p, decide (n ≥ l - f) = p := ⟨_, rfl⟩
  obtain ⟨q, hq⟩ : ∃ q, decide (n ≤ h - f) = q := ⟨_, rfl⟩
  have R : decide (l ≤ f + n ∧ f + n ≤ h) = (p && q) := by
    rw [← hp, ← hq, Bool.eq_iff_iff]; simp; omega
  rw [R]
  clear R f0 f1 l0 l1 h0 h1
  cases p <;> cases q
  all_goals
    go_enter Tryd.func33, Tryd.ntmps33
    go_wp2_with fail
    go_ret
    exact ⟨rfl, rfl⟩
/-- What Days tells. -/
def dys (y m d n : Int) : Value := if good y m d then .tuple #[dt (fy (num y m d + n)) (fm (num y m d + n)) (fd (num y m d + n)), .int .i64 (rg (nr (num y m d + n)))] else .tuple #[dt 0 0 0, .int .i64 70]
set_option maxHeartbeats 400000 in
theorem Days_any (y m d n : Int) (w : World) (G : Gl w) : Calls Tryd.prog 15 #[dt y m d, .int .i64 n] w fun e w' => e = .returned (dys y m d n) ∧ Below w.heap.size w w' := by
  have Ka0 := (Blk.new w #[.int .i64 y, .int .i64 m, .int .i64 d] 23).alloc (.cells #[.int .i64 0, .int .i64 0, .int .i64 0] 23)
  have R0 := Blk.new (w.alloc (.cells #[.int .i64 y, .int .i64 m, .int .i64 d] 23)) #[.int .i64 0, .int .i64 0, .int .i64 0] 23
  rw [show (w.alloc (.cells #[.int .i64 y, .int .i64 m, .int .i64 d] 23)).heap.size = w.heap.size + 1 by simp] at R0
  have pr := belT (bl (w := w) #[.int .i64 y, .int .i64 m, .int .i64 d] 23) (bl (w := (w.alloc (.cells #[.int .i64 y, .int .i64 m, .int .i64 d] 23))) #[.int .i64 0, .int .i64 0, .int .i64 0] 23)
  have G0 := ((G).alloc (.cells #[.int .i64 y, .int .i64 m, .int .i64 d] 23)).alloc (.cells #[.int .i64 0, .int .i64 0, .int .i64 0] 23)
  have N := Number_any y m d
  clear G
  unfold dys
  cases g : good y m d
  · rw [g] at N
    unfold dt er at *
    go_enter Tryd.func15, Tryd.ntmps15
    go_wp2_with (first
      | (go_at_call 13; refine (N _ G0).mono ?_; rintro x w1 ⟨rfl, b1⟩; have Ka1 := Ka0.below b1 Ka0.lt; have ka10 := Ka1.c0; have ka11 := Ka1.c1; have ka12 := Ka1.c2; have R1 := R0.below b1 R0.lt; have r10 := R1.c0; have r11 := R1.c1; have r12 := R1.c2; have rf10 := R1.free 0; have rf11 := R1.free 1; have rf12 := R1.free 2; have G1 := G0.grow b1; have p1 := belT pr b1)
      | fail)
    have KE := dput3 R1 (0) (0) (0)
    have bE := dset3 (x := .int .i64 (0)) (y := .int .i64 (0)) (z := .int .i64 (0)) p1 (show w.heap.size ≤ w.heap.size + 1 by omega)
    generalize ((w1.setCell ⟨w.heap.size + 1, 0, none⟩ (.int .i64 (0))).setCell ⟨w.heap.size + 1, 1, none⟩ (.int .i64 (0))).setCell ⟨w.heap.size + 1, 2, none⟩ (.int .i64 (0)) = WE at *
    have z0 := KE.c0
    have z1 := KE.c1
    have z2 := KE.c2
    exact bodyPost_ret (v := .tuple #[.agg #[.int .i64 0, .int .i64 0, .int .i64 0], .int .i64 70]) (by simp [results, Tryd.results15, go_sem, z0, z1, z2]) rfl ⟨rfl, bE⟩
  · rw [g] at N
    have lo := num_lo g
    have hi := num_hi g
    have I := isWithin_any (num y m d) n 1 3652059 (by omega) (by omega) (by omega) (by omega) (by omega) (by omega)
    have FN := FromNumber_any (num y m d + n)
    clear g
    generalize num y m d = N0 at *
    have hI : decide (1 ≤ N0 + n ∧ N0 + n ≤ 3652059) = nr (N0 + n) := rfl
    rw [hI] at I
    clear hI
    cases h : nr (N0 + n)
    · obtain ⟨q1, q2, q3⟩ := fr_bad h
      rw [q1, q2, q3]
      rw [h] at I
      clear FN q1 q2 q3
      unfold dt er rg at *
      go_enter Tryd.func15, Tryd.ntmps15
      go_wp2_with (first
        | (go_at_call 13; refine (N _ G0).mono ?_; rintro x w1 ⟨rfl, b1⟩; have Ka1 := Ka0.below b1 Ka0.lt; have ka10 := Ka1.c0; have ka11 := Ka1.c1; have ka12 := Ka1.c2; have R1 := R0.below b1 R0.lt; have r10 := R1.c0; have r11 := R1.c1; have r12 := R1.c2; have rf10 := R1.free 0; have rf11 := R1.free 1; have rf12 := R1.free 2; have G1 := G0.grow b1; have p1 := belT pr b1)
        | (go_at_call 33; refine (I _).mono ?_; rintro x w2 ⟨rfl, rfl⟩)
        | fail)
      have KE := dput3 R1 (0) (0) (0)
      have bE := dset3 (x := .int .i64 (0)) (y := .int .i64 (0)) (z := .int .i64 (0)) p1 (show w.heap.size ≤ w.heap.size + 1 by omega)
      generalize ((w2.setCell ⟨w.heap.size + 1, 0, none⟩ (.int .i64 (0))).setCell ⟨w.heap.size + 1, 1, none⟩ (.int .i64 (0))).setCell ⟨w.heap.size + 1, 2, none⟩ (.int .i64 (0)) = WE at *
      have z0 := KE.c0
      have z1 := KE.c1
      have z2 := KE.c2
      exact bodyPost_ret (v := .tuple #[.agg #[.int .i64 0, .int .i64 0, .int .i64 0], .int .i64 1]) (by simp [results, Tryd.results15, go_sem, z0, z1, z2]) rfl ⟨rfl, bE⟩
    · have nn := nr_iff.1 h
      obtain ⟨N1, hN⟩ : ∃ N1, N1 = N0 + n := ⟨_, rfl⟩
      have e1 : IntKind.i64.wrap (N0 + n) = N1 := by rw [hN]; exact wrapI _ (by omega) (by omega)
      rw [h] at I FN
      rw [← hN] at FN ⊢
      clear h hN nn lo hi
      generalize fy N1 = Y at *
      generalize fm N1 = M at *
      generalize fd N1 = D at *
      unfold dt er rg at *
      go_enter Tryd.func15, Tryd.ntmps15
      go_wp2_with (first
        | (go_at_call 13; refine (N _ G0).mono ?_; rintro x w1 ⟨rfl, b1⟩; have Ka1 := Ka0.below b1 Ka0.lt; have ka10 := Ka1.c0; have ka11 := Ka1.c1; have ka12 := Ka1.c2; have R1 := R0.below b1 R0.lt; have r10 := R1.c0; have r11 := R1.c1; have r12 := R1.c2; have rf10 := R1.free 0; have rf11 := R1.free 1; have rf12 := R1.free 2; have G1 := G0.grow b1; have p1 := belT pr b1)
        | (go_at_call 33; refine (I _).mono ?_; rintro x w2 ⟨rfl, rfl⟩)
        | (go_at_call 14; refine (FN _ G1).mono ?_; rintro x w3 ⟨rfl, b2⟩; have Ka2 := Ka1.below b2 Ka1.lt; have ka20 := Ka2.c0; have ka21 := Ka2.c1; have ka22 := Ka2.c2; have R2 := R1.below b2 R1.lt; have r20 := R2.c0; have r21 := R2.c1; have r22 := R2.c2; have rf20 := R2.free 0; have rf21 := R2.free 1; have rf22 := R2.free 2; have G2 := G1.grow b2; have p2 := belT p1 b2)
        | fail)
      have KE := dput3 R2 (Y) (M) (D)
      have bE := dset3 (x := .int .i64 (Y)) (y := .int .i64 (M)) (z := .int .i64 (D)) p2 (show w.heap.size ≤ w.heap.size + 1 by omega)
      generalize ((w3.setCell ⟨w.heap.size + 1, 0, none⟩ (.int .i64 (Y))).setCell ⟨w.heap.size + 1, 1, none⟩ (.int .i64 (M))).setCell ⟨w.heap.size + 1, 2, none⟩ (.int .i64 (D)) = WE at *
      have z0 := KE.c0
      have z1 := KE.c1
      have z2 := KE.c2
      exact bodyPost_ret (v := .tuple #[.agg #[.int .i64 Y, .int .i64 M, .int .i64 D], .int .i64 0]) (by simp [results, Tryd.results15, go_sem, z0, z1, z2]) rfl ⟨rfl, bE⟩
end Go.Proofs.YthadighbhdekdaaDoor.Dy
