import Derived.Test.YtbfamafajefapaaGreatDoorPart03

namespace Go.Proofs.YtbfamafajefapaaGreatDoor.Dy
open Go.RowKit Tn
set_option maxHeartbeats 400000 in
theorem monthsAhead_any (y m d : Int) (h1 : 0 ≤ y) (h2 : y ≤ 20000) (m1 : 0 ≤ m) (m2 : m ≤ 12) (w : World) : Calls Tryz.prog 107 #[dt y m d] w fun e w' => e = .returned (.int .i64 (mo y m)) ∧ Below w.heap.size w w' := by
  have pr := bl (w := w) #[.int .i64 y, .int .i64 m, .int .i64 d] 38
  have e1 : IntKind.i64.wrap (y - 1) = y - 1 := wrapI _ (by omega) (by omega)
  have e2 : IntKind.i64.wrap (12 * (y - 1)) = 12 * (y - 1) := wrapI _ (by omega) (by omega)
  have e3 : IntKind.i64.wrap (12 * (y - 1) + m) = 12 * (y - 1) + m := wrapI _ (by omega) (by omega)
  have e4 : IntKind.i64.wrap (12 * (y - 1) + m - 1) = mo y m := by rw [wrapI _ (by omega) (by omega)]; unfold mo; omega
  clear h1 h2 m1 m2
  generalize mo y m = a at *
  unfold dt
  go_enter Tryz.func107, Tryz.ntmps107
  go_wp2_with fail
  go_ret
  exact ⟨rfl, pr⟩
set_option maxHeartbeats 800000 in
theorem monthsOn_walk (y m d n a b q r Y M L D : Int) (w : World) (G : Gl w) (A : ∀ W, Calls Tryz.prog 107 #[dt y m d] W fun e w' => e = .returned (.int .i64 b) ∧ Below W.heap.size W w')
    (LO : ∀ W, Gl W → Calls Tryz.prog 114 #[.int .i64 Y, .int .i64 M] W fun e w' => e = .returned (.int .i64 L) ∧ w' = W)
    (e1 : IntKind.i64.wrap (b + n) = a) (e2 : a.tdiv 12 = q) (e3 : IntKind.i64.wrap q = q) (e4 : IntKind.i64.wrap (1 + q) = Y) (e5 : a.tmod 12 = r) (e7 : IntKind.i64.wrap (1 + r) = M) (hD : D = if d ≤ L then d else L) :
    Calls Tryz.prog 108 #[dt y m d, .int .i64 n] w fun e w' => e = .returned (dt Y M D) ∧ Below w.heap.size w w' := by
  have K0 := (Blk.new w #[.int .i64 y, .int .i64 m, .int .i64 d] 38).alloc (.cells #[.int .i64 0, .int .i64 0, .int .i64 0] 38)
  have R0 := Blk.new (w.alloc (.cells #[.int .i64 y, .int .i64 m, .int .i64 d] 38)) #[.int .i64 0, .int .i64 0, .int .i64 0] 38
  rw [show (w.alloc (.cells #[.int .i64 y, .int .i64 m, .int .i64 d] 38)).heap.size = w.heap.size + 1 by simp] at R0
  have pr := belT (bl (w := w) #[.int .i64 y, .int .i64 m, .int .i64 d] 38) (bl (w := w.alloc (.cells #[.int .i64 y, .int .i64 m, .int .i64 d] 38)) #[.int .i64 0, .int .i64 0, .int .i64 0] 38)
  have G0 := (G.alloc (.cells #[.int .i64 y, .int .i64 m, .int .i64 d] 38)).alloc (.cells #[.int .i64 0, .int .i64 0, .int .i64 0] 38)
  unfold dt at *
  by_cases c : d ≤ L
  · rw [if_pos c] at hD
    rw [hD]
    clear hD
    go_enter Tryz.func108, Tryz.ntmps108
    go_wp2_with (first
      | (go_at_call 107; refine (A _).mono ?_; rintro x w1 ⟨rfl, b1⟩; have K1 := K0.below b1 K0.lt; have R1 := R0.below b1 R0.lt; have G1 := G0.grow b1; have p1 := belT pr b1; have k0 := K1.c0; have k1 := K1.c1; have k2 := K1.c2; have r0 := R1.c0; have r1 := R1.c1; have r2 := R1.c2; have f0 := R1.free 0; have f1 := R1.free 1; have f2 := R1.free 2)
      | fail)
    go_region_with (first
      | (go_at_call 114; refine (LO _ (Gl.drew G1 _)).mono ?_; rintro x w2 ⟨rfl, rfl⟩))
    all_goals
      go_wp2_with fail
      have KE := dput3 (show Blk (w1.drewN 1) _ _ _ from R1) Y M d
      have bE := dset3 (x := .int .i64 Y) (y := .int .i64 M) (z := .int .i64 d) (blN (n := 1) p1) (show w.heap.size ≤ w.heap.size + 1 by omega)
      generalize (((w1.drewN 1).setCell ⟨w.heap.size + 1, 0, none⟩ (.int .i64 Y)).setCell ⟨w.heap.size + 1, 1, none⟩ (.int .i64 M)).setCell ⟨w.heap.size + 1, 2, none⟩ (.int .i64 d) = WE at *
      have z0 := KE.c0
      have z1 := KE.c1
      have z2 := KE.c2
      exact bodyPost_ret (v := .agg #[.int .i64 Y, .int .i64 M, .int .i64 d]) (by simp [results, Tryz.results108, go_sem, z0, z1, z2]) rfl ⟨rfl, bE⟩
  · rw [if_neg c] at hD
    rw [hD]
    clear hD
    replace c : L < d := by omega
    go_enter Tryz.func108, Tryz.ntmps108
    go_wp2_with (first
      | (go_at_call 107; refine (A _).mono ?_; rintro x w1 ⟨rfl, b1⟩; have K1 := K0.below b1 K0.lt; have R1 := R0.below b1 R0.lt; have G1 := G0.grow b1; have p1 := belT pr b1; have k0 := K1.c0; have k1 := K1.c1; have k2 := K1.c2; have r0 := R1.c0; have r1 := R1.c1; have r2 := R1.c2; have f0 := R1.free 0; have f1 := R1.free 1; have f2 := R1.free 2)
      | fail)
    go_region_with (first
      | (go_at_call 114; refine (LO _ (Gl.drew G1 _)).mono ?_; rintro x w2 ⟨rfl, rfl⟩))
    all_goals
      go_wp2_with fail
      have KE := dput3 (show Blk (w1.drewN 1) _ _ _ from R1) Y M L
      have bE := dset3 (x := .int .i64 Y) (y := .int .i64 M) (z := .int .i64 L) (blN (n := 1) p1) (show w.heap.size ≤ w.heap.size + 1 by omega)
      generalize (((w1.drewN 1).setCell ⟨w.heap.size + 1, 0, none⟩ (.int .i64 Y)).setCell ⟨w.heap.size + 1, 1, none⟩ (.int .i64 M)).setCell ⟨w.heap.size + 1, 2, none⟩ (.int .i64 L) = WE at *
      have z0 := KE.c0
      have z1 := KE.c1
      have z2 := KE.c2
      exact bodyPost_ret (v := .agg #[.int .i64 Y, .int .i64 M, .int .i64 L]) (by simp [results, Tryz.results108, go_sem, z0, z1, z2]) rfl ⟨rfl, bE⟩
theorem min_ite (d L : Int) : min d L = if d ≤ L then d else L := by split <;> omega
theorem monthsOn_any (y m d n : Int) (h1 : 0 ≤ y) (h2 : y ≤ 20000) (m1 : 0 ≤ m) (m2 : m ≤ 12) (a0 : 0 ≤ mo y m + n) (a1 : mo y m + n ≤ 200000) (w : World) (G : Gl w) :
    Calls Tryz.prog 108 #[dt y m d, .int .i64 n] w fun e w' => e = .returned (dt ((mo y m + n) / 12 + 1) ((mo y m + n) % 12 + 1) (min d (mk (mo y m + n)))) ∧ Below w.heap.size w w' := by
  have A := monthsAhead_any y m d h1 h2 m1 m2
  have hb : mo y m = 12 * (y - 1) + (m - 1) := rfl
  generalize mo y m = b at *
  obtain ⟨a, ha⟩ : ∃ a, b + n = a := ⟨_, rfl⟩
  rw [ha] at a0 a1 ⊢
  have LO := fun W g => lengthOf_any (a / 12 + 1) (a % 12 + 1) (by omega) (by omega) (by omega) W g
  refine monthsOn_walk y m d n a b (a / 12) (a % 12) _ _ (mk a) _ w G A LO ?_ ?_ ?_ ?_ ?_ ?_ (min_ite _ _)
  · rw [wrapI _ (by omega) (by omega)]; exact ha
  · rw [Int.tdiv_eq_ediv_of_nonneg (by omega)]
  · exact wrapI _ (by omega) (by omega)
  · rw [wrapI _ (by omega) (by omega)]; omega
  · rw [Int.tmod_eq_emod_of_nonneg (by omega)]
  · rw [wrapI _ (by omega) (by omega)]; omega
end Go.Proofs.YtbfamafajefapaaGreatDoor.Dy

namespace Go.Proofs.YtbfamafajefapaaGreatDoor.Dy
open Go.RowKit Tn
end Go.Proofs.YtbfamafajefapaaGreatDoor.Dy

namespace Go.Proofs.YtbfamafajefapaaGreatDoor.Dy
open Go.RowKit Tn
set_option maxHeartbeats 400000 in
theorem isWithin_any (f n l h : Int) (f0 : 0 ≤ f) (f1 : f ≤ 4000000) (l0 : 0 ≤ l) (l1 : l ≤ 4000000) (h0 : 0 ≤ h) (h1 : h ≤ 4000000) (w : World) :
    Calls Tryz.prog 106 #[.int .i64 f, .int .i64 n, .int .i64 l, .int .i64 h] w fun e w' => e = .returned (.bool (decide (l ≤ f + n ∧ f + n ≤ h))) ∧ w' = w := by
  have e1 : IntKind.i64.wrap (l - f) = l - f := wrapI _ (by omega) (by omega)
  have e2 : IntKind.i64.wrap (h - f) = h - f := wrapI _ (by omega) (by omega)
  obtain ⟨p, hp⟩ : ∃ p, decide (n ≥ l - f) = p := ⟨_, rfl⟩
  obtain ⟨q, hq⟩ : ∃ q, decide (n ≤ h - f) = q := ⟨_, rfl⟩
  have R : decide (l ≤ f + n ∧ f + n ≤ h) = (p && q) := by
    rw [← hp, ← hq, Bool.eq_iff_iff]; simp; omega
  rw [R]
  clear R f0 f1 l0 l1 h0 h1
  cases p <;> cases q
  all_goals
    go_enter Tryz.func106, Tryz.ntmps106
    go_wp2_with fail
    go_ret
    exact ⟨rfl, rfl⟩
/-- What Days tells. -/
def dys (y m d n : Int) : Value := if good y m d then .tuple #[dt (fy (num y m d + n)) (fm (num y m d + n)) (fd (num y m d + n)), .int .i64 (rg (nr (num y m d + n)))] else .tuple #[dt 0 0 0, .int .i64 70]
end Go.Proofs.YtbfamafajefapaaGreatDoor.Dy

namespace Go.Proofs.YtbfamafajefapaaGreatDoor.Dy
open Go.RowKit Tn
/-- What Months tells. -/
def mns (y m d n : Int) : Value :=
  if good y m d then (if 0 ≤ mo y m + n ∧ mo y m + n ≤ 119987 then .tuple #[dt ((mo y m + n) / 12 + 1) ((mo y m + n) % 12 + 1) (min d (mk (mo y m + n))), .int .i64 0] else .tuple #[dt 0 0 0, .int .i64 1]) else .tuple #[dt 0 0 0, .int .i64 70]
theorem good_on {d a : Int} (hd : 1 ≤ d) (ha : 0 ≤ a) : good (a / 12 + 1) (a % 12 + 1) (min d (mk a)) = decide (a ≤ 119987) := by
  have := mk_bd a
  have e : ml (lp (a / 12 + 1)) (a % 12 + 1) = mk a := rfl
  rw [Bool.eq_iff_iff, good_iff, decide_eq_true_iff, e]
  omega
theorem good_0 : good 0 0 0 = false := by decide
set_option maxHeartbeats 400000 in
theorem Months_any (y m d n : Int) (w : World) (G : Gl w) : Calls Tryz.prog 44 #[dt y m d, .int .i64 n] w fun e w' => e = .returned (mns y m d n) ∧ Below w.heap.size w w' := by
  have Ka0 := (Blk.new w #[.int .i64 y, .int .i64 m, .int .i64 d] 38).alloc (.cells #[.int .i64 0, .int .i64 0, .int .i64 0] 38)
  have R0 := Blk.new (w.alloc (.cells #[.int .i64 y, .int .i64 m, .int .i64 d] 38)) #[.int .i64 0, .int .i64 0, .int .i64 0] 38
  rw [show (w.alloc (.cells #[.int .i64 y, .int .i64 m, .int .i64 d] 38)).heap.size = w.heap.size + 1 by simp] at R0
  have pr := belT (bl (w := w) #[.int .i64 y, .int .i64 m, .int .i64 d] 38) (bl (w := (w.alloc (.cells #[.int .i64 y, .int .i64 m, .int .i64 d] 38))) #[.int .i64 0, .int .i64 0, .int .i64 0] 38)
  have G0 := ((G).alloc (.cells #[.int .i64 y, .int .i64 m, .int .i64 d] 38)).alloc (.cells #[.int .i64 0, .int .i64 0, .int .i64 0] 38)
  have C := Check_any y m d
  clear G
  unfold mns
  cases g : good y m d
  · rw [g] at C
    unfold dt er at *
    go_enter Tryz.func44, Tryz.ntmps44
    go_wp2_with (first
      | (go_at_call 47; refine (C _ G0).mono ?_; rintro x w1 ⟨rfl, b1⟩; have Ka1 := Ka0.below b1 Ka0.lt; have ka10 := Ka1.c0; have ka11 := Ka1.c1; have ka12 := Ka1.c2; have R1 := R0.below b1 R0.lt; have r10 := R1.c0; have r11 := R1.c1; have r12 := R1.c2; have rf10 := R1.free 0; have rf11 := R1.free 1; have rf12 := R1.free 2; have G1 := G0.grow b1; have p1 := belT pr b1)
      | fail)
    have KE := dput3 R1 (0) (0) (0)
    have bE := dset3 (x := .int .i64 (0)) (y := .int .i64 (0)) (z := .int .i64 (0)) p1 (show w.heap.size ≤ w.heap.size + 1 by omega)
    generalize ((w1.setCell ⟨w.heap.size + 1, 0, none⟩ (.int .i64 (0))).setCell ⟨w.heap.size + 1, 1, none⟩ (.int .i64 (0))).setCell ⟨w.heap.size + 1, 2, none⟩ (.int .i64 (0)) = WE at *
    have z0 := KE.c0
    have z1 := KE.c1
    have z2 := KE.c2
    exact bodyPost_ret (v := .tuple #[.agg #[.int .i64 0, .int .i64 0, .int .i64 0], .int .i64 70]) (by simp [results, Tryz.results44, go_sem, z0, z1, z2]) rfl ⟨rfl, bE⟩
  · rw [g] at C
    obtain ⟨g1, g2, g3, g4, g5, g6⟩ := good_iff.1 g
    have A := monthsAhead_any y m d (by omega) (by omega) (by omega) (by omega)
    have mb : 0 ≤ mo y m ∧ mo y m ≤ 119987 := by unfold mo; omega
    have I := isWithin_any (mo y m) n 0 119987 (by omega) (by omega) (by omega) (by omega) (by omega) (by omega)
    have O := fun k0 k1 => monthsOn_any y m d n (by omega) (by omega) (by omega) (by omega) k0 k1
    clear g
    by_cases h : 0 ≤ mo y m + n ∧ mo y m + n ≤ 119987
    · rw [if_pos rfl, if_pos h]
      rw [decide_eq_true h] at I
      replace O := O (by omega) (by omega)
      clear g1 g2 g3 g4 g5 g6 mb
      generalize mo y m = b at *
      generalize (b + n) / 12 + 1 = Y at *
      generalize (b + n) % 12 + 1 = M at *
      generalize min d (mk (b + n)) = D at *
      clear h
      unfold dt er at *
      go_enter Tryz.func44, Tryz.ntmps44
      go_wp2_with (first
        | (go_at_call 47; refine (C _ G0).mono ?_; rintro x w1 ⟨rfl, b1⟩; have Ka1 := Ka0.below b1 Ka0.lt; have ka10 := Ka1.c0; have ka11 := Ka1.c1; have ka12 := Ka1.c2; have R1 := R0.below b1 R0.lt; have r10 := R1.c0; have r11 := R1.c1; have r12 := R1.c2; have rf10 := R1.free 0; have rf11 := R1.free 1; have rf12 := R1.free 2; have G1 := G0.grow b1; have p1 := belT pr b1)
        | (go_at_call 107; refine (A _).mono ?_; rintro x w2 ⟨rfl, b2⟩; have Ka2 := Ka1.below b2 Ka1.lt; have ka20 := Ka2.c0; have ka21 := Ka2.c1; have ka22 := Ka2.c2; have R2 := R1.below b2 R1.lt; have r20 := R2.c0; have r21 := R2.c1; have r22 := R2.c2; have rf20 := R2.free 0; have rf21 := R2.free 1; have rf22 := R2.free 2; have G2 := G1.grow b2; have p2 := belT p1 b2)
        | (go_at_call 106; refine (I _).mono ?_; rintro x w3 ⟨rfl, rfl⟩)
        | (go_at_call 108; refine (O _ G2).mono ?_; rintro x w4 ⟨rfl, b3⟩; have Ka3 := Ka2.below b3 Ka2.lt; have ka30 := Ka3.c0; have ka31 := Ka3.c1; have ka32 := Ka3.c2; have R3 := R2.below b3 R2.lt; have r30 := R3.c0; have r31 := R3.c1; have r32 := R3.c2; have rf30 := R3.free 0; have rf31 := R3.free 1; have rf32 := R3.free 2; have G3 := G2.grow b3; have p3 := belT p2 b3)
        | fail)
      have KE := dput3 R3 (Y) (M) (D)
      have bE := dset3 (x := .int .i64 (Y)) (y := .int .i64 (M)) (z := .int .i64 (D)) p3 (show w.heap.size ≤ w.heap.size + 1 by omega)
      generalize ((w4.setCell ⟨w.heap.size + 1, 0, none⟩ (.int .i64 (Y))).setCell ⟨w.heap.size + 1, 1, none⟩ (.int .i64 (M))).setCell ⟨w.heap.size + 1, 2, none⟩ (.int .i64 (D)) = WE at *
      have z0 := KE.c0
      have z1 := KE.c1
      have z2 := KE.c2
      exact bodyPost_ret (v := .tuple #[.agg #[.int .i64 Y, .int .i64 M, .int .i64 D], .int .i64 0]) (by simp [results, Tryz.results44, go_sem, z0, z1, z2]) rfl ⟨rfl, bE⟩
    · rw [if_pos rfl, if_neg h]
      rw [decide_eq_false h] at I
      clear O g1 g2 g3 g4 g5 g6 mb h
      generalize mo y m = b at *
      unfold dt er at *
      go_enter Tryz.func44, Tryz.ntmps44
      go_wp2_with (first
        | (go_at_call 47; refine (C _ G0).mono ?_; rintro x w1 ⟨rfl, b1⟩; have Ka1 := Ka0.below b1 Ka0.lt; have ka10 := Ka1.c0; have ka11 := Ka1.c1; have ka12 := Ka1.c2; have R1 := R0.below b1 R0.lt; have r10 := R1.c0; have r11 := R1.c1; have r12 := R1.c2; have rf10 := R1.free 0; have rf11 := R1.free 1; have rf12 := R1.free 2; have G1 := G0.grow b1; have p1 := belT pr b1)
        | (go_at_call 107; refine (A _).mono ?_; rintro x w2 ⟨rfl, b2⟩; have Ka2 := Ka1.below b2 Ka1.lt; have ka20 := Ka2.c0; have ka21 := Ka2.c1; have ka22 := Ka2.c2; have R2 := R1.below b2 R1.lt; have r20 := R2.c0; have r21 := R2.c1; have r22 := R2.c2; have rf20 := R2.free 0; have rf21 := R2.free 1; have rf22 := R2.free 2; have G2 := G1.grow b2; have p2 := belT p1 b2)
        | (go_at_call 106; refine (I _).mono ?_; rintro x w3 ⟨rfl, rfl⟩)
        | fail)
      have KE := dput3 R2 (0) (0) (0)
      have bE := dset3 (x := .int .i64 (0)) (y := .int .i64 (0)) (z := .int .i64 (0)) p2 (show w.heap.size ≤ w.heap.size + 1 by omega)
      generalize ((w3.setCell ⟨w.heap.size + 1, 0, none⟩ (.int .i64 (0))).setCell ⟨w.heap.size + 1, 1, none⟩ (.int .i64 (0))).setCell ⟨w.heap.size + 1, 2, none⟩ (.int .i64 (0)) = WE at *
      have z0 := KE.c0
      have z1 := KE.c1
      have z2 := KE.c2
      exact bodyPost_ret (v := .tuple #[.agg #[.int .i64 0, .int .i64 0, .int .i64 0], .int .i64 1]) (by simp [results, Tryz.results44, go_sem, z0, z1, z2]) rfl ⟨rfl, bE⟩
end Go.Proofs.YtbfamafajefapaaGreatDoor.Dy

/- Plain: months past, birthdays, ages. -/
namespace Go.Proofs.YtbfamafajefapaaGreatDoor.Dy
theorem mp_ge {j d k e n : Int} (hd : 1 ≤ d) (he : 1 ≤ e) (hk : e ≤ mk k) (h : nu (j + n) d ≤ mn k + e) : n ≤ mp j d k e := (mp_iff hd he hk).1 h
theorem nu_0 {j d : Int} (h : d ≤ mk j) : nu j d = mn j + d := by unfold nu; omega
theorem mp_0 {j d k e : Int} (hd : 1 ≤ d) (hj : d ≤ mk j) (he : 1 ≤ e) (hk : e ≤ mk k) (h : mn j + d ≤ mn k + e) : 0 ≤ mp j d k e := by
  refine mp_ge hd he hk ?_
  rw [show j + 0 = j by omega, nu_0 hj]
  exact h
theorem mp_le (j d k e : Int) : k - j - 1 ≤ mp j d k e ∧ mp j d k e ≤ k - j := by
  unfold mp; split <;> omega
/-- Birthdays rise. -/
theorem nu_lt {j k d : Int} (hd : 1 ≤ d) (h : j < k) : nu j d < nu k d := by
  have := mn_lt h
  have := mk_bd k
  unfold nu; omega
/-- The reference's way to the years. -/
theorem born_eq {yj mj d yk mk' e : Int} (m1 : 1 ≤ mj) (m2 : mj ≤ 12) (k1 : 1 ≤ mk') (k2 : mk' ≤ 12) (hd : 1 ≤ d) (he : 1 ≤ e) (hk : e ≤ mk (mo yk mk')) :
    (if mn (mo yk mk') + e < nu (mo yj mj + 12 * (yk - yj)) d then yk - yj - 1 else yk - yj) = mp (mo yj mj) d (mo yk mk') e / 12 := by
  have f := mp_iff (j := mo yj mj) (n := 12 * (yk - yj)) hd he hk
  have b := mp_le (mo yj mj) d (mo yk mk') e
  have hj : mo yj mj = 12 * (yj - 1) + (mj - 1) := rfl
  have hk' : mo yk mk' = 12 * (yk - 1) + (mk' - 1) := rfl
  generalize mp (mo yj mj) d (mo yk mk') e = P at *
  generalize mn (mo yk mk') + e = Q at *
  generalize nu (mo yj mj + 12 * (yk - yj)) d = R at *
  split <;> omega
/-- An age. -/
def agB (j d k e n : Int) : Int := mn k + e - nu (j + 12 * n) d
def agU (j d k e n : Int) : Int := nu (j + 12 * (n + 1)) d - (mn k + e)
def age (j d k e how : Int) : Int :=
  if how = 1 then mp j d k e / 12 else if how = 2 then (if agB j d k e (mp j d k e / 12) > 0 then mp j d k e / 12 + 1 else mp j d k e / 12) else (if agU j d k e (mp j d k e / 12) ≤ agB j d k e (mp j d k e / 12) then mp j d k e / 12 + 1 else mp j d k e / 12)
end Go.Proofs.YtbfamafajefapaaGreatDoor.Dy
