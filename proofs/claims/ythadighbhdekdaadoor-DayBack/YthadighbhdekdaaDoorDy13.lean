import Derived.Test.YthadighbhdekdaaDoorDy11
import Derived.Test.YthadighbhdekdaaDoorDy12
namespace Go.Proofs.YthadighbhdekdaaDoor.Dy
open Go.RowKit Tn
/-- What Months tells. -/
def mns (y m d n : Int) : Value :=
  if good y m d then (if 0 ≤ mo y m + n ∧ mo y m + n ≤ 119987 then .tuple #[dt ((mo y m + n) / 12 + 1) ((mo y m + n) % 12 + 1) (min d (mk (mo y m + n))), .int .i64 0] else .tuple #[dt 0 0 0, .int .i64 1]) else .tuple #[dt 0 0 0, .int .i64 70]
theorem good_on {d a : Int} (hd : 1 ≤ d) (ha : 0 ≤ a) : good (a / 12 + 1) (a % 12 + 1) (min d (mk a)) = decide (a ≤ 119987) := by
  have := mk_bd a
  have e : ml (lp (a / 12 + 1)) (a % 12 + 1) = mk a := rfl
  rw [Bool.eq_iff_iff, good_iff, decide_eq_true_iff, e]
  omega
theorem good_0 : good 0 0 0 = false := by decide
set_option maxHeartbeats 400000 in
theorem Months_any (y m d n : Int) (w : World) (G : Gl w) : Calls Tryd.prog 25 #[dt y m d, .int .i64 n] w fun e w' => e = .returned (mns y m d n) ∧ Below w.heap.size w w' := by
  have Ka0 := (Blk.new w #[.int .i64 y, .int .i64 m, .int .i64 d] 23).alloc (.cells #[.int .i64 0, .int .i64 0, .int .i64 0] 23)
  have R0 := Blk.new (w.alloc (.cells #[.int .i64 y, .int .i64 m, .int .i64 d] 23)) #[.int .i64 0, .int .i64 0, .int .i64 0] 23
  rw [show (w.alloc (.cells #[.int .i64 y, .int .i64 m, .int .i64 d] 23)).heap.size = w.heap.size + 1 by simp] at R0
  have pr := belT (bl (w := w) #[.int .i64 y, .int .i64 m, .int .i64 d] 23) (bl (w := (w.alloc (.cells #[.int .i64 y, .int .i64 m, .int .i64 d] 23))) #[.int .i64 0, .int .i64 0, .int .i64 0] 23)
  have G0 := ((G).alloc (.cells #[.int .i64 y, .int .i64 m, .int .i64 d] 23)).alloc (.cells #[.int .i64 0, .int .i64 0, .int .i64 0] 23)
  have C := Check_any y m d
  clear G
  unfold mns
  cases g : good y m d
  · rw [g] at C
    unfold dt er at *
    go_enter Tryd.func25, Tryd.ntmps25
    go_wp2_with (first
      | (go_at_call 19; refine (C _ G0).mono ?_; rintro x w1 ⟨rfl, b1⟩; have Ka1 := Ka0.below b1 Ka0.lt; have ka10 := Ka1.c0; have ka11 := Ka1.c1; have ka12 := Ka1.c2; have R1 := R0.below b1 R0.lt; have r10 := R1.c0; have r11 := R1.c1; have r12 := R1.c2; have rf10 := R1.free 0; have rf11 := R1.free 1; have rf12 := R1.free 2; have G1 := G0.grow b1; have p1 := belT pr b1)
      | fail)
    have KE := dput3 R1 (0) (0) (0)
    have bE := dset3 (x := .int .i64 (0)) (y := .int .i64 (0)) (z := .int .i64 (0)) p1 (show w.heap.size ≤ w.heap.size + 1 by omega)
    generalize ((w1.setCell ⟨w.heap.size + 1, 0, none⟩ (.int .i64 (0))).setCell ⟨w.heap.size + 1, 1, none⟩ (.int .i64 (0))).setCell ⟨w.heap.size + 1, 2, none⟩ (.int .i64 (0)) = WE at *
    have z0 := KE.c0
    have z1 := KE.c1
    have z2 := KE.c2
    exact bodyPost_ret (v := .tuple #[.agg #[.int .i64 0, .int .i64 0, .int .i64 0], .int .i64 70]) (by simp [results, Tryd.results25, go_sem, z0, z1, z2]) rfl ⟨rfl, bE⟩
  · rw [g] at C
    obtain ⟨g1, g2, g3, g4, g5, g6⟩ := good_iff.1 g
    have A := monthsAhead_any y m d (by omega) (by omega) (by omega) (by omega)
    have mb : 0 ≤ mo y m ∧ mo y m ≤ 119987 := by unfold mo; omega
    have I := isWithin_any (mo y m) n 0 119987 (by omega) (by omega) (by omega) (by omega) (by omega) (by omega)
    have O := fun k0 k1 => monthsOn_any y m d n (by omega) (by omega) (by omega) (by omega) k0 k1
    clear g
    by_cases h : 0 ≤ mo y m + n ∧ mo y m + n ≤ 119987
    · rw [if_pos rfl, if_pos h]
      rw [decide_eq_true h] at I
      replace O := O (by omega) (by omega)
      clear g1 g2 g3 g4 g5 g6 mb
      generalize mo y m = b at *
      generalize (b + n) / 12 + 1 = Y at *
      generalize (b + n) % 12 + 1 = M at *
      generalize min d (mk (b + n)) = D at *
      clear h
      unfold dt er at *
      go_enter Tryd.func25, Tryd.ntmps25
      go_wp2_with (first
        | (go_at_call 19; refine (C _ G0).mono ?_; rintro x w1 ⟨rfl, b1⟩; have Ka1 := Ka0.below b1 Ka0.lt; have ka10 := Ka1.c0; have ka11 := Ka1.c1; have ka12 := Ka1.c2; have R1 := R0.below b1 R0.lt; have r10 := R1.c0; have r11 := R1.c1; have r12 := R1.c2; have rf10 := R1.free 0; have rf11 := R1.free 1; have rf12 := R1.free 2; have G1 := G0.grow b1; have p1 := belT pr b1)
        | (go_at_call 37; refine (A _).mono ?_; rintro x w2 ⟨rfl, b2⟩; have Ka2 := Ka1.below b2 Ka1.lt; have ka20 := Ka2.c0; have ka21 := Ka2.c1; have ka22 := Ka2.c2; have R2 := R1.below b2 R1.lt; have r20 := R2.c0; have r21 := R2.c1; have r22 := R2.c2; have rf20 := R2.free 0; have rf21 := R2.free 1; have rf22 := R2.free 2; have G2 := G1.grow b2; have p2 := belT p1 b2)
        | (go_at_call 33; refine (I _).mono ?_; rintro x w3 ⟨rfl, rfl⟩)
        | (go_at_call 46; refine (O _ G2).mono ?_; rintro x w4 ⟨rfl, b3⟩; have Ka3 := Ka2.below b3 Ka2.lt; have ka30 := Ka3.c0; have ka31 := Ka3.c1; have ka32 := Ka3.c2; have R3 := R2.below b3 R2.lt; have r30 := R3.c0; have r31 := R3.c1; have r32 := R3.c2; have rf30 := R3.free 0; have rf31 := R3.free 1; have rf32 := R3.free 2; have G3 := G2.grow b3; have p3 := belT p2 b3)
        | fail)
      have KE := dput3 R3 (Y) (M) (D)
      have bE := dset3 (x := .int .i64 (Y)) (y := .int .i64 (M)) (z := .int .i64 (D)) p3 (show w.heap.size ≤ w.heap.size + 1 by omega)
      generalize ((w4.setCell ⟨w.heap.size + 1, 0, none⟩ (.int .i64 (Y))).setCell ⟨w.heap.size + 1, 1, none⟩ (.int .i64 (M))).setCell ⟨w.heap.size + 1, 2, none⟩ (.int .i64 (D)) = WE at *
      have z0 := KE.c0
      have z1 := KE.c1
      have z2 := KE.c2
      exact bodyPost_ret (v := .tuple #[.agg #[.int .i64 Y, .int .i64 M, .int .i64 D], .int .i64 0]) (by simp [results, Tryd.results25, go_sem, z0, z1, z2]) rfl ⟨rfl, bE⟩
    · rw [if_pos rfl, if_neg h]
      rw [decide_eq_false h] at I
      clear O g1 g2 g3 g4 g5 g6 mb h
      generalize mo y m = b at *
      unfold dt er at *
      go_enter Tryd.func25, Tryd.ntmps25
      go_wp2_with (first
        | (go_at_call 19; refine (C _ G0).mono ?_; rintro x w1 ⟨rfl, b1⟩; have Ka1 := Ka0.below b1 Ka0.lt; have ka10 := Ka1.c0; have ka11 := Ka1.c1; have ka12 := Ka1.c2; have R1 := R0.below b1 R0.lt; have r10 := R1.c0; have r11 := R1.c1; have r12 := R1.c2; have rf10 := R1.free 0; have rf11 := R1.free 1; have rf12 := R1.free 2; have G1 := G0.grow b1; have p1 := belT pr b1)
        | (go_at_call 37; refine (A _).mono ?_; rintro x w2 ⟨rfl, b2⟩; have Ka2 := Ka1.below b2 Ka1.lt; have ka20 := Ka2.c0; have ka21 := Ka2.c1; have ka22 := Ka2.c2; have R2 := R1.below b2 R1.lt; have r20 := R2.c0; have r21 := R2.c1; have r22 := R2.c2; have rf20 := R2.free 0; have rf21 := R2.free 1; have rf22 := R2.free 2; have G2 := G1.grow b2; have p2 := belT p1 b2)
        | (go_at_call 33; refine (I _).mono ?_; rintro x w3 ⟨rfl, rfl⟩)
        | fail)
      have KE := dput3 R2 (0) (0) (0)
      have bE := dset3 (x := .int .i64 (0)) (y := .int .i64 (0)) (z := .int .i64 (0)) p2 (show w.heap.size ≤ w.heap.size + 1 by omega)
      generalize ((w3.setCell ⟨w.heap.size + 1, 0, none⟩ (.int .i64 (0))).setCell ⟨w.heap.size + 1, 1, none⟩ (.int .i64 (0))).setCell ⟨w.heap.size + 1, 2, none⟩ (.int .i64 (0)) = WE at *
      have z0 := KE.c0
      have z1 := KE.c1
      have z2 := KE.c2
      exact bodyPost_ret (v := .tuple #[.agg #[.int .i64 0, .int .i64 0, .int .i64 0], .int .i64 1]) (by simp [results, Tryd.results25, go_sem, z0, z1, z2]) rfl ⟨rfl, bE⟩
end Go.Proofs.YthadighbhdekdaaDoor.Dy
