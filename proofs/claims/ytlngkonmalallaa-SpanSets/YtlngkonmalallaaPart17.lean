import Derived.Test.YtlngkonmalallaaPart16
import Derived.Test.YtlngkonmalallaaPart05
import Derived.Test.YtlngkonmalallaaPart12

namespace Go.Proofs.Ytlngkonmalallaa.L
open Go.RowKit Tl

set_option maxHeartbeats 6400000 in
set_option maxRecDepth 100000 in
theorem qround_some (g : Bool) (p1 p2 : Option Addr) (m1 c1 m2 c2 : Nat) (r : Rat) (K : Nat) (way : Int) (w : World) (ha : IsQ w (.agg #[.bool g, .slice p1 m1 c1, .slice p2 m2 c2]) r) (hQ : QS r K) (hK : K ≤ 100000) (hz : Hid (r - (r.floor : Rat) ≠ 0)) (RQ : Hid (QS (r - (r.floor : Rat)) (K + 2))) (LQ : Hid (QS (r.floor : Rat) (K + 2))) (c : Int) (hc : Hid (cmpR (r - (r.floor : Rat)) (mkRat 1 2) = c)) (UP od : Bool) (hod : Hid (od = decide ((r.floor.natAbs : Int) % 2 = 0)))
    (HU : (way = 2 ∧ UP = true) ∨ (way = 3 ∧ UP = g) ∨ (way = 4 ∧ UP = !g) ∨ (way = 5 ∧ c = 1 ∧ UP = true) ∨ (way = 5 ∧ c = 0 ∧ UP = !g) ∨ (way = 5 ∧ c = -1 ∧ UP = false) ∨ (way = 6 ∧ c = 1 ∧ UP = true) ∨ (way = 6 ∧ c = 0 ∧ UP = !od) ∨ (way = 6 ∧ c = -1 ∧ UP = false) ∨ ((way == 2) = false ∧ (way == 3) = false ∧ (way == 4) = false ∧ (way == 5) = false ∧ (way == 6) = false ∧ UP = false)) :
    Calls Try.prog 81 #[.agg #[.bool g, .slice p1 m1 c1, .slice p2 m2 c2], .int .i64 way] w fun e w' => ∃ v, e = .returned v ∧ IsQ w' v (if UP = true then (r.floor : Rat) + ((1 : Int) : Rat) else (r.floor : Rat)) ∧ Below w.heap.size w w' := by
  go_enter Try.func81, Try.ntmps81
  have K1 : Blk ((w.alloc (.cells #[.bool g, .slice p1 m1 c1, .slice p2 m2 c2] 104)).alloc (.cells #[.bool false, .slice none 0 0, .slice none 0 0] 104)) w.heap.size #[.bool g, .slice p1 m1 c1, .slice p2 m2 c2] 104 := (Blk.new w _ _).alloc _
  have K2 : Blk ((w.alloc (.cells #[.bool g, .slice p1 m1 c1, .slice p2 m2 c2] 104)).alloc (.cells #[.bool false, .slice none 0 0, .slice none 0 0] 104)) (w.heap.size + 1) #[.bool false, .slice none 0 0, .slice none 0 0] 104 := blk_at (by simp)
  have pr : Below w.heap.size w ((w.alloc (.cells #[.bool g, .slice p1 m1 c1, .slice p2 m2 c2] 104)).alloc (.cells #[.bool false, .slice none 0 0, .slice none 0 0] 104)) := ((Below.refl _ _).alloc (Nat.le_refl _) _).alloc (by simp) _
  go_upto_region 5 with (first
    | (go_at_call 117; ((with_reducible refine (QFloor_any (.agg #[.bool g, .slice p1 m1 c1, .slice p2 m2 c2]) r K _ (ha.grow pr) hQ (by omega)).mono ?_)); (rintro e w1 ⟨u, v, rfl, hl, hr, b1⟩; have nq2 : w1.heap.size ≠ w.heap.size + 1 := (by have h9 := (K2.below b1 K2.lt).lt; omega); obtain ⟨gl, p3, m3, c3, p4, m4, c4, rfl, GL⟩ := isq_form hl; obtain ⟨gr, p5, m5, c5, p6, m6, c6, rfl, GR⟩ := isq_form hr; replace K1 := ((K1.below b1 K1.lt).alloc (.cells #[.bool gl, .slice p3 m3 c3, .slice p4 m4 c4] 104)).alloc (.cells #[.bool gr, .slice p5 m5 c5, .slice p6 m6 c6] 104); replace K2 := ((K2.below b1 K2.lt).alloc (.cells #[.bool gl, .slice p3 m3 c3, .slice p4 m4 c4] 104)).alloc (.cells #[.bool gr, .slice p5 m5 c5, .slice p6 m6 c6] 104); replace pr := bel_alloc (ob := (.cells #[.bool gr, .slice p5 m5 c5, .slice p6 m6 c6] 104)) (bel_alloc (ob := (.cells #[.bool gl, .slice p3 m3 c3, .slice p4 m4 c4] 104)) (bel pr b1)); clear b1; have K3 : Blk ((w1.alloc (.cells #[.bool gl, .slice p3 m3 c3, .slice p4 m4 c4] 104)).alloc (.cells #[.bool gr, .slice p5 m5 c5, .slice p6 m6 c6] 104)) w1.heap.size #[.bool gl, .slice p3 m3 c3, .slice p4 m4 c4] 104 := (Blk.new w1 _ _).alloc _; have K4 : Blk ((w1.alloc (.cells #[.bool gl, .slice p3 m3 c3, .slice p4 m4 c4] 104)).alloc (.cells #[.bool gr, .slice p5 m5 c5, .slice p6 m6 c6] 104)) (w1.heap.size + 1) #[.bool gr, .slice p5 m5 c5, .slice p6 m6 c6] 104 := blk_at (by simp); have HS : Hid _ := isq_sign hr; replace hl := IsQ.alloc (ob := (.cells #[.bool gr, .slice p5 m5 c5, .slice p6 m6 c6] 104)) (IsQ.alloc (ob := (.cells #[.bool gl, .slice p3 m3 c3, .slice p4 m4 c4] 104)) hl); replace hr := IsQ.alloc (ob := (.cells #[.bool gr, .slice p5 m5 c5, .slice p6 m6 c6] 104)) (IsQ.alloc (ob := (.cells #[.bool gl, .slice p3 m3 c3, .slice p4 m4 c4] 104)) hr); have ka0 : ((w1.alloc (.cells #[.bool gl, .slice p3 m3 c3, .slice p4 m4 c4] 104)).alloc (.cells #[.bool gr, .slice p5 m5 c5, .slice p6 m6 c6] 104)).cell? ⟨w.heap.size, 0, none⟩ = some (.bool g) := K1.at 0; have ka1 : ((w1.alloc (.cells #[.bool gl, .slice p3 m3 c3, .slice p4 m4 c4] 104)).alloc (.cells #[.bool gr, .slice p5 m5 c5, .slice p6 m6 c6] 104)).cell? ⟨w.heap.size, 1, none⟩ = some (.slice p1 m1 c1) := K1.at 1; have ka2 : ((w1.alloc (.cells #[.bool gl, .slice p3 m3 c3, .slice p4 m4 c4] 104)).alloc (.cells #[.bool gr, .slice p5 m5 c5, .slice p6 m6 c6] 104)).cell? ⟨w.heap.size, 2, none⟩ = some (.slice p2 m2 c2) := K1.at 2; have kl0 : ((w1.alloc (.cells #[.bool gl, .slice p3 m3 c3, .slice p4 m4 c4] 104)).alloc (.cells #[.bool gr, .slice p5 m5 c5, .slice p6 m6 c6] 104)).cell? ⟨w1.heap.size, 0, none⟩ = some (.bool gl) := K3.at 0; have kl1 : ((w1.alloc (.cells #[.bool gl, .slice p3 m3 c3, .slice p4 m4 c4] 104)).alloc (.cells #[.bool gr, .slice p5 m5 c5, .slice p6 m6 c6] 104)).cell? ⟨w1.heap.size, 1, none⟩ = some (.slice p3 m3 c3) := K3.at 1; have kl2 : ((w1.alloc (.cells #[.bool gl, .slice p3 m3 c3, .slice p4 m4 c4] 104)).alloc (.cells #[.bool gr, .slice p5 m5 c5, .slice p6 m6 c6] 104)).cell? ⟨w1.heap.size, 2, none⟩ = some (.slice p4 m4 c4) := K3.at 2; have kr0 : ((w1.alloc (.cells #[.bool gl, .slice p3 m3 c3, .slice p4 m4 c4] 104)).alloc (.cells #[.bool gr, .slice p5 m5 c5, .slice p6 m6 c6] 104)).cell? ⟨w1.heap.size + 1, 0, none⟩ = some (.bool gr) := K4.at 0; have kr1 : ((w1.alloc (.cells #[.bool gl, .slice p3 m3 c3, .slice p4 m4 c4] 104)).alloc (.cells #[.bool gr, .slice p5 m5 c5, .slice p6 m6 c6] 104)).cell? ⟨w1.heap.size + 1, 1, none⟩ = some (.slice p5 m5 c5) := K4.at 1; have kr2 : ((w1.alloc (.cells #[.bool gl, .slice p3 m3 c3, .slice p4 m4 c4] 104)).alloc (.cells #[.bool gr, .slice p5 m5 c5, .slice p6 m6 c6] 104)).cell? ⟨w1.heap.size + 1, 2, none⟩ = some (.slice p6 m6 c6) := K4.at 2; have k2c0 : ((w1.alloc (.cells #[.bool gl, .slice p3 m3 c3, .slice p4 m4 c4] 104)).alloc (.cells #[.bool gr, .slice p5 m5 c5, .slice p6 m6 c6] 104)).cell? ⟨w.heap.size + 1, 0, none⟩ = some (.bool false) := K2.at 0; have k2f0 := K2.free 0; have k2c1 : ((w1.alloc (.cells #[.bool gl, .slice p3 m3 c3, .slice p4 m4 c4] 104)).alloc (.cells #[.bool gr, .slice p5 m5 c5, .slice p6 m6 c6] 104)).cell? ⟨w.heap.size + 1, 1, none⟩ = some (.slice none 0 0) := K2.at 1; have k2f1 := K2.free 1; have k2c2 : ((w1.alloc (.cells #[.bool gl, .slice p3 m3 c3, .slice p4 m4 c4] 104)).alloc (.cells #[.bool gr, .slice p5 m5 c5, .slice p6 m6 c6] 104)).cell? ⟨w.heap.size + 1, 2, none⟩ = some (.slice none 0 0) := K2.at 2; have k2f2 := K2.free 2))
    | (go_at_call 103; ((with_reducible refine (Sign_fn gr p5 p6 m5 c5 m6 c6 _).mono ?_)); (rintro e w2 ⟨rfl, b2⟩; have hs0 : (sg3 gr m5 == 0) = false := (by rw [beq_eq_false_iff_ne]; exact fun k => hz.out (HS.out.1 k)); replace K1 := K1.below b2 K1.lt; replace K2 := K2.below b2 K2.lt; replace K3 := K3.below b2 K3.lt; replace K4 := K4.below b2 K4.lt; replace pr := bel pr b2; replace hl := hl.grow b2; replace hr := hr.grow b2; have ka0 : w2.cell? ⟨w.heap.size, 0, none⟩ = some (.bool g) := K1.at 0; have ka1 : w2.cell? ⟨w.heap.size, 1, none⟩ = some (.slice p1 m1 c1) := K1.at 1; have ka2 : w2.cell? ⟨w.heap.size, 2, none⟩ = some (.slice p2 m2 c2) := K1.at 2; have kl0 : w2.cell? ⟨w1.heap.size, 0, none⟩ = some (.bool gl) := K3.at 0; have kl1 : w2.cell? ⟨w1.heap.size, 1, none⟩ = some (.slice p3 m3 c3) := K3.at 1; have kl2 : w2.cell? ⟨w1.heap.size, 2, none⟩ = some (.slice p4 m4 c4) := K3.at 2; have kr0 : w2.cell? ⟨w1.heap.size + 1, 0, none⟩ = some (.bool gr) := K4.at 0; have kr1 : w2.cell? ⟨w1.heap.size + 1, 1, none⟩ = some (.slice p5 m5 c5) := K4.at 1; have kr2 : w2.cell? ⟨w1.heap.size + 1, 2, none⟩ = some (.slice p6 m6 c6) := K4.at 2; have k2c0 : w2.cell? ⟨w.heap.size + 1, 0, none⟩ = some (.bool false) := K2.at 0; have k2f0 := K2.free 0; have k2c1 : w2.cell? ⟨w.heap.size + 1, 1, none⟩ = some (.slice none 0 0) := K2.at 1; have k2f1 := K2.free 1; have k2c2 : w2.cell? ⟨w.heap.size + 1, 2, none⟩ = some (.slice none 0 0) := K2.at 2; have k2f2 := K2.free 2; clear b2))
    | fail)
  go_region_held3 (fun x => x.cell? ⟨w1.heap.size + 1, 0, none⟩ = some (.bool gr) ∧ x.cell? ⟨w1.heap.size + 1, 1, none⟩ = some (.slice p5 m5 c5) ∧ x.cell? ⟨w1.heap.size + 1, 2, none⟩ = some (.slice p6 m6 c6)) (go_keep) (first
    | (go_at_call 119; ((with_reducible refine (frac_raw _).mono ?_)); (rintro e w3 ⟨vh, rfl, hh, b3⟩; obtain ⟨gh, p7, m7, c7, p8, m8, c8, rfl, GH⟩ := isq_form hh; replace K1 := K1.below b3 K1.lt; replace K2 := K2.below b3 K2.lt; replace K3 := K3.below b3 K3.lt; replace K4 := K4.below b3 K4.lt; replace pr := bel pr b3; replace hl := hl.grow b3; replace hr := hr.grow b3; have ka0 : w3.cell? ⟨w.heap.size, 0, none⟩ = some (.bool g) := K1.at 0; have ka1 : w3.cell? ⟨w.heap.size, 1, none⟩ = some (.slice p1 m1 c1) := K1.at 1; have ka2 : w3.cell? ⟨w.heap.size, 2, none⟩ = some (.slice p2 m2 c2) := K1.at 2; have kl0 : w3.cell? ⟨w1.heap.size, 0, none⟩ = some (.bool gl) := K3.at 0; have kl1 : w3.cell? ⟨w1.heap.size, 1, none⟩ = some (.slice p3 m3 c3) := K3.at 1; have kl2 : w3.cell? ⟨w1.heap.size, 2, none⟩ = some (.slice p4 m4 c4) := K3.at 2; have kr0 : w3.cell? ⟨w1.heap.size + 1, 0, none⟩ = some (.bool gr) := K4.at 0; have kr1 : w3.cell? ⟨w1.heap.size + 1, 1, none⟩ = some (.slice p5 m5 c5) := K4.at 1; have kr2 : w3.cell? ⟨w1.heap.size + 1, 2, none⟩ = some (.slice p6 m6 c6) := K4.at 2; have k2c0 : w3.cell? ⟨w.heap.size + 1, 0, none⟩ = some (.bool false) := K2.at 0; have k2f0 := K2.free 0; have k2c1 : w3.cell? ⟨w.heap.size + 1, 1, none⟩ = some (.slice none 0 0) := K2.at 1; have k2f1 := K2.free 1; have k2c2 : w3.cell? ⟨w.heap.size + 1, 2, none⟩ = some (.slice none 0 0) := K2.at 2; have k2f2 := K2.free 2; clear b3))
    | (go_at_call 119; ((with_reducible refine (frac_raw _).mono ?_)); (rintro e w3 ⟨vh, rfl, hh, b3⟩; obtain ⟨gh, p7, m7, c7, p8, m8, c8, rfl, GH⟩ := isq_form hh; replace K1 := K1.below (below_undrew b3) K1.lt; replace K2 := K2.below (below_undrew b3) K2.lt; replace K3 := K3.below (below_undrew b3) K3.lt; replace K4 := K4.below (below_undrew b3) K4.lt; replace pr := bel pr (below_undrew b3); replace hl := hl.grow (below_undrew b3); replace hr := hr.grow (below_undrew b3); have ka0 : w3.cell? ⟨w.heap.size, 0, none⟩ = some (.bool g) := K1.at 0; have ka1 : w3.cell? ⟨w.heap.size, 1, none⟩ = some (.slice p1 m1 c1) := K1.at 1; have ka2 : w3.cell? ⟨w.heap.size, 2, none⟩ = some (.slice p2 m2 c2) := K1.at 2; have kl0 : w3.cell? ⟨w1.heap.size, 0, none⟩ = some (.bool gl) := K3.at 0; have kl1 : w3.cell? ⟨w1.heap.size, 1, none⟩ = some (.slice p3 m3 c3) := K3.at 1; have kl2 : w3.cell? ⟨w1.heap.size, 2, none⟩ = some (.slice p4 m4 c4) := K3.at 2; have kr0 : w3.cell? ⟨w1.heap.size + 1, 0, none⟩ = some (.bool gr) := K4.at 0; have kr1 : w3.cell? ⟨w1.heap.size + 1, 1, none⟩ = some (.slice p5 m5 c5) := K4.at 1; have kr2 : w3.cell? ⟨w1.heap.size + 1, 2, none⟩ = some (.slice p6 m6 c6) := K4.at 2; have k2c0 : w3.cell? ⟨w.heap.size + 1, 0, none⟩ = some (.bool false) := K2.at 0; have k2f0 := K2.free 0; have k2c1 : w3.cell? ⟨w.heap.size + 1, 1, none⟩ = some (.slice none 0 0) := K2.at 1; have k2f1 := K2.free 1; have k2c2 : w3.cell? ⟨w.heap.size + 1, 2, none⟩ = some (.slice none 0 0) := K2.at 2; have k2f2 := K2.free 2; clear b3))
    | (go_at_call 118; ((with_reducible refine (QCmp_any (.agg #[.bool gr, .slice p5 m5 c5, .slice p6 m6 c6]) (.agg #[.bool gh, .slice p7 m7 c7, .slice p8 m8 c8]) _ _ (K + 2) _ ?hq1 ?hq2 RQ.out half_qs (by omega)).mono ?_)); (case hq1 => (first | with_reducible exact hr | with_reducible exact hr.drew)); (case hq2 => (first | with_reducible exact hh | with_reducible exact hh.drew)); (rintro e w4 ⟨rfl, b4⟩; replace K1 := K1.below b4 K1.lt; replace K2 := K2.below b4 K2.lt; replace K3 := K3.below b4 K3.lt; replace K4 := K4.below b4 K4.lt; replace pr := bel pr b4; replace hl := hl.grow b4; replace hr := hr.grow b4; have ka0 : w4.cell? ⟨w.heap.size, 0, none⟩ = some (.bool g) := K1.at 0; have ka1 : w4.cell? ⟨w.heap.size, 1, none⟩ = some (.slice p1 m1 c1) := K1.at 1; have ka2 : w4.cell? ⟨w.heap.size, 2, none⟩ = some (.slice p2 m2 c2) := K1.at 2; have kl0 : w4.cell? ⟨w1.heap.size, 0, none⟩ = some (.bool gl) := K3.at 0; have kl1 : w4.cell? ⟨w1.heap.size, 1, none⟩ = some (.slice p3 m3 c3) := K3.at 1; have kl2 : w4.cell? ⟨w1.heap.size, 2, none⟩ = some (.slice p4 m4 c4) := K3.at 2; have kr0 : w4.cell? ⟨w1.heap.size + 1, 0, none⟩ = some (.bool gr) := K4.at 0; have kr1 : w4.cell? ⟨w1.heap.size + 1, 1, none⟩ = some (.slice p5 m5 c5) := K4.at 1; have kr2 : w4.cell? ⟨w1.heap.size + 1, 2, none⟩ = some (.slice p6 m6 c6) := K4.at 2; have k2c0 : w4.cell? ⟨w.heap.size + 1, 0, none⟩ = some (.bool false) := K2.at 0; have k2f0 := K2.free 0; have k2c1 : w4.cell? ⟨w.heap.size + 1, 1, none⟩ = some (.slice none 0 0) := K2.at 1; have k2f1 := K2.free 1; have k2c2 : w4.cell? ⟨w.heap.size + 1, 2, none⟩ = some (.slice none 0 0) := K2.at 2; have k2f2 := K2.free 2; clear b4))
    | (go_at_call 118; ((with_reducible refine (QCmp_any (.agg #[.bool gr, .slice p5 m5 c5, .slice p6 m6 c6]) (.agg #[.bool gh, .slice p7 m7 c7, .slice p8 m8 c8]) _ _ (K + 2) _ ?hq1 ?hq2 RQ.out half_qs (by omega)).mono ?_)); (case hq1 => (first | with_reducible exact hr | with_reducible exact hr.drew)); (case hq2 => (first | with_reducible exact hh | with_reducible exact hh.drew)); (rintro e w4 ⟨rfl, b4⟩; replace K1 := K1.below (below_undrew b4) K1.lt; replace K2 := K2.below (below_undrew b4) K2.lt; replace K3 := K3.below (below_undrew b4) K3.lt; replace K4 := K4.below (below_undrew b4) K4.lt; replace pr := bel pr (below_undrew b4); replace hl := hl.grow (below_undrew b4); replace hr := hr.grow (below_undrew b4); have ka0 : w4.cell? ⟨w.heap.size, 0, none⟩ = some (.bool g) := K1.at 0; have ka1 : w4.cell? ⟨w.heap.size, 1, none⟩ = some (.slice p1 m1 c1) := K1.at 1; have ka2 : w4.cell? ⟨w.heap.size, 2, none⟩ = some (.slice p2 m2 c2) := K1.at 2; have kl0 : w4.cell? ⟨w1.heap.size, 0, none⟩ = some (.bool gl) := K3.at 0; have kl1 : w4.cell? ⟨w1.heap.size, 1, none⟩ = some (.slice p3 m3 c3) := K3.at 1; have kl2 : w4.cell? ⟨w1.heap.size, 2, none⟩ = some (.slice p4 m4 c4) := K3.at 2; have kr0 : w4.cell? ⟨w1.heap.size + 1, 0, none⟩ = some (.bool gr) := K4.at 0; have kr1 : w4.cell? ⟨w1.heap.size + 1, 1, none⟩ = some (.slice p5 m5 c5) := K4.at 1; have kr2 : w4.cell? ⟨w1.heap.size + 1, 2, none⟩ = some (.slice p6 m6 c6) := K4.at 2; have k2c0 : w4.cell? ⟨w.heap.size + 1, 0, none⟩ = some (.bool false) := K2.at 0; have k2f0 := K2.free 0; have k2c1 : w4.cell? ⟨w.heap.size + 1, 1, none⟩ = some (.slice none 0 0) := K2.at 1; have k2f1 := K2.free 1; have k2c2 : w4.cell? ⟨w.heap.size + 1, 2, none⟩ = some (.slice none 0 0) := K2.at 2; have k2f2 := K2.free 2; clear b4))
    | fail)
  rw [hc.out]
  go_upto_block 0 with fail
  go_cut [7] (fun u wc => u = .bool UP ∧ Blk wc (w.heap.size + 1) #[.bool false, .slice none 0 0, .slice none 0 0] 104 ∧ Blk wc w1.heap.size #[.bool gl, .slice p3 m3 c3, .slice p4 m4 c4] 104 ∧ IsQ wc (.agg #[.bool gl, .slice p3 m3 c3, .slice p4 m4 c4]) (r.floor : Rat) ∧ Below w.heap.size w wc)
  case first =>
    have EV := fun (wz : World) (hz : IsQ wz (.agg #[.bool gl, .slice p3 m3 c3, .slice p4 m4 c4]) (r.floor : Rat)) => even_q hz hod.out
    rcases HU with ⟨rfl, rfl⟩ | ⟨rfl, rfl⟩ | ⟨rfl, rfl⟩ | ⟨rfl, rfl, rfl⟩ | ⟨rfl, rfl, rfl⟩ | ⟨rfl, rfl, rfl⟩ | ⟨rfl, rfl, rfl⟩ | ⟨rfl, rfl, rfl⟩ | ⟨rfl, rfl, rfl⟩ | ⟨q2, q3, q4, q5, q6, rfl⟩
    all_goals
      go_wp2_with (first
        | (go_at_call 107; ((with_reducible refine (EV _ hl).mono ?_)); (rintro e w5 ⟨rfl, b5⟩; replace K1 := K1.below b5 K1.lt; replace K2 := K2.below b5 K2.lt; replace K3 := K3.below b5 K3.lt; replace K4 := K4.below b5 K4.lt; replace pr := bel pr b5; replace hl := hl.grow b5; replace hr := hr.grow b5; have ka0 : w5.cell? ⟨w.heap.size, 0, none⟩ = some (.bool g) := K1.at 0; have ka1 : w5.cell? ⟨w.heap.size, 1, none⟩ = some (.slice p1 m1 c1) := K1.at 1; have ka2 : w5.cell? ⟨w.heap.size, 2, none⟩ = some (.slice p2 m2 c2) := K1.at 2; have kl0 : w5.cell? ⟨w1.heap.size, 0, none⟩ = some (.bool gl) := K3.at 0; have kl1 : w5.cell? ⟨w1.heap.size, 1, none⟩ = some (.slice p3 m3 c3) := K3.at 1; have kl2 : w5.cell? ⟨w1.heap.size, 2, none⟩ = some (.slice p4 m4 c4) := K3.at 2; have kr0 : w5.cell? ⟨w1.heap.size + 1, 0, none⟩ = some (.bool gr) := K4.at 0; have kr1 : w5.cell? ⟨w1.heap.size + 1, 1, none⟩ = some (.slice p5 m5 c5) := K4.at 1; have kr2 : w5.cell? ⟨w1.heap.size + 1, 2, none⟩ = some (.slice p6 m6 c6) := K4.at 2; have k2c0 : w5.cell? ⟨w.heap.size + 1, 0, none⟩ = some (.bool false) := K2.at 0; have k2f0 := K2.free 0; have k2c1 : w5.cell? ⟨w.heap.size + 1, 1, none⟩ = some (.slice none 0 0) := K2.at 1; have k2f1 := K2.free 1; have k2c2 : w5.cell? ⟨w.heap.size + 1, 2, none⟩ = some (.slice none 0 0) := K2.at 2; have k2f2 := K2.free 2; clear b5))
        | fail)
      go_meet
      case rel => exact ⟨rfl, K2, K3, hl, pr⟩
  case rest =>
    clear HU K1 K2 K3 K4 pr hl hr ka0 ka1 ka2 kl0 kl1 kl2 kr0 kr1 kr2 k2c0 k2c1 k2c2 k2f0 k2f1 k2f2 hs0
    obtain ⟨rfl, K2, K3, hl, pr⟩ := hcut
    have kl0 : wc.cell? ⟨w1.heap.size, 0, none⟩ = some (.bool gl) := K3.at 0
    have kl1 : wc.cell? ⟨w1.heap.size, 1, none⟩ = some (.slice p3 m3 c3) := K3.at 1
    have kl2 : wc.cell? ⟨w1.heap.size, 2, none⟩ = some (.slice p4 m4 c4) := K3.at 2
    have k2c0 : wc.cell? ⟨w.heap.size + 1, 0, none⟩ = some (.bool false) := K2.at 0
    have k2f0 := K2.free 0
    have k2c1 : wc.cell? ⟨w.heap.size + 1, 1, none⟩ = some (.slice none 0 0) := K2.at 1
    have k2f1 := K2.free 1
    have k2c2 : wc.cell? ⟨w.heap.size + 1, 2, none⟩ = some (.slice none 0 0) := K2.at 2
    have k2f2 := K2.free 2
    cases UP
    · go_wp2_with fail
      have HLP : IsQ (((wc.setCell ⟨w.heap.size + 1, 0, none⟩ (.bool gl)).setCell ⟨w.heap.size + 1, 1, none⟩ (.slice p3 m3 c3)).setCell ⟨w.heap.size + 1, 2, none⟩ (.slice p4 m4 c4)) (.agg #[.bool gl, .slice p3 m3 c3, .slice p4 m4 c4]) (if (false : Bool) = true then (r.floor : Rat) + ((1 : Int) : Rat) else (r.floor : Rat)) := by rw [if_neg (by decide)]; exact IsQ.put3 hl K2
      obtain ⟨F0, F1, F2, FB⟩ := put3 (.bool gl) (.slice p3 m3 c3) (.slice p4 m4 c4) k2c0 k2c1 k2c2
      exact bodyPost_ret (v := .agg #[.bool gl, .slice p3 m3 c3, .slice p4 m4 c4]) (by simp [results, Try.results81, go_sem, F0, F1, F2]) rfl ⟨_, rfl, HLP, FB _ _ (by omega) pr⟩
    · go_wp2_with fail
      go_region_held3 (fun x => x.cell? ⟨w1.heap.size, 0, none⟩ = some (.bool gl) ∧ x.cell? ⟨w1.heap.size, 1, none⟩ = some (.slice p3 m3 c3) ∧ x.cell? ⟨w1.heap.size, 2, none⟩ = some (.slice p4 m4 c4)) (first | exact ⟨set3_other nq2 kl0, set3_other nq2 kl1, set3_other nq2 kl2⟩ | go_keep) (first
    | (go_at_call 85; ((with_reducible refine (Of_q 1 _ (by decide) (by decide)).mono ?_)); (rintro e w6 ⟨vo, rfl, ho, b6⟩; obtain ⟨go, p7, m7, c7, p8, m8, c8, rfl, GO⟩ := isq_form ho; replace K2 := K2.below b6 K2.lt; replace K3 := K3.below b6 K3.lt; replace pr := bel pr b6; replace hl := hl.grow b6; have kl0 : w6.cell? ⟨w1.heap.size, 0, none⟩ = some (.bool gl) := K3.at 0; have kl1 : w6.cell? ⟨w1.heap.size, 1, none⟩ = some (.slice p3 m3 c3) := K3.at 1; have kl2 : w6.cell? ⟨w1.heap.size, 2, none⟩ = some (.slice p4 m4 c4) := K3.at 2; have k2c0 : w6.cell? ⟨w.heap.size + 1, 0, none⟩ = some (.bool false) := K2.at 0; have k2f0 := K2.free 0; have k2c1 : w6.cell? ⟨w.heap.size + 1, 1, none⟩ = some (.slice none 0 0) := K2.at 1; have k2f1 := K2.free 1; have k2c2 : w6.cell? ⟨w.heap.size + 1, 2, none⟩ = some (.slice none 0 0) := K2.at 2; have k2f2 := K2.free 2; clear b6))
    | (go_at_call 85; ((with_reducible refine (Of_q 1 _ (by decide) (by decide)).mono ?_)); (rintro e w6 ⟨vo, rfl, ho, b6⟩; obtain ⟨go, p7, m7, c7, p8, m8, c8, rfl, GO⟩ := isq_form ho; replace K2 := K2.below (below_undrew b6) K2.lt; replace K3 := K3.below (below_undrew b6) K3.lt; replace pr := bel pr (below_undrew b6); replace hl := hl.grow (below_undrew b6); have kl0 : w6.cell? ⟨w1.heap.size, 0, none⟩ = some (.bool gl) := K3.at 0; have kl1 : w6.cell? ⟨w1.heap.size, 1, none⟩ = some (.slice p3 m3 c3) := K3.at 1; have kl2 : w6.cell? ⟨w1.heap.size, 2, none⟩ = some (.slice p4 m4 c4) := K3.at 2; have k2c0 : w6.cell? ⟨w.heap.size + 1, 0, none⟩ = some (.bool false) := K2.at 0; have k2f0 := K2.free 0; have k2c1 : w6.cell? ⟨w.heap.size + 1, 1, none⟩ = some (.slice none 0 0) := K2.at 1; have k2f1 := K2.free 1; have k2c2 : w6.cell? ⟨w.heap.size + 1, 2, none⟩ = some (.slice none 0 0) := K2.at 2; have k2f2 := K2.free 2; clear b6))
    | (go_at_call 120; ((with_reducible refine (QAdd_any (.agg #[.bool gl, .slice p3 m3 c3, .slice p4 m4 c4]) (.agg #[.bool go, .slice p7 m7 c7, .slice p8 m8 c8]) _ _ (K + 2) _ ?hq1 ?hq2 LQ.out one_qs (by omega)).mono ?_)); (case hq1 => (first | with_reducible exact hl | with_reducible exact hl.drew)); (case hq2 => (first | with_reducible exact ho | with_reducible exact ho.drew)); (rintro e w7 ⟨vs, rfl, hs, b7⟩; obtain ⟨gs, p9, m9, c9, pa, ma, ca, rfl, GS⟩ := isq_form hs; replace K2 := K2.below b7 K2.lt; replace K3 := K3.below b7 K3.lt; replace pr := bel pr b7; replace hl := hl.grow b7; have kl0 : w7.cell? ⟨w1.heap.size, 0, none⟩ = some (.bool gl) := K3.at 0; have kl1 : w7.cell? ⟨w1.heap.size, 1, none⟩ = some (.slice p3 m3 c3) := K3.at 1; have kl2 : w7.cell? ⟨w1.heap.size, 2, none⟩ = some (.slice p4 m4 c4) := K3.at 2; have k2c0 : w7.cell? ⟨w.heap.size + 1, 0, none⟩ = some (.bool false) := K2.at 0; have k2f0 := K2.free 0; have k2c1 : w7.cell? ⟨w.heap.size + 1, 1, none⟩ = some (.slice none 0 0) := K2.at 1; have k2f1 := K2.free 1; have k2c2 : w7.cell? ⟨w.heap.size + 1, 2, none⟩ = some (.slice none 0 0) := K2.at 2; have k2f2 := K2.free 2; clear b7))
    | (go_at_call 120; ((with_reducible refine (QAdd_any (.agg #[.bool gl, .slice p3 m3 c3, .slice p4 m4 c4]) (.agg #[.bool go, .slice p7 m7 c7, .slice p8 m8 c8]) _ _ (K + 2) _ ?hq1 ?hq2 LQ.out one_qs (by omega)).mono ?_)); (case hq1 => (first | with_reducible exact hl | with_reducible exact hl.drew)); (case hq2 => (first | with_reducible exact ho | with_reducible exact ho.drew)); (rintro e w7 ⟨vs, rfl, hs, b7⟩; obtain ⟨gs, p9, m9, c9, pa, ma, ca, rfl, GS⟩ := isq_form hs; replace K2 := K2.below (below_undrew b7) K2.lt; replace K3 := K3.below (below_undrew b7) K3.lt; replace pr := bel pr (below_undrew b7); replace hl := hl.grow (below_undrew b7); have kl0 : w7.cell? ⟨w1.heap.size, 0, none⟩ = some (.bool gl) := K3.at 0; have kl1 : w7.cell? ⟨w1.heap.size, 1, none⟩ = some (.slice p3 m3 c3) := K3.at 1; have kl2 : w7.cell? ⟨w1.heap.size, 2, none⟩ = some (.slice p4 m4 c4) := K3.at 2; have k2c0 : w7.cell? ⟨w.heap.size + 1, 0, none⟩ = some (.bool false) := K2.at 0; have k2f0 := K2.free 0; have k2c1 : w7.cell? ⟨w.heap.size + 1, 1, none⟩ = some (.slice none 0 0) := K2.at 1; have k2f1 := K2.free 1; have k2c2 : w7.cell? ⟨w.heap.size + 1, 2, none⟩ = some (.slice none 0 0) := K2.at 2; have k2f2 := K2.free 2; clear b7))
        | fail)
      go_wp2_with fail
      have HLP : IsQ (((w7.setCell ⟨w.heap.size + 1, 0, none⟩ (.bool gs)).setCell ⟨w.heap.size + 1, 1, none⟩ (.slice p9 m9 c9)).setCell ⟨w.heap.size + 1, 2, none⟩ (.slice pa ma ca)) (.agg #[.bool gs, .slice p9 m9 c9, .slice pa ma ca]) (if (true : Bool) = true then (r.floor : Rat) + ((1 : Int) : Rat) else (r.floor : Rat)) := by rw [if_pos rfl]; exact IsQ.put3 hs K2
      obtain ⟨F0, F1, F2, FB⟩ := put3 (.bool gs) (.slice p9 m9 c9) (.slice pa ma ca) k2c0 k2c1 k2c2
      exact bodyPost_ret (v := .agg #[.bool gs, .slice p9 m9 c9, .slice pa ma ca]) (by simp [results, Try.results81, go_sem, F0, F1, F2]) rfl ⟨_, rfl, HLP, FB _ _ (by omega) pr⟩
end Go.Proofs.Ytlngkonmalallaa.L

namespace Go.Proofs.Ytlngkonmalallaa.L
open Go.RowKit Tl

/-- Is the whole number above taken? -/
def upQ (way : Int) (neg even : Bool) (c : Int) : Bool :=
  if way = 2 then true else if way = 3 then neg else if way = 4 then !neg else if way = 5 then (decide (0 < c) || (c == 0 && !neg)) else if way = 6 then (decide (0 < c) || (c == 0 && !even)) else false
/-- An exact number, rounded to a whole one. -/
def rndQ (way : Int) (r : Rat) : Int :=
  if r - (r.floor : Rat) = 0 then r.floor else if upQ way (decide (r.num < 0)) (decide ((r.floor.natAbs : Int) % 2 = 0)) (cmpR (r - (r.floor : Rat)) (mkRat 1 2)) = true then r.floor + 1 else r.floor
theorem pw_two' (K : Nat) : pw (K + 2) = 1152921504606846976 * pw K := by
  simp only [pw]; omega
theorem floor_qs {r : Rat} {K : Nat} (h : QS r K) : QS (r.floor : Rat) (K + 2) := by
  have d := den_pos' r
  have p := pw_pos K
  have e := pw_two' K
  have h1 := h.1
  have fd : r.floor = r.num / (r.den : Int) := Rat.floor_def r
  have b : (r.floor.natAbs : Int) ≤ r.num.natAbs := by
    rw [fd]
    have ev := Int.mul_ediv_add_emod r.num (r.den : Int)
    have m0 := Int.emod_nonneg r.num (show (r.den : Int) ≠ 0 by omega)
    have m1 := Int.emod_lt_of_pos r.num d
    generalize r.num / (r.den : Int) = q at *
    by_cases c : 0 ≤ q
    · have := Int.mul_le_mul_of_nonneg_right (show 1 ≤ (r.den : Int) by omega) c
      omega
    · have := Int.mul_le_mul_of_nonneg_right (show 1 ≤ (r.den : Int) by omega) (show 0 ≤ -q - 1 by omega)
      have x : (r.den : Int) * (-q - 1) = -((r.den : Int) * q) - r.den := by grind
      omega
  refine ⟨?_, ?_⟩
  · show (r.floor.natAbs : Int) < _
    omega
  · show (1 : Int) < _
    omega
theorem mk_qs {n : Int} {d K : Nat} (h0 : 0 ≤ n) (h1 : n < d) (hK : (d : Int) < pw K) : QS (mkRat n d) K := by
  have d0 : d ≠ 0 := by omega
  have g0 : 0 < d.gcd n.natAbs := Nat.gcd_pos_of_pos_left _ (by omega)
  refine ⟨?_, ?_⟩
  · rw [Rat.num_mkRat, if_neg d0]
    have a : n / ((d.gcd n.natAbs : Nat) : Int) ≤ n := Int.ediv_le_self _ h0
    have b : 0 ≤ n / ((d.gcd n.natAbs : Nat) : Int) := Int.ediv_nonneg h0 (by omega)
    omega
  · rw [Rat.den_mkRat, if_neg d0]
    have := Nat.div_le_self d (d.gcd n.natAbs)
    omega
theorem qs_mono {r : Rat} {K L : Nat} (h : QS r K) (hl : K ≤ L) : QS r L := by
  have := pw_mono hl
  exact ⟨by have := h.1; omega, by have := h.2; omega⟩
theorem rest_qs {r : Rat} {K : Nat} (h : QS r K) : QS (r - (r.floor : Rat)) (K + 2) := by
  have d := den_pos' r
  rw [sub_rat, Rat.floor_def]
  have ev := Int.mul_ediv_add_emod r.num (r.den : Int)
  have m0 := Int.emod_nonneg r.num (show (r.den : Int) ≠ 0 by omega)
  have m1 := Int.emod_lt_of_pos r.num d
  rw [show r.num - r.num / (r.den : Int) * r.den = r.num % (r.den : Int) from by rw [Int.mul_comm] at ev; omega]
  exact qs_mono (mk_qs m0 m1 h.2) (by omega)
theorem cmpR_cases (r s : Rat) : cmpR r s = 1 ∨ cmpR r s = 0 ∨ cmpR r s = -1 := by
  unfold cmpR
  split
  · simp
  · split <;> simp
/-- Q's Round of the reference. -/
theorem QRound_any (a : Value) (r : Rat) (K : Nat) (way : Int) (w : World) (ha : IsQ w a r) (hQ : QS r K) (hK : K ≤ 100000) :
    Calls Try.prog 81 #[a, .int .i64 way] w fun e w' => ∃ v, e = .returned v ∧ IsQ w' v ((rndQ way r : Int) : Rat) ∧ Below w.heap.size w w' := by
  obtain ⟨g, p1, m1, c1, p2, m2, c2, rfl, G⟩ := isq_form ha
  unfold rndQ
  by_cases z : r - (r.floor : Rat) = 0
  · rw [if_pos z]
    exact qround_zero g p1 p2 m1 c1 m2 c2 r K way w ha hQ hK z
  · rw [if_neg z, ← G.out]
    obtain ⟨UP, hUP⟩ : ∃ UP, UP = upQ way g (decide ((r.floor.natAbs : Int) % 2 = 0)) (cmpR (r - (r.floor : Rat)) (mkRat 1 2)) := ⟨_, rfl⟩
    rw [← hUP]
    have fin := qround_some g p1 p2 m1 c1 m2 c2 r K way w ha hQ hK z (rest_qs hQ) (floor_qs hQ) _ rfl UP _ rfl ?_
    · refine fin.mono ?_
      rintro e w' ⟨v, he, hq, hb⟩
      refine ⟨v, he, ?_, hb⟩
      cases UP
      · exact hq
      · rw [if_pos rfl] at hq ⊢
        rw [Rat.intCast_add]
        exact hq
    · generalize decide ((r.floor.natAbs : Int) % 2 = 0) = ev at *
      unfold upQ at hUP
      have cc := cmpR_cases (r - (r.floor : Rat)) (mkRat 1 2)
      generalize cmpR (r - (r.floor : Rat)) (mkRat 1 2) = c at *
      by_cases w2 : way = 2
      · rw [if_pos w2] at hUP; exact Or.inl ⟨w2, hUP⟩
      rw [if_neg w2] at hUP
      by_cases w3 : way = 3
      · rw [if_pos w3] at hUP; exact Or.inr (Or.inl ⟨w3, hUP⟩)
      rw [if_neg w3] at hUP
      by_cases w4 : way = 4
      · rw [if_pos w4] at hUP; exact Or.inr (Or.inr (Or.inl ⟨w4, hUP⟩))
      rw [if_neg w4] at hUP
      by_cases w5 : way = 5
      · rw [if_pos w5] at hUP
        rcases cc with rfl | rfl | rfl
        · exact Or.inr (Or.inr (Or.inr (Or.inl ⟨w5, rfl, by rw [hUP]; rfl⟩)))
        · exact Or.inr (Or.inr (Or.inr (Or.inr (Or.inl ⟨w5, rfl, by rw [hUP]; simp⟩))))
        · exact Or.inr (Or.inr (Or.inr (Or.inr (Or.inr (Or.inl ⟨w5, rfl, by rw [hUP]; rfl⟩)))))
      rw [if_neg w5] at hUP
      by_cases w6 : way = 6
      · rw [if_pos w6] at hUP
        rcases cc with rfl | rfl | rfl
        · exact Or.inr (Or.inr (Or.inr (Or.inr (Or.inr (Or.inr (Or.inl ⟨w6, rfl, by rw [hUP]; rfl⟩))))))
        · exact Or.inr (Or.inr (Or.inr (Or.inr (Or.inr (Or.inr (Or.inr (Or.inl ⟨w6, rfl, by rw [hUP]; simp⟩)))))))
        · exact Or.inr (Or.inr (Or.inr (Or.inr (Or.inr (Or.inr (Or.inr (Or.inr (Or.inl ⟨w6, rfl, by rw [hUP]; rfl⟩))))))))
      rw [if_neg w6] at hUP
      exact Or.inr (Or.inr (Or.inr (Or.inr (Or.inr (Or.inr (Or.inr (Or.inr (Or.inr ⟨by rw [beq_eq_false_iff_ne]; exact w2, by rw [beq_eq_false_iff_ne]; exact w3, by rw [beq_eq_false_iff_ne]; exact w4, by rw [beq_eq_false_iff_ne]; exact w5, by rw [beq_eq_false_iff_ne]; exact w6, hUP⟩))))))))
end Go.Proofs.Ytlngkonmalallaa.L

namespace Go.Proofs.Ytlngkonmalallaa.L
open Go.RowKit Tl

theorem isq_list {w : World} {v : Value} {r : Rat} (h : IsQ w v r) : ∃ g N D p1 c1 p2 c2, v = .agg #[.bool g, .slice p1 (N : List Int).length c1, .slice p2 (D : List Int).length c2] ∧ Hid (g = decide (r.num < 0)) ∧ Rd w (.slice p1 N.length c1) N ∧ Nm N ∧ val N = (r.num.natAbs : Int) := by
  obtain ⟨ns, ds, a1, a2, c1, c2, e, h1, n1, v1, _⟩ := h
  exact ⟨_, ns, ds, a1, c1, a2, c2, e, rfl, h1, n1, v1⟩
theorem whole_sign {Z : Int} {g : Bool} (h : g = decide (((Z : Rat)).num < 0)) : g = decide (Z < 0) := h
theorem bl_of {N : List Int} {Z : Int} {B : Nat} (v : val N = (Z.natAbs : Int)) (h : bl (Z.natAbs : Int) = B) : bl (val N) = B := by rw [v]; exact h
theorem zlen {N : List Int} {Z : Int} (h : Wd N) (n : Nm N) (v : val N = (Z.natAbs : Int)) (hz : (Z.natAbs : Int) < pw 1000000) : N.length ≤ 1000000 := len_of_lt h n (by rw [v]; exact hz)
theorem len3 {N : List Int} {Z : Int} (h : Wd N) (n : Nm N) (v : val N = (Z.natAbs : Int)) (hz : (Z.natAbs : Int) < 18446744073709551616) : N.length ≤ 3 := nm_len3 h n (by rw [v]; exact hz)
theorem whole_step {ms : List Int} {i : Nat} {b : Int} (h : Wd ms) (hi : i < ms.length) (hb : b = val (ms.drop (i + 1))) (hm : val ms < 18446744073709551616) : 0 ≤ b ∧ b < 17179869184 ∧ b * 1073741824 + nth ms i = val (ms.drop i) := by
  have e := drop_getD ms i hi
  have d0 := val_nonneg (h.drop (i + 1))
  have d1 := val_nonneg (h.drop i)
  have bx := nth_bd h i
  have e2 : val (ms.drop i) = nth ms i + 1073741824 * val (ms.drop (i + 1)) := by rw [e]; rfl
  have s := val_split ms i (by omega)
  have t0 := val_nonneg (h.take i)
  have p := pw_pos i
  have := Int.mul_le_mul_of_nonneg_right (show 1 ≤ pw i by omega) d1
  omega
set_option maxHeartbeats 3200000 in
set_option maxRecDepth 100000 in
theorem rwhole_big (gz : Bool) (b way Z : Int) (r : Rat) (M : ∀ w, Calls Try.prog 66 #[.int .i64 way] w fun e w' => e = .returned (.bool true) ∧ w' = w) (Fi : ∀ w, Calls Try.prog 77 #[szW, .int .u64 b] w fun e w' => e = .returned (.bool true) ∧ Below w.heap.size w w')
    (NB : ∀ w, Calls Try.prog 68 #[szW, .int .u64 b] w fun e w' => ∃ v, e = .returned v ∧ IsQ w' v r ∧ Below w.heap.size w w')
    (R : ∀ w v, IsQ w v r → Calls Try.prog 81 #[v, .int .i64 way] w fun e w' => ∃ v, e = .returned v ∧ IsQ w' v (Z : Rat) ∧ Below w.heap.size w w') (hz : Hid ((Z.natAbs : Int) < pw 1000000)) (B : Nat) (hB : Hid (bl (Z.natAbs : Int) = B)) (hg : Hid (decide (Z < 0) = gz)) (b64 : 64 < B) (w : World) :
    Calls Try.prog 38 #[.int .u64 b, .int .i64 way] w fun e w' => e = .returned (.tuple #[.int .i64 0, .int .i64 1]) ∧ Below w.heap.size w w' := by
  have SH : ∀ (w : World) (v : Value), Rd w v [1] → Calls Try.prog 79 #[v, .int .i64 63] w fun e w' => ∃ r zs, e = .returned r ∧ Rd w' r zs ∧ Nm zs ∧ val zs = 9223372036854775808 ∧ Below w.heap.size w w' := fun w v h => (Shl_any v [1] 63 w h (by decide) (by decide)).mono (fun e w' k => by rw [val_one] at k; exact k)
  have pr := Below.refl w.heap.size w
  go_enter Try.func38, Try.ntmps38
  have b65 : (64 : Int) < (B : Int) := by omega
  clear b64
  go_wp2_with (first
    | (go_at_call 66; (with_reducible refine (M _).mono ?_); rintro e w1 ⟨rfl, rfl⟩)
    | (go_at_call 11; (with_reducible refine (Wide_any _).mono ?_); (rintro e w1 ⟨rfl, b1⟩; replace pr := bel pr b1; clear b1))
    | (go_at_call 77; (with_reducible refine (Fi _).mono ?_); (rintro e w1 ⟨rfl, b1⟩; replace pr := bel pr b1; clear b1))
    | (go_at_call 68; (with_reducible refine (NB _).mono ?_); (rintro e w2 ⟨v2, rfl, hq2, b2⟩; replace pr := bel pr b2; clear b2))
    | (go_at_call 81; (with_reducible refine (R _ _ hq2).mono ?_); (rintro e w3 ⟨v3, rfl, hq3, b3⟩; replace pr := bel pr b3; clear b3; obtain ⟨gg, N, D, p3, c3, p4, c4, rfl, G, hN, nN, vN⟩ := isq_list hq3; have GZ := whole_sign G.out; obtain rfl : gz = gg := (GZ.trans hg.out).symm; have VN : Hid (val N = (Z.natAbs : Int)) := vN; clear vN GZ; have KB := Blk.new w3 #[.bool gz, .slice p3 N.length c3, .slice p4 D.length c4] 104; replace pr := bel_alloc (ob := (.cells #[.bool gz, .slice p3 N.length c3, .slice p4 D.length c4] 104)) pr; replace hN := rd_alloc (ob := (.cells #[.bool gz, .slice p3 N.length c3, .slice p4 D.length c4] 104)) hN; have BL : Hid _ := bl_of VN.out hB.out; have k0 : (w3.alloc (.cells #[.bool gz, .slice p3 N.length c3, .slice p4 D.length c4] 104)).cell? ⟨w3.heap.size, 0, none⟩ = some (.bool gz) := KB.at 0; have k1 : (w3.alloc (.cells #[.bool gz, .slice p3 N.length c3, .slice p4 D.length c4] 104)).cell? ⟨w3.heap.size, 1, none⟩ = some (.slice p3 N.length c3) := KB.at 1; have k2 : (w3.alloc (.cells #[.bool gz, .slice p3 N.length c3, .slice p4 D.length c4] 104)).cell? ⟨w3.heap.size, 2, none⟩ = some (.slice p4 D.length c4) := KB.at 2; have LN : Hid (N.length ≤ 1000000) := zlen hN.1 nN VN.out hz.out))
    | (go_at_call 82; (with_reducible refine (Bits_fn (.slice p3 N.length c3) N _ hN nN (by have h9 := LN.out; omega)).mono ?_); (rintro e w4 ⟨rfl, rfl⟩; rw [BL.out]))
    | (go_at_call 79; ((with_reducible refine (SH _ _ ?hrd).mono ?_)); (case hrd => exact rd_one (by repeat (first | ((with_reducible refine cell_at ?_); (first | rfl | (simp; done))) | with_reducible refine cell_drew ?_ | with_reducible refine cell_alloc ?_)) (by decide) (by decide)); (rintro e w5 ⟨u5, za, rfl, hu5, nu5, vu5', b5⟩; have vu5 : Hid (val za = 9223372036854775808) := vu5'; clear vu5'; have KB' := KB.alloc (.cells #[.int .i64 1] 3); clear KB; have KB := KB'; clear KB'; replace pr := bel_alloc (ob := (.cells #[.int .i64 1] 3)) pr; replace hN := rd_alloc (ob := (.cells #[.int .i64 1] 3)) hN; replace KB := KB.below b5 KB.lt; replace pr := bel pr b5; replace hN := hN.grow b5; have k0 : w5.cell? ⟨w3.heap.size, 0, none⟩ = some (.bool gz) := KB.at 0; have k1 : w5.cell? ⟨w3.heap.size, 1, none⟩ = some (.slice p3 N.length c3) := KB.at 1; have k2 : w5.cell? ⟨w3.heap.size, 2, none⟩ = some (.slice p4 D.length c4) := KB.at 2; clear b5))
    | (go_at_call 83; (with_reducible refine (Cmp_any (.slice p3 N.length c3) u5 N za _ hN hu5 nN nu5 (by have h9 := LN.out; omega)).mono ?_); (rintro e w6 ⟨rfl, b6⟩; rw [VN.out, vu5.out]; replace KB := KB.below b6 KB.lt; replace pr := bel pr b6; replace hN := hN.grow b6; have k0 : w6.cell? ⟨w3.heap.size, 0, none⟩ = some (.bool gz) := KB.at 0; have k1 : w6.cell? ⟨w3.heap.size, 1, none⟩ = some (.slice p3 N.length c3) := KB.at 1; have k2 : w6.cell? ⟨w3.heap.size, 2, none⟩ = some (.slice p4 D.length c4) := KB.at 2; clear b6))
    | fail)
  exact bodyPost_ret (v := .tuple #[.int .i64 0, .int .i64 1]) (by simp [results, Try.results38, go_sem]) rfl ⟨rfl, pr⟩
set_option maxHeartbeats 3200000 in
set_option maxRecDepth 100000 in
theorem rwhole_top (b way Z : Int) (r : Rat) (M : ∀ w, Calls Try.prog 66 #[.int .i64 way] w fun e w' => e = .returned (.bool true) ∧ w' = w) (Fi : ∀ w, Calls Try.prog 77 #[szW, .int .u64 b] w fun e w' => e = .returned (.bool true) ∧ Below w.heap.size w w')
    (NB : ∀ w, Calls Try.prog 68 #[szW, .int .u64 b] w fun e w' => ∃ v, e = .returned v ∧ IsQ w' v r ∧ Below w.heap.size w w')
    (R : ∀ w v, IsQ w v r → Calls Try.prog 81 #[v, .int .i64 way] w fun e w' => ∃ v, e = .returned v ∧ IsQ w' v (Z : Rat) ∧ Below w.heap.size w w') (hz : Hid ((Z.natAbs : Int) < pw 1000000)) (B : Nat) (hB : Hid (bl (Z.natAbs : Int) = B)) (hg : Hid (decide (Z < 0) = false)) (b64 : B = 64) (w : World) :
    Calls Try.prog 38 #[.int .u64 b, .int .i64 way] w fun e w' => e = .returned (.tuple #[.int .i64 0, .int .i64 1]) ∧ Below w.heap.size w w' := by
  have SH : ∀ (w : World) (v : Value), Rd w v [1] → Calls Try.prog 79 #[v, .int .i64 63] w fun e w' => ∃ r zs, e = .returned r ∧ Rd w' r zs ∧ Nm zs ∧ val zs = 9223372036854775808 ∧ Below w.heap.size w w' := fun w v h => (Shl_any v [1] 63 w h (by decide) (by decide)).mono (fun e w' k => by rw [val_one] at k; exact k)
  have pr := Below.refl w.heap.size w
  go_enter Try.func38, Try.ntmps38
  subst b64
  go_wp2_with (first
    | (go_at_call 66; (with_reducible refine (M _).mono ?_); rintro e w1 ⟨rfl, rfl⟩)
    | (go_at_call 11; (with_reducible refine (Wide_any _).mono ?_); (rintro e w1 ⟨rfl, b1⟩; replace pr := bel pr b1; clear b1))
    | (go_at_call 77; (with_reducible refine (Fi _).mono ?_); (rintro e w1 ⟨rfl, b1⟩; replace pr := bel pr b1; clear b1))
    | (go_at_call 68; (with_reducible refine (NB _).mono ?_); (rintro e w2 ⟨v2, rfl, hq2, b2⟩; replace pr := bel pr b2; clear b2))
    | (go_at_call 81; (with_reducible refine (R _ _ hq2).mono ?_); (rintro e w3 ⟨v3, rfl, hq3, b3⟩; replace pr := bel pr b3; clear b3; obtain ⟨gg, N, D, p3, c3, p4, c4, rfl, G, hN, nN, vN⟩ := isq_list hq3; have GZ := whole_sign G.out; obtain rfl : gg = false := GZ.trans hg.out; have VN : Hid (val N = (Z.natAbs : Int)) := vN; clear vN GZ; have KB := Blk.new w3 #[.bool false, .slice p3 N.length c3, .slice p4 D.length c4] 104; replace pr := bel_alloc (ob := (.cells #[.bool false, .slice p3 N.length c3, .slice p4 D.length c4] 104)) pr; replace hN := rd_alloc (ob := (.cells #[.bool false, .slice p3 N.length c3, .slice p4 D.length c4] 104)) hN; have BL : Hid _ := bl_of VN.out hB.out; have k0 : (w3.alloc (.cells #[.bool false, .slice p3 N.length c3, .slice p4 D.length c4] 104)).cell? ⟨w3.heap.size, 0, none⟩ = some (.bool false) := KB.at 0; have k1 : (w3.alloc (.cells #[.bool false, .slice p3 N.length c3, .slice p4 D.length c4] 104)).cell? ⟨w3.heap.size, 1, none⟩ = some (.slice p3 N.length c3) := KB.at 1; have k2 : (w3.alloc (.cells #[.bool false, .slice p3 N.length c3, .slice p4 D.length c4] 104)).cell? ⟨w3.heap.size, 2, none⟩ = some (.slice p4 D.length c4) := KB.at 2; have LN : Hid (N.length ≤ 1000000) := zlen hN.1 nN VN.out hz.out))
    | (go_at_call 82; (with_reducible refine (Bits_fn (.slice p3 N.length c3) N _ hN nN (by have h9 := LN.out; omega)).mono ?_); (rintro e w4 ⟨rfl, rfl⟩; rw [BL.out]))
    | (go_at_call 79; ((with_reducible refine (SH _ _ ?hrd).mono ?_)); (case hrd => exact rd_one (by repeat (first | ((with_reducible refine cell_at ?_); (first | rfl | (simp; done))) | with_reducible refine cell_drew ?_ | with_reducible refine cell_alloc ?_)) (by decide) (by decide)); (rintro e w5 ⟨u5, za, rfl, hu5, nu5, vu5', b5⟩; have vu5 : Hid (val za = 9223372036854775808) := vu5'; clear vu5'; have KB' := KB.alloc (.cells #[.int .i64 1] 3); clear KB; have KB := KB'; clear KB'; replace pr := bel_alloc (ob := (.cells #[.int .i64 1] 3)) pr; replace hN := rd_alloc (ob := (.cells #[.int .i64 1] 3)) hN; replace KB := KB.below b5 KB.lt; replace pr := bel pr b5; replace hN := hN.grow b5; have k0 : w5.cell? ⟨w3.heap.size, 0, none⟩ = some (.bool false) := KB.at 0; have k1 : w5.cell? ⟨w3.heap.size, 1, none⟩ = some (.slice p3 N.length c3) := KB.at 1; have k2 : w5.cell? ⟨w3.heap.size, 2, none⟩ = some (.slice p4 D.length c4) := KB.at 2; clear b5))
    | (go_at_call 83; (with_reducible refine (Cmp_any (.slice p3 N.length c3) u5 N za _ hN hu5 nN nu5 (by have h9 := LN.out; omega)).mono ?_); (rintro e w6 ⟨rfl, b6⟩; rw [VN.out, vu5.out]; replace KB := KB.below b6 KB.lt; replace pr := bel pr b6; replace hN := hN.grow b6; have k0 : w6.cell? ⟨w3.heap.size, 0, none⟩ = some (.bool false) := KB.at 0; have k1 : w6.cell? ⟨w3.heap.size, 1, none⟩ = some (.slice p3 N.length c3) := KB.at 1; have k2 : w6.cell? ⟨w3.heap.size, 2, none⟩ = some (.slice p4 D.length c4) := KB.at 2; clear b6))
    | fail)
  exact bodyPost_ret (v := .tuple #[.int .i64 0, .int .i64 1]) (by simp [results, Try.results38, go_sem]) rfl ⟨rfl, pr⟩
set_option maxHeartbeats 3200000 in
set_option maxRecDepth 100000 in
theorem rwhole_far (b way Z : Int) (r : Rat) (M : ∀ w, Calls Try.prog 66 #[.int .i64 way] w fun e w' => e = .returned (.bool true) ∧ w' = w) (Fi : ∀ w, Calls Try.prog 77 #[szW, .int .u64 b] w fun e w' => e = .returned (.bool true) ∧ Below w.heap.size w w')
    (NB : ∀ w, Calls Try.prog 68 #[szW, .int .u64 b] w fun e w' => ∃ v, e = .returned v ∧ IsQ w' v r ∧ Below w.heap.size w w')
    (R : ∀ w v, IsQ w v r → Calls Try.prog 81 #[v, .int .i64 way] w fun e w' => ∃ v, e = .returned v ∧ IsQ w' v (Z : Rat) ∧ Below w.heap.size w w') (hz : Hid ((Z.natAbs : Int) < pw 1000000)) (B : Nat) (hB : Hid (bl (Z.natAbs : Int) = B)) (hg : Hid (decide (Z < 0) = true)) (b64 : B = 64) (hc : (cmp3 (Z.natAbs : Int) 9223372036854775808 != 0) = true) (w : World) :
    Calls Try.prog 38 #[.int .u64 b, .int .i64 way] w fun e w' => e = .returned (.tuple #[.int .i64 0, .int .i64 1]) ∧ Below w.heap.size w w' := by
  have SH : ∀ (w : World) (v : Value), Rd w v [1] → Calls Try.prog 79 #[v, .int .i64 63] w fun e w' => ∃ r zs, e = .returned r ∧ Rd w' r zs ∧ Nm zs ∧ val zs = 9223372036854775808 ∧ Below w.heap.size w w' := fun w v h => (Shl_any v [1] 63 w h (by decide) (by decide)).mono (fun e w' k => by rw [val_one] at k; exact k)
  have pr := Below.refl w.heap.size w
  go_enter Try.func38, Try.ntmps38
  subst b64
  go_wp2_with (first
    | (go_at_call 66; (with_reducible refine (M _).mono ?_); rintro e w1 ⟨rfl, rfl⟩)
    | (go_at_call 11; (with_reducible refine (Wide_any _).mono ?_); (rintro e w1 ⟨rfl, b1⟩; replace pr := bel pr b1; clear b1))
    | (go_at_call 77; (with_reducible refine (Fi _).mono ?_); (rintro e w1 ⟨rfl, b1⟩; replace pr := bel pr b1; clear b1))
    | (go_at_call 68; (with_reducible refine (NB _).mono ?_); (rintro e w2 ⟨v2, rfl, hq2, b2⟩; replace pr := bel pr b2; clear b2))
    | (go_at_call 81; (with_reducible refine (R _ _ hq2).mono ?_); (rintro e w3 ⟨v3, rfl, hq3, b3⟩; replace pr := bel pr b3; clear b3; obtain ⟨gg, N, D, p3, c3, p4, c4, rfl, G, hN, nN, vN⟩ := isq_list hq3; have GZ := whole_sign G.out; obtain rfl : gg = true := GZ.trans hg.out; have VN : Hid (val N = (Z.natAbs : Int)) := vN; clear vN GZ; have KB := Blk.new w3 #[.bool true, .slice p3 N.length c3, .slice p4 D.length c4] 104; replace pr := bel_alloc (ob := (.cells #[.bool true, .slice p3 N.length c3, .slice p4 D.length c4] 104)) pr; replace hN := rd_alloc (ob := (.cells #[.bool true, .slice p3 N.length c3, .slice p4 D.length c4] 104)) hN; have BL : Hid _ := bl_of VN.out hB.out; have k0 : (w3.alloc (.cells #[.bool true, .slice p3 N.length c3, .slice p4 D.length c4] 104)).cell? ⟨w3.heap.size, 0, none⟩ = some (.bool true) := KB.at 0; have k1 : (w3.alloc (.cells #[.bool true, .slice p3 N.length c3, .slice p4 D.length c4] 104)).cell? ⟨w3.heap.size, 1, none⟩ = some (.slice p3 N.length c3) := KB.at 1; have k2 : (w3.alloc (.cells #[.bool true, .slice p3 N.length c3, .slice p4 D.length c4] 104)).cell? ⟨w3.heap.size, 2, none⟩ = some (.slice p4 D.length c4) := KB.at 2; have LN : Hid (N.length ≤ 1000000) := zlen hN.1 nN VN.out hz.out))
    | (go_at_call 82; (with_reducible refine (Bits_fn (.slice p3 N.length c3) N _ hN nN (by have h9 := LN.out; omega)).mono ?_); (rintro e w4 ⟨rfl, rfl⟩; rw [BL.out]))
    | (go_at_call 79; ((with_reducible refine (SH _ _ ?hrd).mono ?_)); (case hrd => exact rd_one (by repeat (first | ((with_reducible refine cell_at ?_); (first | rfl | (simp; done))) | with_reducible refine cell_drew ?_ | with_reducible refine cell_alloc ?_)) (by decide) (by decide)); (rintro e w5 ⟨u5, za, rfl, hu5, nu5, vu5', b5⟩; have vu5 : Hid (val za = 9223372036854775808) := vu5'; clear vu5'; have KB' := KB.alloc (.cells #[.int .i64 1] 3); clear KB; have KB := KB'; clear KB'; replace pr := bel_alloc (ob := (.cells #[.int .i64 1] 3)) pr; replace hN := rd_alloc (ob := (.cells #[.int .i64 1] 3)) hN; replace KB := KB.below b5 KB.lt; replace pr := bel pr b5; replace hN := hN.grow b5; have k0 : w5.cell? ⟨w3.heap.size, 0, none⟩ = some (.bool true) := KB.at 0; have k1 : w5.cell? ⟨w3.heap.size, 1, none⟩ = some (.slice p3 N.length c3) := KB.at 1; have k2 : w5.cell? ⟨w3.heap.size, 2, none⟩ = some (.slice p4 D.length c4) := KB.at 2; clear b5))
    | (go_at_call 83; (with_reducible refine (Cmp_any (.slice p3 N.length c3) u5 N za _ hN hu5 nN nu5 (by have h9 := LN.out; omega)).mono ?_); (rintro e w6 ⟨rfl, b6⟩; rw [VN.out, vu5.out]; replace KB := KB.below b6 KB.lt; replace pr := bel pr b6; replace hN := hN.grow b6; have k0 : w6.cell? ⟨w3.heap.size, 0, none⟩ = some (.bool true) := KB.at 0; have k1 : w6.cell? ⟨w3.heap.size, 1, none⟩ = some (.slice p3 N.length c3) := KB.at 1; have k2 : w6.cell? ⟨w3.heap.size, 2, none⟩ = some (.slice p4 D.length c4) := KB.at 2; clear b6))
    | fail)
  exact bodyPost_ret (v := .tuple #[.int .i64 0, .int .i64 1]) (by simp [results, Try.results38, go_sem]) rfl ⟨rfl, pr⟩
end Go.Proofs.Ytlngkonmalallaa.L

namespace Go.Proofs.Ytlngkonmalallaa.L
open Go.RowKit Tl

set_option maxHeartbeats 6400000 in
set_option maxRecDepth 100000 in
theorem rwhole_pos (b way Z : Int) (r : Rat) (M : ∀ w, Calls Try.prog 66 #[.int .i64 way] w fun e w' => e = .returned (.bool true) ∧ w' = w) (Fi : ∀ w, Calls Try.prog 77 #[szW, .int .u64 b] w fun e w' => e = .returned (.bool true) ∧ Below w.heap.size w w')
    (NB : ∀ w, Calls Try.prog 68 #[szW, .int .u64 b] w fun e w' => ∃ v, e = .returned v ∧ IsQ w' v r ∧ Below w.heap.size w w')
    (R : ∀ w v, IsQ w v r → Calls Try.prog 81 #[v, .int .i64 way] w fun e w' => ∃ v, e = .returned v ∧ IsQ w' v (Z : Rat) ∧ Below w.heap.size w w') (B : Nat) (hB : Hid (bl (Z.natAbs : Int) = B)) (hz64 : Hid ((Z.natAbs : Int) < 18446744073709551616)) (hg : Hid (decide (Z < 0) = false)) (b64 : B < 64) (z0 : Hid (0 ≤ Z ∧ Z < 9223372036854775808)) (w : World) :
    Calls Try.prog 38 #[.int .u64 b, .int .i64 way] w fun e w' => e = .returned (.tuple #[.int .i64 Z, .int .i64 0]) ∧ Below w.heap.size w w' := by
  have SH : ∀ (w : World) (v : Value), Rd w v [1] → Calls Try.prog 79 #[v, .int .i64 63] w fun e w' => ∃ r zs, e = .returned r ∧ Rd w' r zs ∧ Nm zs ∧ val zs = 9223372036854775808 ∧ Below w.heap.size w w' := fun w v h => (Shl_any v [1] 63 w h (by decide) (by decide)).mono (fun e w' k => by rw [val_one] at k; exact k)
  have pr := Below.refl w.heap.size w
  go_enter Try.func38, Try.ntmps38
  have b67 : decide ((B : Int) > 64) = false := by rw [decide_eq_false_iff_not]; omega
  have b66 : ((B : Int) == 64) = false := by rw [beq_eq_false_iff_ne]; omega
  clear b64
  go_wp2_with (first
    | (go_at_call 66; (with_reducible refine (M _).mono ?_); rintro e w1 ⟨rfl, rfl⟩)
    | (go_at_call 11; (with_reducible refine (Wide_any _).mono ?_); (rintro e w1 ⟨rfl, b1⟩; replace pr := bel pr b1; clear b1))
    | (go_at_call 77; (with_reducible refine (Fi _).mono ?_); (rintro e w1 ⟨rfl, b1⟩; replace pr := bel pr b1; clear b1))
    | (go_at_call 68; (with_reducible refine (NB _).mono ?_); (rintro e w2 ⟨v2, rfl, hq2, b2⟩; replace pr := bel pr b2; clear b2))
    | (go_at_call 81; (with_reducible refine (R _ _ hq2).mono ?_); (rintro e w3 ⟨v3, rfl, hq3, b3⟩; replace pr := bel pr b3; clear b3; obtain ⟨gg, N, D, p3, c3, p4, c4, rfl, G, hN, nN, vN⟩ := isq_list hq3; have GZ := whole_sign G.out; obtain rfl : gg = false := GZ.trans hg.out; have VN : Hid (val N = (Z.natAbs : Int)) := vN; clear vN GZ; have KB := Blk.new w3 #[.bool false, .slice p3 N.length c3, .slice p4 D.length c4] 104; replace pr := bel_alloc (ob := (.cells #[.bool false, .slice p3 N.length c3, .slice p4 D.length c4] 104)) pr; replace hN := rd_alloc (ob := (.cells #[.bool false, .slice p3 N.length c3, .slice p4 D.length c4] 104)) hN; have BL : Hid _ := bl_of VN.out hB.out; have k0 : (w3.alloc (.cells #[.bool false, .slice p3 N.length c3, .slice p4 D.length c4] 104)).cell? ⟨w3.heap.size, 0, none⟩ = some (.bool false) := KB.at 0; have k1 : (w3.alloc (.cells #[.bool false, .slice p3 N.length c3, .slice p4 D.length c4] 104)).cell? ⟨w3.heap.size, 1, none⟩ = some (.slice p3 N.length c3) := KB.at 1; have k2 : (w3.alloc (.cells #[.bool false, .slice p3 N.length c3, .slice p4 D.length c4] 104)).cell? ⟨w3.heap.size, 2, none⟩ = some (.slice p4 D.length c4) := KB.at 2; have LN : Hid (N.length ≤ 3) := len3 hN.1 nN VN.out hz64.out; have LW : IntKind.i64.wrap ((N.length : Int) - 1) = (N.length : Int) - 1 := wrap_self _ (by omega) (by have h9 := LN.out; omega)))
    | (go_at_call 82; (with_reducible refine (Bits_fn (.slice p3 N.length c3) N _ hN nN (by have h9 := LN.out; omega)).mono ?_); (rintro e w4 ⟨rfl, rfl⟩; rw [BL.out]))
    | (go_at_call 79; ((with_reducible refine (SH _ _ ?hrd).mono ?_)); (case hrd => exact rd_one (by repeat (first | ((with_reducible refine cell_at ?_); (first | rfl | (simp; done))) | with_reducible refine cell_drew ?_ | with_reducible refine cell_alloc ?_)) (by decide) (by decide)); (rintro e w5 ⟨u5, za, rfl, hu5, nu5, vu5', b5⟩; have vu5 : Hid (val za = 9223372036854775808) := vu5'; clear vu5'; have KB' := KB.alloc (.cells #[.int .i64 1] 3); clear KB; have KB := KB'; clear KB'; replace pr := bel_alloc (ob := (.cells #[.int .i64 1] 3)) pr; replace hN := rd_alloc (ob := (.cells #[.int .i64 1] 3)) hN; replace KB := KB.below b5 KB.lt; replace pr := bel pr b5; replace hN := hN.grow b5; have k0 : w5.cell? ⟨w3.heap.size, 0, none⟩ = some (.bool false) := KB.at 0; have k1 : w5.cell? ⟨w3.heap.size, 1, none⟩ = some (.slice p3 N.length c3) := KB.at 1; have k2 : w5.cell? ⟨w3.heap.size, 2, none⟩ = some (.slice p4 D.length c4) := KB.at 2; clear b5))
    | (go_at_call 83; (with_reducible refine (Cmp_any (.slice p3 N.length c3) u5 N za _ hN hu5 nN nu5 (by have h9 := LN.out; omega)).mono ?_); (rintro e w6 ⟨rfl, b6⟩; rw [VN.out, vu5.out]; replace KB := KB.below b6 KB.lt; replace pr := bel pr b6; replace hN := hN.grow b6; have k0 : w6.cell? ⟨w3.heap.size, 0, none⟩ = some (.bool false) := KB.at 0; have k1 : w6.cell? ⟨w3.heap.size, 1, none⟩ = some (.slice p3 N.length c3) := KB.at 1; have k2 : w6.cell? ⟨w3.heap.size, 2, none⟩ = some (.slice p4 D.length c4) := KB.at 2; clear b6))
    | fail)
  have hw := hN.1
  have ll := LN.out
  have m1 : Hid (val N < 18446744073709551616) := by show val N < _; rw [VN.out]; exact hz64.out
  go_loop [8, 9] (fun b i => ∃ j : Nat, j ≤ N.length ∧ i = .int .i64 ((j : Int) - 1) ∧ b = .int .u64 (val (N.drop j))) (fun _ i => (intOf i + 1).toNat)
  case atStart => exact ⟨N.length, Nat.le_refl _, by go_num, by simp [val]⟩
  case round =>
    obtain ⟨j, hj, rfl, rfl⟩ := hrel
    by_cases hlt : 0 < j
    · obtain ⟨i, rfl⟩ : ∃ i, j = i + 1 := ⟨j - 1, by omega⟩
      obtain ⟨bb, hb⟩ : ∃ bb, bb = val (N.drop (i + 1)) := ⟨_, rfl⟩
      have RR := whole_step hw (by omega) hb m1.out
      rw [← hb]
      obtain ⟨_, _, _, e', _, _, g1⟩ := hN
      obtain ⟨b1, o1, rfl, hc⟩ := g1 (by omega)
      have cc := hc.at (i := i) (by omega)
      have bx := nth_bd hw i
      have t1 : ((i : Int) + 1 - 1) = i := by omega
      have f1 : IntKind.u64.wrap (bb * 1073741824) = bb * 1073741824 := by rw [IntKind.wrap_u64]; omega
      have f2 : IntKind.u64.wrap (nth N i) = nth N i := by rw [IntKind.wrap_u64]; omega
      have f3 := or_limb bb (nth N i) RR.1 RR.2.1 bx.1 bx.2
      rw [RR.2.2] at f3
      clear RR hb
      go_wp2
      go_round
      case rel => exact ⟨i, by omega, by go_num, rfl⟩
      case measure => simp [intOf]
    · have ej : j = 0 := by omega
      subst ej
      rw [List.drop_zero, VN.out]
      have e1 : (Z.natAbs : Int) = Z := by have := z0.out; omega
      have f1 : IntKind.i64.wrap Z = Z := wrap_self _ (by have := z0.out; omega) (by have := z0.out; omega)
      rw [e1]
      go_wp2
      exact bodyPost_ret (v := .tuple #[.int .i64 Z, .int .i64 0]) (by simp [results, Try.results38, go_sem]) rfl ⟨rfl, pr⟩
set_option maxHeartbeats 6400000 in
set_option maxRecDepth 100000 in
theorem rwhole_neg (b way Z : Int) (r : Rat) (M : ∀ w, Calls Try.prog 66 #[.int .i64 way] w fun e w' => e = .returned (.bool true) ∧ w' = w) (Fi : ∀ w, Calls Try.prog 77 #[szW, .int .u64 b] w fun e w' => e = .returned (.bool true) ∧ Below w.heap.size w w')
    (NB : ∀ w, Calls Try.prog 68 #[szW, .int .u64 b] w fun e w' => ∃ v, e = .returned v ∧ IsQ w' v r ∧ Below w.heap.size w w')
    (R : ∀ w v, IsQ w v r → Calls Try.prog 81 #[v, .int .i64 way] w fun e w' => ∃ v, e = .returned v ∧ IsQ w' v (Z : Rat) ∧ Below w.heap.size w w') (B : Nat) (hB : Hid (bl (Z.natAbs : Int) = B)) (hz64 : Hid ((Z.natAbs : Int) < 18446744073709551616)) (hg : Hid (decide (Z < 0) = true)) (b64 : B < 64) (z0 : Hid (-9223372036854775808 < Z ∧ Z < 0)) (w : World) :
    Calls Try.prog 38 #[.int .u64 b, .int .i64 way] w fun e w' => e = .returned (.tuple #[.int .i64 Z, .int .i64 0]) ∧ Below w.heap.size w w' := by
  have SH : ∀ (w : World) (v : Value), Rd w v [1] → Calls Try.prog 79 #[v, .int .i64 63] w fun e w' => ∃ r zs, e = .returned r ∧ Rd w' r zs ∧ Nm zs ∧ val zs = 9223372036854775808 ∧ Below w.heap.size w w' := fun w v h => (Shl_any v [1] 63 w h (by decide) (by decide)).mono (fun e w' k => by rw [val_one] at k; exact k)
  have pr := Below.refl w.heap.size w
  go_enter Try.func38, Try.ntmps38
  have b67 : decide ((B : Int) > 64) = false := by rw [decide_eq_false_iff_not]; omega
  have b66 : ((B : Int) == 64) = false := by rw [beq_eq_false_iff_ne]; omega
  clear b64
  go_wp2_with (first
    | (go_at_call 66; (with_reducible refine (M _).mono ?_); rintro e w1 ⟨rfl, rfl⟩)
    | (go_at_call 11; (with_reducible refine (Wide_any _).mono ?_); (rintro e w1 ⟨rfl, b1⟩; replace pr := bel pr b1; clear b1))
    | (go_at_call 77; (with_reducible refine (Fi _).mono ?_); (rintro e w1 ⟨rfl, b1⟩; replace pr := bel pr b1; clear b1))
    | (go_at_call 68; (with_reducible refine (NB _).mono ?_); (rintro e w2 ⟨v2, rfl, hq2, b2⟩; replace pr := bel pr b2; clear b2))
    | (go_at_call 81; (with_reducible refine (R _ _ hq2).mono ?_); (rintro e w3 ⟨v3, rfl, hq3, b3⟩; replace pr := bel pr b3; clear b3; obtain ⟨gg, N, D, p3, c3, p4, c4, rfl, G, hN, nN, vN⟩ := isq_list hq3; have GZ := whole_sign G.out; obtain rfl : gg = true := GZ.trans hg.out; have VN : Hid (val N = (Z.natAbs : Int)) := vN; clear vN GZ; have KB := Blk.new w3 #[.bool true, .slice p3 N.length c3, .slice p4 D.length c4] 104; replace pr := bel_alloc (ob := (.cells #[.bool true, .slice p3 N.length c3, .slice p4 D.length c4] 104)) pr; replace hN := rd_alloc (ob := (.cells #[.bool true, .slice p3 N.length c3, .slice p4 D.length c4] 104)) hN; have BL : Hid _ := bl_of VN.out hB.out; have k0 : (w3.alloc (.cells #[.bool true, .slice p3 N.length c3, .slice p4 D.length c4] 104)).cell? ⟨w3.heap.size, 0, none⟩ = some (.bool true) := KB.at 0; have k1 : (w3.alloc (.cells #[.bool true, .slice p3 N.length c3, .slice p4 D.length c4] 104)).cell? ⟨w3.heap.size, 1, none⟩ = some (.slice p3 N.length c3) := KB.at 1; have k2 : (w3.alloc (.cells #[.bool true, .slice p3 N.length c3, .slice p4 D.length c4] 104)).cell? ⟨w3.heap.size, 2, none⟩ = some (.slice p4 D.length c4) := KB.at 2; have LN : Hid (N.length ≤ 3) := len3 hN.1 nN VN.out hz64.out; have LW : IntKind.i64.wrap ((N.length : Int) - 1) = (N.length : Int) - 1 := wrap_self _ (by omega) (by have h9 := LN.out; omega)))
    | (go_at_call 82; (with_reducible refine (Bits_fn (.slice p3 N.length c3) N _ hN nN (by have h9 := LN.out; omega)).mono ?_); (rintro e w4 ⟨rfl, rfl⟩; rw [BL.out]))
    | (go_at_call 79; ((with_reducible refine (SH _ _ ?hrd).mono ?_)); (case hrd => exact rd_one (by repeat (first | ((with_reducible refine cell_at ?_); (first | rfl | (simp; done))) | with_reducible refine cell_drew ?_ | with_reducible refine cell_alloc ?_)) (by decide) (by decide)); (rintro e w5 ⟨u5, za, rfl, hu5, nu5, vu5', b5⟩; have vu5 : Hid (val za = 9223372036854775808) := vu5'; clear vu5'; have KB' := KB.alloc (.cells #[.int .i64 1] 3); clear KB; have KB := KB'; clear KB'; replace pr := bel_alloc (ob := (.cells #[.int .i64 1] 3)) pr; replace hN := rd_alloc (ob := (.cells #[.int .i64 1] 3)) hN; replace KB := KB.below b5 KB.lt; replace pr := bel pr b5; replace hN := hN.grow b5; have k0 : w5.cell? ⟨w3.heap.size, 0, none⟩ = some (.bool true) := KB.at 0; have k1 : w5.cell? ⟨w3.heap.size, 1, none⟩ = some (.slice p3 N.length c3) := KB.at 1; have k2 : w5.cell? ⟨w3.heap.size, 2, none⟩ = some (.slice p4 D.length c4) := KB.at 2; clear b5))
    | (go_at_call 83; (with_reducible refine (Cmp_any (.slice p3 N.length c3) u5 N za _ hN hu5 nN nu5 (by have h9 := LN.out; omega)).mono ?_); (rintro e w6 ⟨rfl, b6⟩; rw [VN.out, vu5.out]; replace KB := KB.below b6 KB.lt; replace pr := bel pr b6; replace hN := hN.grow b6; have k0 : w6.cell? ⟨w3.heap.size, 0, none⟩ = some (.bool true) := KB.at 0; have k1 : w6.cell? ⟨w3.heap.size, 1, none⟩ = some (.slice p3 N.length c3) := KB.at 1; have k2 : w6.cell? ⟨w3.heap.size, 2, none⟩ = some (.slice p4 D.length c4) := KB.at 2; clear b6))
    | fail)
  have hw := hN.1
  have ll := LN.out
  have m1 : Hid (val N < 18446744073709551616) := by show val N < _; rw [VN.out]; exact hz64.out
  go_loop [8, 9] (fun b i => ∃ j : Nat, j ≤ N.length ∧ i = .int .i64 ((j : Int) - 1) ∧ b = .int .u64 (val (N.drop j))) (fun _ i => (intOf i + 1).toNat)
  case atStart => exact ⟨N.length, Nat.le_refl _, by go_num, by simp [val]⟩
  case round =>
    obtain ⟨j, hj, rfl, rfl⟩ := hrel
    by_cases hlt : 0 < j
    · obtain ⟨i, rfl⟩ : ∃ i, j = i + 1 := ⟨j - 1, by omega⟩
      obtain ⟨bb, hb⟩ : ∃ bb, bb = val (N.drop (i + 1)) := ⟨_, rfl⟩
      have RR := whole_step hw (by omega) hb m1.out
      rw [← hb]
      obtain ⟨_, _, _, e', _, _, g1⟩ := hN
      obtain ⟨b1, o1, rfl, hc⟩ := g1 (by omega)
      have cc := hc.at (i := i) (by omega)
      have bx := nth_bd hw i
      have t1 : ((i : Int) + 1 - 1) = i := by omega
      have f1 : IntKind.u64.wrap (bb * 1073741824) = bb * 1073741824 := by rw [IntKind.wrap_u64]; omega
      have f2 : IntKind.u64.wrap (nth N i) = nth N i := by rw [IntKind.wrap_u64]; omega
      have f3 := or_limb bb (nth N i) RR.1 RR.2.1 bx.1 bx.2
      rw [RR.2.2] at f3
      clear RR hb
      go_wp2
      go_round
      case rel => exact ⟨i, by omega, by go_num, rfl⟩
      case measure => simp [intOf]
    · have ej : j = 0 := by omega
      subst ej
      rw [List.drop_zero, VN.out]
      have e1 : IntKind.u64.wrap (-(Z.natAbs : Int)) = Z + 18446744073709551616 := by have := z0.out; rw [IntKind.wrap_u64]; omega
      have e2 : IntKind.i64.wrap (Z + 18446744073709551616) = Z := by have := z0.out; simp [IntKind.wrap, IntKind.bits, IntKind.signed]; omega
      go_wp2
      exact bodyPost_ret (v := .tuple #[.int .i64 Z, .int .i64 0]) (by simp [results, Try.results38, go_sem]) rfl ⟨rfl, pr⟩
set_option maxHeartbeats 6400000 in
set_option maxRecDepth 100000 in
theorem rwhole_least (b way Z : Int) (r : Rat) (M : ∀ w, Calls Try.prog 66 #[.int .i64 way] w fun e w' => e = .returned (.bool true) ∧ w' = w) (Fi : ∀ w, Calls Try.prog 77 #[szW, .int .u64 b] w fun e w' => e = .returned (.bool true) ∧ Below w.heap.size w w')
    (NB : ∀ w, Calls Try.prog 68 #[szW, .int .u64 b] w fun e w' => ∃ v, e = .returned v ∧ IsQ w' v r ∧ Below w.heap.size w w')
    (R : ∀ w v, IsQ w v r → Calls Try.prog 81 #[v, .int .i64 way] w fun e w' => ∃ v, e = .returned v ∧ IsQ w' v (Z : Rat) ∧ Below w.heap.size w w') (B : Nat) (hB : Hid (bl (Z.natAbs : Int) = B)) (hz64 : Hid ((Z.natAbs : Int) < 18446744073709551616)) (hg : Hid (decide (Z < 0) = true)) (b64 : B = 64) (hc : (cmp3 (Z.natAbs : Int) 9223372036854775808 != 0) = false) (z0 : Hid (-9223372036854775808 ≤ Z ∧ Z < 0)) (w : World) :
    Calls Try.prog 38 #[.int .u64 b, .int .i64 way] w fun e w' => e = .returned (.tuple #[.int .i64 Z, .int .i64 0]) ∧ Below w.heap.size w w' := by
  have SH : ∀ (w : World) (v : Value), Rd w v [1] → Calls Try.prog 79 #[v, .int .i64 63] w fun e w' => ∃ r zs, e = .returned r ∧ Rd w' r zs ∧ Nm zs ∧ val zs = 9223372036854775808 ∧ Below w.heap.size w w' := fun w v h => (Shl_any v [1] 63 w h (by decide) (by decide)).mono (fun e w' k => by rw [val_one] at k; exact k)
  have pr := Below.refl w.heap.size w
  go_enter Try.func38, Try.ntmps38
  subst b64
  go_wp2_with (first
    | (go_at_call 66; (with_reducible refine (M _).mono ?_); rintro e w1 ⟨rfl, rfl⟩)
    | (go_at_call 11; (with_reducible refine (Wide_any _).mono ?_); (rintro e w1 ⟨rfl, b1⟩; replace pr := bel pr b1; clear b1))
    | (go_at_call 77; (with_reducible refine (Fi _).mono ?_); (rintro e w1 ⟨rfl, b1⟩; replace pr := bel pr b1; clear b1))
    | (go_at_call 68; (with_reducible refine (NB _).mono ?_); (rintro e w2 ⟨v2, rfl, hq2, b2⟩; replace pr := bel pr b2; clear b2))
    | (go_at_call 81; (with_reducible refine (R _ _ hq2).mono ?_); (rintro e w3 ⟨v3, rfl, hq3, b3⟩; replace pr := bel pr b3; clear b3; obtain ⟨gg, N, D, p3, c3, p4, c4, rfl, G, hN, nN, vN⟩ := isq_list hq3; have GZ := whole_sign G.out; obtain rfl : gg = true := GZ.trans hg.out; have VN : Hid (val N = (Z.natAbs : Int)) := vN; clear vN GZ; have KB := Blk.new w3 #[.bool true, .slice p3 N.length c3, .slice p4 D.length c4] 104; replace pr := bel_alloc (ob := (.cells #[.bool true, .slice p3 N.length c3, .slice p4 D.length c4] 104)) pr; replace hN := rd_alloc (ob := (.cells #[.bool true, .slice p3 N.length c3, .slice p4 D.length c4] 104)) hN; have BL : Hid _ := bl_of VN.out hB.out; have k0 : (w3.alloc (.cells #[.bool true, .slice p3 N.length c3, .slice p4 D.length c4] 104)).cell? ⟨w3.heap.size, 0, none⟩ = some (.bool true) := KB.at 0; have k1 : (w3.alloc (.cells #[.bool true, .slice p3 N.length c3, .slice p4 D.length c4] 104)).cell? ⟨w3.heap.size, 1, none⟩ = some (.slice p3 N.length c3) := KB.at 1; have k2 : (w3.alloc (.cells #[.bool true, .slice p3 N.length c3, .slice p4 D.length c4] 104)).cell? ⟨w3.heap.size, 2, none⟩ = some (.slice p4 D.length c4) := KB.at 2; have LN : Hid (N.length ≤ 3) := len3 hN.1 nN VN.out hz64.out; have LW : IntKind.i64.wrap ((N.length : Int) - 1) = (N.length : Int) - 1 := wrap_self _ (by omega) (by have h9 := LN.out; omega)))
    | (go_at_call 82; (with_reducible refine (Bits_fn (.slice p3 N.length c3) N _ hN nN (by have h9 := LN.out; omega)).mono ?_); (rintro e w4 ⟨rfl, rfl⟩; rw [BL.out]))
    | (go_at_call 79; ((with_reducible refine (SH _ _ ?hrd).mono ?_)); (case hrd => exact rd_one (by repeat (first | ((with_reducible refine cell_at ?_); (first | rfl | (simp; done))) | with_reducible refine cell_drew ?_ | with_reducible refine cell_alloc ?_)) (by decide) (by decide)); (rintro e w5 ⟨u5, za, rfl, hu5, nu5, vu5', b5⟩; have vu5 : Hid (val za = 9223372036854775808) := vu5'; clear vu5'; have KB' := KB.alloc (.cells #[.int .i64 1] 3); clear KB; have KB := KB'; clear KB'; replace pr := bel_alloc (ob := (.cells #[.int .i64 1] 3)) pr; replace hN := rd_alloc (ob := (.cells #[.int .i64 1] 3)) hN; replace KB := KB.below b5 KB.lt; replace pr := bel pr b5; replace hN := hN.grow b5; have k0 : w5.cell? ⟨w3.heap.size, 0, none⟩ = some (.bool true) := KB.at 0; have k1 : w5.cell? ⟨w3.heap.size, 1, none⟩ = some (.slice p3 N.length c3) := KB.at 1; have k2 : w5.cell? ⟨w3.heap.size, 2, none⟩ = some (.slice p4 D.length c4) := KB.at 2; clear b5))
    | (go_at_call 83; (with_reducible refine (Cmp_any (.slice p3 N.length c3) u5 N za _ hN hu5 nN nu5 (by have h9 := LN.out; omega)).mono ?_); (rintro e w6 ⟨rfl, b6⟩; rw [VN.out, vu5.out]; replace KB := KB.below b6 KB.lt; replace pr := bel pr b6; replace hN := hN.grow b6; have k0 : w6.cell? ⟨w3.heap.size, 0, none⟩ = some (.bool true) := KB.at 0; have k1 : w6.cell? ⟨w3.heap.size, 1, none⟩ = some (.slice p3 N.length c3) := KB.at 1; have k2 : w6.cell? ⟨w3.heap.size, 2, none⟩ = some (.slice p4 D.length c4) := KB.at 2; clear b6))
    | fail)
  have hw := hN.1
  have ll := LN.out
  have m1 : Hid (val N < 18446744073709551616) := by show val N < _; rw [VN.out]; exact hz64.out
  go_loop [8, 9] (fun b i => ∃ j : Nat, j ≤ N.length ∧ i = .int .i64 ((j : Int) - 1) ∧ b = .int .u64 (val (N.drop j))) (fun _ i => (intOf i + 1).toNat)
  case atStart => exact ⟨N.length, Nat.le_refl _, by go_num, by simp [val]⟩
  case round =>
    obtain ⟨j, hj, rfl, rfl⟩ := hrel
    by_cases hlt : 0 < j
    · obtain ⟨i, rfl⟩ : ∃ i, j = i + 1 := ⟨j - 1, by omega⟩
      obtain ⟨bb, hb⟩ : ∃ bb, bb = val (N.drop (i + 1)) := ⟨_, rfl⟩
      have RR := whole_step hw (by omega) hb m1.out
      rw [← hb]
      obtain ⟨_, _, _, e', _, _, g1⟩ := hN
      obtain ⟨b1, o1, rfl, hc⟩ := g1 (by omega)
      have cc := hc.at (i := i) (by omega)
      have bx := nth_bd hw i
      have t1 : ((i : Int) + 1 - 1) = i := by omega
      have f1 : IntKind.u64.wrap (bb * 1073741824) = bb * 1073741824 := by rw [IntKind.wrap_u64]; omega
      have f2 : IntKind.u64.wrap (nth N i) = nth N i := by rw [IntKind.wrap_u64]; omega
      have f3 := or_limb bb (nth N i) RR.1 RR.2.1 bx.1 bx.2
      rw [RR.2.2] at f3
      clear RR hb
      go_wp2
      go_round
      case rel => exact ⟨i, by omega, by go_num, rfl⟩
      case measure => simp [intOf]
    · have ej : j = 0 := by omega
      subst ej
      rw [List.drop_zero, VN.out]
      have e1 : IntKind.u64.wrap (-(Z.natAbs : Int)) = Z + 18446744073709551616 := by have := z0.out; rw [IntKind.wrap_u64]; omega
      have e2 : IntKind.i64.wrap (Z + 18446744073709551616) = Z := by have := z0.out; simp [IntKind.wrap, IntKind.bits, IntKind.signed]; omega
      go_wp2
      exact bodyPost_ret (v := .tuple #[.int .i64 Z, .int .i64 0]) (by simp [results, Try.results38, go_sem]) rfl ⟨rfl, pr⟩
end Go.Proofs.Ytlngkonmalallaa.L

namespace Go.Proofs.Ytlngkonmalallaa.L
open Go.RowKit Tl

theorem cross (n : Int) {d : Nat} (hd : 0 < d) : (mkRat n d).num * (d : Int) = n * ((mkRat n d).den : Int) := by
  have h := Rat.mkRat_self (mkRat n d)
  rwa [Rat.mkRat_eq_iff (mkRat n d).den_nz (by omega)] at h
theorem floor_mk (n : Int) {d : Nat} (hd : 0 < d) : (mkRat n d).floor = n / (d : Int) := by
  have c := cross n hd
  have q := den_pos' (mkRat n d)
  rw [Rat.floor_def]
  generalize (mkRat n d).num = a at *
  generalize ((mkRat n d).den : Int) = b at *
  have d0 : (0 : Int) < d := by omega
  have ev := Int.mul_ediv_add_emod n (d : Int)
  have m0 := Int.emod_nonneg n (show (d : Int) ≠ 0 by omega)
  have m1 := Int.emod_lt_of_pos n d0
  generalize n / (d : Int) = k at *
  generalize n % (d : Int) = ρ at *
  have e : (a - k * b) * (d : Int) = ρ * b := by rw [← ev] at c; grind
  refine (emod_of (r := a - k * b) (by omega) ?_ ?_ q).1
  · have h1 : 0 ≤ ρ * b := Int.mul_nonneg m0 (by omega)
    by_cases z : 0 ≤ a - k * b
    · exact z
    · have := neg_mul_of (show a - k * b < 0 by omega) d0; omega
  · have h1 : ρ * b < (d : Int) * b := Int.mul_lt_mul_of_pos_right m1 q
    rw [← e, Int.mul_comm (d : Int) b] at h1
    exact Int.lt_of_mul_lt_mul_right h1 (by omega)
theorem sub_mk (n f : Int) {d : Nat} (hd : 0 < d) : mkRat n d - (f : Rat) = mkRat (n - f * d) d := by
  have d0 : (d : Rat) ≠ 0 := by
    intro k
    have := Rat.natCast_eq_zero_iff.1 k
    omega
  rw [Rat.mkRat_eq_div, Rat.mkRat_eq_div, Rat.intCast_sub, Rat.intCast_mul, Rat.intCast_natCast]
  grind
theorem lt_mk (a c : Int) {b d : Nat} (hb : 0 < b) (hd : 0 < d) : mkRat a b < mkRat c d ↔ a * d < c * b := by
  have x := cross a hb
  have y := cross c hd
  have p := den_pos' (mkRat a b)
  have q := den_pos' (mkRat c d)
  rw [Rat.lt_iff]
  generalize (mkRat a b).num = A at *
  generalize ((mkRat a b).den : Int) = B at *
  generalize (mkRat c d).num = C at *
  generalize ((mkRat c d).den : Int) = D at *
  have b0 : (0 : Int) < b := by omega
  have d0 : (0 : Int) < d := by omega
  have g1 : (0 : Int) < (b : Int) * d := Int.mul_pos b0 d0
  have g2 : (0 : Int) < B * D := Int.mul_pos p q
  rw [← mul_lt_iff g1, ← mul_lt_iff (a := a * d) g2]
  have e1 : (b : Int) * d * (A * D) = B * D * (a * d) := by
    have : (b : Int) * d * (A * D) = (A * b) * D * d := by grind
    rw [this, x]; grind
  have e2 : (b : Int) * d * (C * B) = B * D * (c * b) := by
    have : (b : Int) * d * (C * B) = (C * d) * B * b := by grind
    rw [this, y]; grind
  rw [e1, e2]
theorem cmp_mk (a c : Int) {b d : Nat} (hb : 0 < b) (hd : 0 < d) : cmpR (mkRat a b) (mkRat c d) = cmp3 (a * d) (c * b) := by
  unfold cmpR cmp3
  simp only [lt_mk a c hb hd, lt_mk c a hd hb]
theorem neg_mk (n : Int) {d : Nat} (hd : 0 < d) : decide ((mkRat n d).num < 0) = decide (n < 0) := by
  have c := cross n hd
  have q := den_pos' (mkRat n d)
  have d0 : (0 : Int) < d := by omega
  generalize (mkRat n d).num = a at *
  generalize ((mkRat n d).den : Int) = b at *
  rw [Bool.eq_iff_iff, decide_eq_true_iff, decide_eq_true_iff]
  constructor
  · intro k
    have := neg_mul_of k d0
    by_cases z : n < 0
    · exact z
    · have := Int.mul_nonneg (show 0 ≤ n by omega) (show 0 ≤ b by omega); omega
  · intro k
    have := neg_mul_of k q
    by_cases z : a < 0
    · exact z
    · have := Int.mul_nonneg (show 0 ≤ a by omega) (show 0 ≤ (d : Int) by omega); omega
/-- A fraction, rounded to a whole number. -/
theorem rndQ_mk (way n : Int) {d : Nat} (hd : 0 < d) : rndQ way (mkRat n d) = if n % (d : Int) = 0 then n / (d : Int) else if upQ way (decide (n < 0)) (decide (((n / (d : Int)).natAbs : Int) % 2 = 0)) (cmp3 (n % (d : Int) * 2) d) = true then n / (d : Int) + 1 else n / (d : Int) := by
  unfold rndQ
  have ev := Int.mul_ediv_add_emod n (d : Int)
  rw [floor_mk n hd, sub_mk n _ hd, show n - n / (d : Int) * d = n % (d : Int) from by rw [Int.mul_comm]; omega, neg_mk n hd, cmp_mk _ 1 hd (by decide)]
  rw [show (1 : Int) * (d : Int) = d from Int.one_mul _, show ((2 : Nat) : Int) = 2 from rfl]
  by_cases z : n % (d : Int) = 0
  · rw [if_pos z, if_pos (by rw [z, Rat.zero_mkRat])]
  · rw [if_neg z, if_neg (fun k => z ((Rat.mkRat_eq_zero (by omega)).1 k))]
theorem cmp3_cases (x y : Int) : cmp3 x y = 1 ∨ cmp3 x y = 0 ∨ cmp3 x y = -1 := by
  unfold cmp3
  split
  · simp
  · split <;> simp
theorem two_cast (T : Nat) : (((2 ^ T : Nat)) : Int) = (2 : Int) ^ T := by simp
theorem up_away (way : Int) (w1 : 1 ≤ way) (w2 : way ≤ 6) (ev : Bool) (c : Int) (hc : c = 1 ∨ c = 0 ∨ c = -1) : upQ way false ev c = awayF way false (!ev) c ∧ upQ way true (!ev) (-c) = !awayF way true (!ev) c := by
  have : way = 1 ∨ way = 2 ∨ way = 3 ∨ way = 4 ∨ way = 5 ∨ way = 6 := by omega
  rcases this with rfl | rfl | rfl | rfl | rfl | rfl <;> rcases hc with rfl | rfl | rfl <;> cases ev <;> decide
theorem rnd_pos (way m : Int) (T : Nat) (w1 : 1 ≤ way) (w2 : way ≤ 6) (m0 : 0 ≤ m) (hT : 1 ≤ T) : rndQ way (mkRat m (2 ^ T)) = (cutF m T false false way).1 := by
  have hd : 0 < 2 ^ T := Nat.two_pow_pos T
  rw [rndQ_mk way m hd, two_cast]
  unfold cutF
  have q0 : 0 ≤ m / 2 ^ T := Int.ediv_nonneg m0 (Int.le_of_lt (two_pow_pos T))
  by_cases z : m % 2 ^ T = 0
  · rw [if_pos z, if_pos ⟨z, rfl⟩]
  · rw [if_neg z, if_neg (show ¬ (m % 2 ^ T = 0 ∧ false = false) from fun k => z k.1), beside_cmp hT, decide_eq_false (show ¬ m < 0 by omega)]
    have u := (up_away way w1 w2 (decide (((m / 2 ^ T).natAbs : Int) % 2 = 0)) (cmp3 (m % 2 ^ T * 2) (2 ^ T)) (cmp3_cases _ _)).1
    have o : (!decide (((m / 2 ^ T).natAbs : Int) % 2 = 0)) = (m / 2 ^ T % 2 == 1) := by
      rw [show ((m / 2 ^ T).natAbs : Int) = m / 2 ^ T from by omega]
      rcases Int.emod_two_eq (m / 2 ^ T) with k | k <;> rw [k] <;> rfl
    rw [u, o]
theorem rnd_neg (way m : Int) (T : Nat) (w1 : 1 ≤ way) (w2 : way ≤ 6) (m0 : 0 < m) (hT : 1 ≤ T) : rndQ way (mkRat (-m) (2 ^ T)) = -(cutF m T false true way).1 := by
  have hd : 0 < 2 ^ T := Nat.two_pow_pos T
  rw [rndQ_mk way (-m) hd, two_cast]
  unfold cutF
  have tp := two_pow_pos T
  have q0 : 0 ≤ m / 2 ^ T := Int.ediv_nonneg (by omega) (Int.le_of_lt tp)
  have ev := Int.mul_ediv_add_emod m (2 ^ T)
  have r0 := Int.emod_nonneg m (show (2 : Int) ^ T ≠ 0 by omega)
  have r1 := Int.emod_lt_of_pos m tp
  have bs : besideF (m % 2 ^ T) T false = cmp3 (m % 2 ^ T * 2) (2 ^ T) := beside_cmp hT
  generalize (2 : Int) ^ T = D at *
  by_cases z : m % D = 0
  · obtain ⟨d1, d2⟩ := emod_of (a := -m) (q := -(m / D)) (b := D) (r := 0) (by rw [Int.neg_mul, Int.mul_comm]; omega) (Int.le_refl _) tp tp
    rw [d2, if_pos rfl, d1, if_pos (show m % D = 0 ∧ false = false from ⟨z, rfl⟩)]
  · obtain ⟨d1, d2⟩ := emod_of (a := -m) (q := -(m / D + 1)) (b := D) (r := D - m % D) (by rw [Int.neg_mul, Int.add_mul, Int.one_mul, Int.mul_comm]; omega) (by omega) (by omega) tp
    rw [d2, d1, if_neg (show ¬ D - m % D = 0 by omega), if_neg (show ¬ (m % D = 0 ∧ false = false) from fun k => z k.1), decide_eq_true (show -m < 0 by omega), bs]
    have o : (m / D % 2 == 1) = !decide (m / D % 2 = 0) := by
      rcases Int.emod_two_eq (m / D) with k | k <;> rw [k] <;> rfl
    have o2 : decide (((-(m / D + 1)).natAbs : Int) % 2 = 0) = !decide (m / D % 2 = 0) := by
      rw [show ((-(m / D + 1)).natAbs : Int) = m / D + 1 from by omega]
      rcases Int.emod_two_eq (m / D) with k | k
      · rw [k, decide_eq_false (show ¬ (m / D + 1) % 2 = 0 by omega)]; rfl
      · rw [k, decide_eq_true (show (m / D + 1) % 2 = 0 by omega)]; rfl
    have cn : cmp3 ((D - m % D) * 2) D = -cmp3 (m % D * 2) D := by
      unfold cmp3
      generalize m % D = x at *
      by_cases k : x * 2 < D
      · rw [if_neg (show ¬ (D - x) * 2 < D by omega), if_pos (show D < (D - x) * 2 by omega), if_pos k]; rfl
      · by_cases k2 : D < x * 2
        · rw [if_pos (show (D - x) * 2 < D by omega), if_neg k, if_pos k2]
        · rw [if_neg (show ¬ (D - x) * 2 < D by omega), if_neg (show ¬ D < (D - x) * 2 by omega), if_neg k, if_neg k2]; rfl
    have u := (up_away way w1 w2 (decide (m / D % 2 = 0)) (cmp3 (m % D * 2) D) (cmp3_cases _ _)).2
    rw [o, o2, cn, u]
    simp only
    cases awayF way true (!decide (m / D % 2 = 0)) (cmp3 (m % D * 2) D)
    · rw [if_pos (by decide), if_neg (by decide)]; omega
    · rw [if_neg (by decide), if_pos rfl]
end Go.Proofs.Ytlngkonmalallaa.L
