import Derived.Test.YtebilgnmnambnaaGreatDoorPart12
import Derived.Test.YtebilgnmnambnaaGreatDoorPart11
import Derived.Test.YtebilgnmnambnaaGreatDoorProg
import Derived.Test.YtebilgnmnambnaaGreatDoorPart02

namespace Go.Proofs.YtebilgnmnambnaaGreatDoor.L
open Go.RowKit Tl
def upQ (way : Int) (neg even : Bool) (c : Int) : Bool :=
 if way = 2 then true else if way = 3 then neg else if way = 4 then !neg else if way = 5 then (decide (0 < c) || (c == 0 && !neg)) else if way = 6 then (decide (0 < c) || (c == 0 && !even)) else false
def rndQ (way : Int) (r : Rat) : Int :=
 if r - (r.floor : Rat) = 0 then r.floor else if upQ way (decide (r.num < 0)) (decide ((r.floor.natAbs : Int) % 2 = 0)) (cmpR (r - (r.floor : Rat)) (mkRat 1 2)) = true then r.floor + 1 else r.floor
theorem pw_two' (K : Nat) : pw (K + 2) = 1152921504606846976 * pw K := by
 simp only [pw]; omega
theorem floor_qs {r : Rat} {K : Nat} (h : QS r K) : QS (r.floor : Rat) (K + 2) := by
 have d := den_pos' r
 have p := pw_pos K
 have e := pw_two' K
 have h1 := h.1
 have fd : r.floor = r.num / (r.den : Int) := Rat.floor_def r
 have b : (r.floor.natAbs : Int) ≤ r.num.natAbs := by
  rw [fd]
  have ev := Int.mul_ediv_add_emod r.num (r.den : Int)
  have m0 := Int.emod_nonneg r.num (show (r.den : Int) ≠ 0 by omega)
  have m1 := Int.emod_lt_of_pos r.num d
  generalize r.num / (r.den : Int) = q at *
  by_cases c : 0 ≤ q
  ·have := Int.mul_le_mul_of_nonneg_right (show 1 ≤ (r.den : Int) by omega) c
   omega
  ·have := Int.mul_le_mul_of_nonneg_right (show 1 ≤ (r.den : Int) by omega) (show 0 ≤ -q - 1 by omega)
   have x : (r.den : Int) * (-q - 1) = -((r.den : Int) * q) - r.den := by grind
   omega
 refine ⟨?_, ?_⟩
 ·show (r.floor.natAbs : Int) < _
  omega
 ·show (1 : Int) < _
  omega
theorem mk_qs {n : Int} {d K : Nat} (h0 : 0 ≤ n) (h1 : n < d) (hK : (d : Int) < pw K) : QS (mkRat n d) K := by
 have d0 : d ≠ 0 := by omega
 have g0 : 0 < d.gcd n.natAbs := Nat.gcd_pos_of_pos_left _ (by omega)
 refine ⟨?_, ?_⟩
 ·rw [Rat.num_mkRat, if_neg d0]
  have a : n / ((d.gcd n.natAbs : Nat) : Int) ≤ n := Int.ediv_le_self _ h0
  have b : 0 ≤ n / ((d.gcd n.natAbs : Nat) : Int) := Int.ediv_nonneg h0 (by omega)
  omega
 ·rw [Rat.den_mkRat, if_neg d0]
  have := Nat.div_le_self d (d.gcd n.natAbs)
  omega
theorem qs_mono {r : Rat} {K L : Nat} (h : QS r K) (hl : K ≤ L) : QS r L := by
 have := pw_mono hl
 exact ⟨by have := h.1; omega, by have := h.2; omega⟩
theorem rest_qs {r : Rat} {K : Nat} (h : QS r K) : QS (r - (r.floor : Rat)) (K + 2) := by
 have d := den_pos' r
 rw [sub_rat, Rat.floor_def]
 have ev := Int.mul_ediv_add_emod r.num (r.den : Int)
 have m0 := Int.emod_nonneg r.num (show (r.den : Int) ≠ 0 by omega)
 have m1 := Int.emod_lt_of_pos r.num d
 rw [show r.num - r.num / (r.den : Int) * r.den = r.num % (r.den : Int) from by rw [Int.mul_comm] at ev; omega]
 exact qs_mono (mk_qs m0 m1 h.2) (by omega)
theorem cmpR_cases (r s : Rat) : cmpR r s = 1 ∨ cmpR r s = 0 ∨ cmpR r s = -1 := by
 unfold cmpR
 split
 ·simp
 ·split <;> simp
end Go.Proofs.YtebilgnmnambnaaGreatDoor.L

namespace Go.Proofs.YtebilgnmnambnaaGreatDoor.L
open Go.RowKit Tl
theorem mul_lt_iff {G a b : Int} (h : 0 < G) : G * a < G * b ↔ a < b := ⟨fun k => Int.lt_of_mul_lt_mul_left k (Int.le_of_lt h), fun k => Int.mul_lt_mul_of_pos_left k h⟩
theorem cross (n : Int) {d : Nat} (hd : 0 < d) : (mkRat n d).num * (d : Int) = n * ((mkRat n d).den : Int) := by
  have h := Rat.mkRat_self (mkRat n d)
  rwa [Rat.mkRat_eq_iff (mkRat n d).den_nz (by omega)] at h
theorem lt_mk (a c : Int) {b d : Nat} (hb : 0 < b) (hd : 0 < d) : mkRat a b < mkRat c d ↔ a * d < c * b := by
  have x := cross a hb
  have y := cross c hd
  have p := den_pos' (mkRat a b)
  have q := den_pos' (mkRat c d)
  rw [Rat.lt_iff]
  generalize (mkRat a b).num = A at *
  generalize ((mkRat a b).den : Int) = B at *
  generalize (mkRat c d).num = C at *
  generalize ((mkRat c d).den : Int) = D at *
  have b0 : (0 : Int) < b := by omega
  have d0 : (0 : Int) < d := by omega
  have g1 : (0 : Int) < (b : Int) * d := Int.mul_pos b0 d0
  have g2 : (0 : Int) < B * D := Int.mul_pos p q
  rw [← mul_lt_iff g1, ← mul_lt_iff (a := a * d) g2]
  have e1 : (b : Int) * d * (A * D) = B * D * (a * d) := by
    have : (b : Int) * d * (A * D) = (A * b) * D * d := by grind
    rw [this, x]; grind
  have e2 : (b : Int) * d * (C * B) = B * D * (c * b) := by
    have : (b : Int) * d * (C * B) = (C * d) * B * b := by grind
    rw [this, y]; grind
  rw [e1, e2]
theorem cmp_mk (a c : Int) {b d : Nat} (hb : 0 < b) (hd : 0 < d) : cmpR (mkRat a b) (mkRat c d) = cmp3 (a * d) (c * b) := by
  unfold cmpR cmp3
  simp only [lt_mk a c hb hd, lt_mk c a hd hb]
end Go.Proofs.YtebilgnmnambnaaGreatDoor.L

namespace Go.Proofs.YtebilgnmnambnaaGreatDoor.Mo
open Go.RowKit Go.Proofs.YtebilgnmnambnaaGreatDoor.L
theorem wrapI (x : Int) (h0 : -9223372036854775808 ≤ x) (h1 : x < 9223372036854775808) : IntKind.i64.wrap x = x := by
 simp [IntKind.wrap, IntKind.bits, IntKind.signed]; omega
end Go.Proofs.YtebilgnmnambnaaGreatDoor.Mo

namespace Go.Proofs.YtebilgnmnambnaaGreatDoor.L
open Go.RowKit Tl Go.Lib
end Go.Proofs.YtebilgnmnambnaaGreatDoor.L

namespace Go.Proofs.YtebilgnmnambnaaGreatDoor.L
open Go.RowKit Tl Go.Lib
end Go.Proofs.YtebilgnmnambnaaGreatDoor.L

namespace Go.Proofs.YtebilgnmnambnaaGreatDoor.L
open Go.RowKit Tl
end Go.Proofs.YtebilgnmnambnaaGreatDoor.L

namespace Go.Proofs.YtebilgnmnambnaaGreatDoor.L
open Go.RowKit Tl
end Go.Proofs.YtebilgnmnambnaaGreatDoor.L

namespace Go.Proofs.YtebilgnmnambnaaGreatDoor.L
open Go.RowKit Tl
end Go.Proofs.YtebilgnmnambnaaGreatDoor.L

namespace Go.Proofs.YtebilgnmnambnaaGreatDoor.L
open Go.RowKit Tl
set_option maxHeartbeats 6400000 in
set_option maxRecDepth 100000 in
theorem qround_h (QCM : ∀ (a b : Value) (r s : Rat) (K : Nat) (w : World), IsQ w a r → IsQ w b s → QS r K → QS s K → K ≤ 1000000000 → Calls Tryz.prog 35 #[a, b] w fun e w' => e = .returned (.int .i64 (cmpR r s)) ∧ Below w.heap.size w w')
    (QAD : ∀ (a b : Value) (r s : Rat) (K : Nat) (w : World), IsQ w a r → IsQ w b s → QS r K → QS s K → K ≤ 1000000000 → Calls Tryz.prog 40 #[a, b] w fun e w' => ∃ v, e = .returned v ∧ IsQ w' v (r + s) ∧ Below w.heap.size w w')
    (g : Bool) (p1 p2 : Option Addr) (m1 c1 m2 c2 : Nat) (r : Rat) (K : Nat) (way : Int) (w : World) (ha : IsQ w (.agg #[.bool g, .slice p1 m1 c1, .slice p2 m2 c2]) r) (hQ : QS r K) (hK : K ≤ 100000) (hz : Hid (r - (r.floor : Rat) ≠ 0)) (RQ : Hid (QS (r - (r.floor : Rat)) (K + 2))) (LQ : Hid (QS (r.floor : Rat) (K + 2))) (c : Int) (hc : Hid (cmpR (r - (r.floor : Rat)) (mkRat 1 2) = c)) (UP od : Bool) (hod : Hid (od = decide ((r.floor.natAbs : Int) % 2 = 0)))
    (HU : (way = 2 ∧ UP = true) ∨ (way = 3 ∧ UP = g) ∨ (way = 4 ∧ UP = !g) ∨ (way = 5 ∧ c = 1 ∧ UP = true) ∨ (way = 5 ∧ c = 0 ∧ UP = !g) ∨ (way = 5 ∧ c = -1 ∧ UP = false) ∨ (way = 6 ∧ c = 1 ∧ UP = true) ∨ (way = 6 ∧ c = 0 ∧ UP = !od) ∨ (way = 6 ∧ c = -1 ∧ UP = false) ∨ ((way == 2) = false ∧ (way == 3) = false ∧ (way == 4) = false ∧ (way == 5) = false ∧ (way == 6) = false ∧ UP = false)) :
    Calls Tryz.prog 71 #[.agg #[.bool g, .slice p1 m1 c1, .slice p2 m2 c2], .int .i64 way] w fun e w' => ∃ v, e = .returned v ∧ IsQ w' v (if UP = true then (r.floor : Rat) + ((1 : Int) : Rat) else (r.floor : Rat)) ∧ Below w.heap.size w w' := by
  go_enter Tryz.func71, Tryz.ntmps71
  have K1 : Blk ((w.alloc (.cells #[.bool g, .slice p1 m1 c1, .slice p2 m2 c2] 56)).alloc (.cells #[.bool false, .slice none 0 0, .slice none 0 0] 56)) w.heap.size #[.bool g, .slice p1 m1 c1, .slice p2 m2 c2] 56 := (Blk.new w _ _).alloc _
  have K2 : Blk ((w.alloc (.cells #[.bool g, .slice p1 m1 c1, .slice p2 m2 c2] 56)).alloc (.cells #[.bool false, .slice none 0 0, .slice none 0 0] 56)) (w.heap.size + 1) #[.bool false, .slice none 0 0, .slice none 0 0] 56 := blk_at (by simp)
  have pr : Below w.heap.size w ((w.alloc (.cells #[.bool g, .slice p1 m1 c1, .slice p2 m2 c2] 56)).alloc (.cells #[.bool false, .slice none 0 0, .slice none 0 0] 56)) := ((Below.refl _ _).alloc (Nat.le_refl _) _).alloc (by simp) _
  go_upto_region 5 with (first
    | (go_at_call 89; ((with_reducible refine (QFloor_any (.agg #[.bool g, .slice p1 m1 c1, .slice p2 m2 c2]) r K _ (ha.grow pr) hQ (by omega)).mono ?_)); (rintro e w1 ⟨u, v, rfl, hl, hr, b1⟩; have nq2 : w1.heap.size ≠ w.heap.size + 1 := (by have h9 := (K2.below b1 K2.lt).lt; omega); obtain ⟨gl, p3, m3, c3, p4, m4, c4, rfl, GL⟩ := isq_form hl; obtain ⟨gr, p5, m5, c5, p6, m6, c6, rfl, GR⟩ := isq_form hr; replace K1 := ((K1.below b1 K1.lt).alloc (.cells #[.bool gl, .slice p3 m3 c3, .slice p4 m4 c4] 56)).alloc (.cells #[.bool gr, .slice p5 m5 c5, .slice p6 m6 c6] 56); replace K2 := ((K2.below b1 K2.lt).alloc (.cells #[.bool gl, .slice p3 m3 c3, .slice p4 m4 c4] 56)).alloc (.cells #[.bool gr, .slice p5 m5 c5, .slice p6 m6 c6] 56); replace pr := bel_alloc (ob := (.cells #[.bool gr, .slice p5 m5 c5, .slice p6 m6 c6] 56)) (bel_alloc (ob := (.cells #[.bool gl, .slice p3 m3 c3, .slice p4 m4 c4] 56)) (bel pr b1)); clear b1; have K3 : Blk ((w1.alloc (.cells #[.bool gl, .slice p3 m3 c3, .slice p4 m4 c4] 56)).alloc (.cells #[.bool gr, .slice p5 m5 c5, .slice p6 m6 c6] 56)) w1.heap.size #[.bool gl, .slice p3 m3 c3, .slice p4 m4 c4] 56 := (Blk.new w1 _ _).alloc _; have K4 : Blk ((w1.alloc (.cells #[.bool gl, .slice p3 m3 c3, .slice p4 m4 c4] 56)).alloc (.cells #[.bool gr, .slice p5 m5 c5, .slice p6 m6 c6] 56)) (w1.heap.size + 1) #[.bool gr, .slice p5 m5 c5, .slice p6 m6 c6] 56 := blk_at (by simp); have HS : Hid _ := isq_sign hr; replace hl := IsQ.alloc (ob := (.cells #[.bool gr, .slice p5 m5 c5, .slice p6 m6 c6] 56)) (IsQ.alloc (ob := (.cells #[.bool gl, .slice p3 m3 c3, .slice p4 m4 c4] 56)) hl); replace hr := IsQ.alloc (ob := (.cells #[.bool gr, .slice p5 m5 c5, .slice p6 m6 c6] 56)) (IsQ.alloc (ob := (.cells #[.bool gl, .slice p3 m3 c3, .slice p4 m4 c4] 56)) hr); have ka0 : ((w1.alloc (.cells #[.bool gl, .slice p3 m3 c3, .slice p4 m4 c4] 56)).alloc (.cells #[.bool gr, .slice p5 m5 c5, .slice p6 m6 c6] 56)).cell? ⟨w.heap.size, 0, none⟩ = some (.bool g) := K1.at 0; have ka1 : ((w1.alloc (.cells #[.bool gl, .slice p3 m3 c3, .slice p4 m4 c4] 56)).alloc (.cells #[.bool gr, .slice p5 m5 c5, .slice p6 m6 c6] 56)).cell? ⟨w.heap.size, 1, none⟩ = some (.slice p1 m1 c1) := K1.at 1; have ka2 : ((w1.alloc (.cells #[.bool gl, .slice p3 m3 c3, .slice p4 m4 c4] 56)).alloc (.cells #[.bool gr, .slice p5 m5 c5, .slice p6 m6 c6] 56)).cell? ⟨w.heap.size, 2, none⟩ = some (.slice p2 m2 c2) := K1.at 2; have kl0 : ((w1.alloc (.cells #[.bool gl, .slice p3 m3 c3, .slice p4 m4 c4] 56)).alloc (.cells #[.bool gr, .slice p5 m5 c5, .slice p6 m6 c6] 56)).cell? ⟨w1.heap.size, 0, none⟩ = some (.bool gl) := K3.at 0; have kl1 : ((w1.alloc (.cells #[.bool gl, .slice p3 m3 c3, .slice p4 m4 c4] 56)).alloc (.cells #[.bool gr, .slice p5 m5 c5, .slice p6 m6 c6] 56)).cell? ⟨w1.heap.size, 1, none⟩ = some (.slice p3 m3 c3) := K3.at 1; have kl2 : ((w1.alloc (.cells #[.bool gl, .slice p3 m3 c3, .slice p4 m4 c4] 56)).alloc (.cells #[.bool gr, .slice p5 m5 c5, .slice p6 m6 c6] 56)).cell? ⟨w1.heap.size, 2, none⟩ = some (.slice p4 m4 c4) := K3.at 2; have kr0 : ((w1.alloc (.cells #[.bool gl, .slice p3 m3 c3, .slice p4 m4 c4] 56)).alloc (.cells #[.bool gr, .slice p5 m5 c5, .slice p6 m6 c6] 56)).cell? ⟨w1.heap.size + 1, 0, none⟩ = some (.bool gr) := K4.at 0; have kr1 : ((w1.alloc (.cells #[.bool gl, .slice p3 m3 c3, .slice p4 m4 c4] 56)).alloc (.cells #[.bool gr, .slice p5 m5 c5, .slice p6 m6 c6] 56)).cell? ⟨w1.heap.size + 1, 1, none⟩ = some (.slice p5 m5 c5) := K4.at 1; have kr2 : ((w1.alloc (.cells #[.bool gl, .slice p3 m3 c3, .slice p4 m4 c4] 56)).alloc (.cells #[.bool gr, .slice p5 m5 c5, .slice p6 m6 c6] 56)).cell? ⟨w1.heap.size + 1, 2, none⟩ = some (.slice p6 m6 c6) := K4.at 2; have k2c0 : ((w1.alloc (.cells #[.bool gl, .slice p3 m3 c3, .slice p4 m4 c4] 56)).alloc (.cells #[.bool gr, .slice p5 m5 c5, .slice p6 m6 c6] 56)).cell? ⟨w.heap.size + 1, 0, none⟩ = some (.bool false) := K2.at 0; have k2f0 := K2.free 0; have k2c1 : ((w1.alloc (.cells #[.bool gl, .slice p3 m3 c3, .slice p4 m4 c4] 56)).alloc (.cells #[.bool gr, .slice p5 m5 c5, .slice p6 m6 c6] 56)).cell? ⟨w.heap.size + 1, 1, none⟩ = some (.slice none 0 0) := K2.at 1; have k2f1 := K2.free 1; have k2c2 : ((w1.alloc (.cells #[.bool gl, .slice p3 m3 c3, .slice p4 m4 c4] 56)).alloc (.cells #[.bool gr, .slice p5 m5 c5, .slice p6 m6 c6] 56)).cell? ⟨w.heap.size + 1, 2, none⟩ = some (.slice none 0 0) := K2.at 2; have k2f2 := K2.free 2))
    | (go_at_call 53; ((with_reducible refine (Sign_fn gr p5 p6 m5 c5 m6 c6 _).mono ?_)); (rintro e w2 ⟨rfl, b2⟩; have hs0 : (sg3 gr m5 == 0) = false := (by rw [beq_eq_false_iff_ne]; exact fun k => hz.out (HS.out.1 k)); replace K1 := K1.below b2 K1.lt; replace K2 := K2.below b2 K2.lt; replace K3 := K3.below b2 K3.lt; replace K4 := K4.below b2 K4.lt; replace pr := bel pr b2; replace hl := hl.grow b2; replace hr := hr.grow b2; have ka0 : w2.cell? ⟨w.heap.size, 0, none⟩ = some (.bool g) := K1.at 0; have ka1 : w2.cell? ⟨w.heap.size, 1, none⟩ = some (.slice p1 m1 c1) := K1.at 1; have ka2 : w2.cell? ⟨w.heap.size, 2, none⟩ = some (.slice p2 m2 c2) := K1.at 2; have kl0 : w2.cell? ⟨w1.heap.size, 0, none⟩ = some (.bool gl) := K3.at 0; have kl1 : w2.cell? ⟨w1.heap.size, 1, none⟩ = some (.slice p3 m3 c3) := K3.at 1; have kl2 : w2.cell? ⟨w1.heap.size, 2, none⟩ = some (.slice p4 m4 c4) := K3.at 2; have kr0 : w2.cell? ⟨w1.heap.size + 1, 0, none⟩ = some (.bool gr) := K4.at 0; have kr1 : w2.cell? ⟨w1.heap.size + 1, 1, none⟩ = some (.slice p5 m5 c5) := K4.at 1; have kr2 : w2.cell? ⟨w1.heap.size + 1, 2, none⟩ = some (.slice p6 m6 c6) := K4.at 2; have k2c0 : w2.cell? ⟨w.heap.size + 1, 0, none⟩ = some (.bool false) := K2.at 0; have k2f0 := K2.free 0; have k2c1 : w2.cell? ⟨w.heap.size + 1, 1, none⟩ = some (.slice none 0 0) := K2.at 1; have k2f1 := K2.free 1; have k2c2 : w2.cell? ⟨w.heap.size + 1, 2, none⟩ = some (.slice none 0 0) := K2.at 2; have k2f2 := K2.free 2; clear b2))
    | fail)
  go_region_held3 (fun x => x.cell? ⟨w1.heap.size + 1, 0, none⟩ = some (.bool gr) ∧ x.cell? ⟨w1.heap.size + 1, 1, none⟩ = some (.slice p5 m5 c5) ∧ x.cell? ⟨w1.heap.size + 1, 2, none⟩ = some (.slice p6 m6 c6)) (go_keep) (first
    | (go_at_call 45; ((with_reducible refine (frac_raw _).mono ?_)); (rintro e w3 ⟨vh, rfl, hh, b3⟩; obtain ⟨gh, p7, m7, c7, p8, m8, c8, rfl, GH⟩ := isq_form hh; replace K1 := K1.below (below_undrew b3) K1.lt; replace K2 := K2.below (below_undrew b3) K2.lt; replace K3 := K3.below (below_undrew b3) K3.lt; replace K4 := K4.below (below_undrew b3) K4.lt; replace pr := bel pr (below_undrew b3); replace hl := hl.grow (below_undrew b3); replace hr := hr.grow (below_undrew b3); have ka0 : w3.cell? ⟨w.heap.size, 0, none⟩ = some (.bool g) := K1.at 0; have ka1 : w3.cell? ⟨w.heap.size, 1, none⟩ = some (.slice p1 m1 c1) := K1.at 1; have ka2 : w3.cell? ⟨w.heap.size, 2, none⟩ = some (.slice p2 m2 c2) := K1.at 2; have kl0 : w3.cell? ⟨w1.heap.size, 0, none⟩ = some (.bool gl) := K3.at 0; have kl1 : w3.cell? ⟨w1.heap.size, 1, none⟩ = some (.slice p3 m3 c3) := K3.at 1; have kl2 : w3.cell? ⟨w1.heap.size, 2, none⟩ = some (.slice p4 m4 c4) := K3.at 2; have kr0 : w3.cell? ⟨w1.heap.size + 1, 0, none⟩ = some (.bool gr) := K4.at 0; have kr1 : w3.cell? ⟨w1.heap.size + 1, 1, none⟩ = some (.slice p5 m5 c5) := K4.at 1; have kr2 : w3.cell? ⟨w1.heap.size + 1, 2, none⟩ = some (.slice p6 m6 c6) := K4.at 2; have k2c0 : w3.cell? ⟨w.heap.size + 1, 0, none⟩ = some (.bool false) := K2.at 0; have k2f0 := K2.free 0; have k2c1 : w3.cell? ⟨w.heap.size + 1, 1, none⟩ = some (.slice none 0 0) := K2.at 1; have k2f1 := K2.free 1; have k2c2 : w3.cell? ⟨w.heap.size + 1, 2, none⟩ = some (.slice none 0 0) := K2.at 2; have k2f2 := K2.free 2; clear b3))
    | (go_at_call 35; ((with_reducible refine (QCM (.agg #[.bool gr, .slice p5 m5 c5, .slice p6 m6 c6]) (.agg #[.bool gh, .slice p7 m7 c7, .slice p8 m8 c8]) _ _ (K + 2) _ ?hq1 ?hq2 RQ.out half_qs (by omega)).mono ?_)); (case hq1 => (first | with_reducible exact hr | with_reducible exact hr.drew)); (case hq2 => (first | with_reducible exact hh | with_reducible exact hh.drew)); (rintro e w4 ⟨rfl, b4⟩; replace K1 := K1.below b4 K1.lt; replace K2 := K2.below b4 K2.lt; replace K3 := K3.below b4 K3.lt; replace K4 := K4.below b4 K4.lt; replace pr := bel pr b4; replace hl := hl.grow b4; replace hr := hr.grow b4; have ka0 : w4.cell? ⟨w.heap.size, 0, none⟩ = some (.bool g) := K1.at 0; have ka1 : w4.cell? ⟨w.heap.size, 1, none⟩ = some (.slice p1 m1 c1) := K1.at 1; have ka2 : w4.cell? ⟨w.heap.size, 2, none⟩ = some (.slice p2 m2 c2) := K1.at 2; have kl0 : w4.cell? ⟨w1.heap.size, 0, none⟩ = some (.bool gl) := K3.at 0; have kl1 : w4.cell? ⟨w1.heap.size, 1, none⟩ = some (.slice p3 m3 c3) := K3.at 1; have kl2 : w4.cell? ⟨w1.heap.size, 2, none⟩ = some (.slice p4 m4 c4) := K3.at 2; have kr0 : w4.cell? ⟨w1.heap.size + 1, 0, none⟩ = some (.bool gr) := K4.at 0; have kr1 : w4.cell? ⟨w1.heap.size + 1, 1, none⟩ = some (.slice p5 m5 c5) := K4.at 1; have kr2 : w4.cell? ⟨w1.heap.size + 1, 2, none⟩ = some (.slice p6 m6 c6) := K4.at 2; have k2c0 : w4.cell? ⟨w.heap.size + 1, 0, none⟩ = some (.bool false) := K2.at 0; have k2f0 := K2.free 0; have k2c1 : w4.cell? ⟨w.heap.size + 1, 1, none⟩ = some (.slice none 0 0) := K2.at 1; have k2f1 := K2.free 1; have k2c2 : w4.cell? ⟨w.heap.size + 1, 2, none⟩ = some (.slice none 0 0) := K2.at 2; have k2f2 := K2.free 2; clear b4))
    | fail)
  rw [hc.out]
  go_upto_block 0 with fail
  go_cut [7] (fun u wc => u = .bool UP ∧ Blk wc (w.heap.size + 1) #[.bool false, .slice none 0 0, .slice none 0 0] 56 ∧ Blk wc w1.heap.size #[.bool gl, .slice p3 m3 c3, .slice p4 m4 c4] 56 ∧ IsQ wc (.agg #[.bool gl, .slice p3 m3 c3, .slice p4 m4 c4]) (r.floor : Rat) ∧ Below w.heap.size w wc)
  case first =>
    have EV := fun (wz : World) (hz : IsQ wz (.agg #[.bool gl, .slice p3 m3 c3, .slice p4 m4 c4]) (r.floor : Rat)) => even_q hz hod.out
    rcases HU with ⟨rfl, rfl⟩ | ⟨rfl, rfl⟩ | ⟨rfl, rfl⟩ | ⟨rfl, rfl, rfl⟩ | ⟨rfl, rfl, rfl⟩ | ⟨rfl, rfl, rfl⟩ | ⟨rfl, rfl, rfl⟩ | ⟨rfl, rfl, rfl⟩ | ⟨rfl, rfl, rfl⟩ | ⟨q2, q3, q4, q5, q6, rfl⟩
    all_goals
      go_wp2_with (first
        | (go_at_call 136; ((with_reducible refine (EV _ hl).mono ?_)); (rintro e w5 ⟨rfl, b5⟩; replace K1 := K1.below b5 K1.lt; replace K2 := K2.below b5 K2.lt; replace K3 := K3.below b5 K3.lt; replace K4 := K4.below b5 K4.lt; replace pr := bel pr b5; replace hl := hl.grow b5; replace hr := hr.grow b5; have ka0 : w5.cell? ⟨w.heap.size, 0, none⟩ = some (.bool g) := K1.at 0; have ka1 : w5.cell? ⟨w.heap.size, 1, none⟩ = some (.slice p1 m1 c1) := K1.at 1; have ka2 : w5.cell? ⟨w.heap.size, 2, none⟩ = some (.slice p2 m2 c2) := K1.at 2; have kl0 : w5.cell? ⟨w1.heap.size, 0, none⟩ = some (.bool gl) := K3.at 0; have kl1 : w5.cell? ⟨w1.heap.size, 1, none⟩ = some (.slice p3 m3 c3) := K3.at 1; have kl2 : w5.cell? ⟨w1.heap.size, 2, none⟩ = some (.slice p4 m4 c4) := K3.at 2; have kr0 : w5.cell? ⟨w1.heap.size + 1, 0, none⟩ = some (.bool gr) := K4.at 0; have kr1 : w5.cell? ⟨w1.heap.size + 1, 1, none⟩ = some (.slice p5 m5 c5) := K4.at 1; have kr2 : w5.cell? ⟨w1.heap.size + 1, 2, none⟩ = some (.slice p6 m6 c6) := K4.at 2; have k2c0 : w5.cell? ⟨w.heap.size + 1, 0, none⟩ = some (.bool false) := K2.at 0; have k2f0 := K2.free 0; have k2c1 : w5.cell? ⟨w.heap.size + 1, 1, none⟩ = some (.slice none 0 0) := K2.at 1; have k2f1 := K2.free 1; have k2c2 : w5.cell? ⟨w.heap.size + 1, 2, none⟩ = some (.slice none 0 0) := K2.at 2; have k2f2 := K2.free 2; clear b5))
        | fail)
      go_meet
      case rel => exact ⟨rfl, K2, K3, hl, pr⟩
  case rest =>
    clear HU K1 K2 K3 K4 pr hl hr ka0 ka1 ka2 kl0 kl1 kl2 kr0 kr1 kr2 k2c0 k2c1 k2c2 k2f0 k2f1 k2f2 hs0
    obtain ⟨rfl, K2, K3, hl, pr⟩ := hcut
    have kl0 : wc.cell? ⟨w1.heap.size, 0, none⟩ = some (.bool gl) := K3.at 0
    have kl1 : wc.cell? ⟨w1.heap.size, 1, none⟩ = some (.slice p3 m3 c3) := K3.at 1
    have kl2 : wc.cell? ⟨w1.heap.size, 2, none⟩ = some (.slice p4 m4 c4) := K3.at 2
    have k2c0 : wc.cell? ⟨w.heap.size + 1, 0, none⟩ = some (.bool false) := K2.at 0
    have k2f0 := K2.free 0
    have k2c1 : wc.cell? ⟨w.heap.size + 1, 1, none⟩ = some (.slice none 0 0) := K2.at 1
    have k2f1 := K2.free 1
    have k2c2 : wc.cell? ⟨w.heap.size + 1, 2, none⟩ = some (.slice none 0 0) := K2.at 2
    have k2f2 := K2.free 2
    cases UP
    · go_wp2_with fail
      have HLP : IsQ (((wc.setCell ⟨w.heap.size + 1, 0, none⟩ (.bool gl)).setCell ⟨w.heap.size + 1, 1, none⟩ (.slice p3 m3 c3)).setCell ⟨w.heap.size + 1, 2, none⟩ (.slice p4 m4 c4)) (.agg #[.bool gl, .slice p3 m3 c3, .slice p4 m4 c4]) (if (false : Bool) = true then (r.floor : Rat) + ((1 : Int) : Rat) else (r.floor : Rat)) := by rw [if_neg (by decide)]; exact IsQ.put3 hl K2
      obtain ⟨F0, F1, F2, FB⟩ := put3 (.bool gl) (.slice p3 m3 c3) (.slice p4 m4 c4) k2c0 k2c1 k2c2
      exact bodyPost_ret (v := .agg #[.bool gl, .slice p3 m3 c3, .slice p4 m4 c4]) (by simp [results, Tryz.results71, go_sem, F0, F1, F2]) rfl ⟨_, rfl, HLP, FB _ _ (by omega) pr⟩
    · go_wp2_with fail
      go_region_held3 (fun x => x.cell? ⟨w1.heap.size, 0, none⟩ = some (.bool gl) ∧ x.cell? ⟨w1.heap.size, 1, none⟩ = some (.slice p3 m3 c3) ∧ x.cell? ⟨w1.heap.size, 2, none⟩ = some (.slice p4 m4 c4)) (first | exact ⟨set3_other nq2 kl0, set3_other nq2 kl1, set3_other nq2 kl2⟩ | go_keep) (first
    | (go_at_call 36; ((with_reducible refine (Of_q 1 _ (by decide) (by decide)).mono ?_)); (rintro e w6 ⟨vo, rfl, ho, b6⟩; obtain ⟨go, p7, m7, c7, p8, m8, c8, rfl, GO⟩ := isq_form ho; replace K2 := K2.below (below_undrew b6) K2.lt; replace K3 := K3.below (below_undrew b6) K3.lt; replace pr := bel pr (below_undrew b6); replace hl := hl.grow (below_undrew b6); have kl0 : w6.cell? ⟨w1.heap.size, 0, none⟩ = some (.bool gl) := K3.at 0; have kl1 : w6.cell? ⟨w1.heap.size, 1, none⟩ = some (.slice p3 m3 c3) := K3.at 1; have kl2 : w6.cell? ⟨w1.heap.size, 2, none⟩ = some (.slice p4 m4 c4) := K3.at 2; have k2c0 : w6.cell? ⟨w.heap.size + 1, 0, none⟩ = some (.bool false) := K2.at 0; have k2f0 := K2.free 0; have k2c1 : w6.cell? ⟨w.heap.size + 1, 1, none⟩ = some (.slice none 0 0) := K2.at 1; have k2f1 := K2.free 1; have k2c2 : w6.cell? ⟨w.heap.size + 1, 2, none⟩ = some (.slice none 0 0) := K2.at 2; have k2f2 := K2.free 2; clear b6))
    | (go_at_call 40; ((with_reducible refine (QAD (.agg #[.bool gl, .slice p3 m3 c3, .slice p4 m4 c4]) (.agg #[.bool go, .slice p7 m7 c7, .slice p8 m8 c8]) _ _ (K + 2) _ ?hq1 ?hq2 LQ.out one_qs (by omega)).mono ?_)); (case hq1 => (first | with_reducible exact hl | with_reducible exact hl.drew)); (case hq2 => (first | with_reducible exact ho | with_reducible exact ho.drew)); (rintro e w7 ⟨vs, rfl, hs, b7⟩; obtain ⟨gs, p9, m9, c9, pa, ma, ca, rfl, GS⟩ := isq_form hs; replace K2 := K2.below b7 K2.lt; replace K3 := K3.below b7 K3.lt; replace pr := bel pr b7; replace hl := hl.grow b7; have kl0 : w7.cell? ⟨w1.heap.size, 0, none⟩ = some (.bool gl) := K3.at 0; have kl1 : w7.cell? ⟨w1.heap.size, 1, none⟩ = some (.slice p3 m3 c3) := K3.at 1; have kl2 : w7.cell? ⟨w1.heap.size, 2, none⟩ = some (.slice p4 m4 c4) := K3.at 2; have k2c0 : w7.cell? ⟨w.heap.size + 1, 0, none⟩ = some (.bool false) := K2.at 0; have k2f0 := K2.free 0; have k2c1 : w7.cell? ⟨w.heap.size + 1, 1, none⟩ = some (.slice none 0 0) := K2.at 1; have k2f1 := K2.free 1; have k2c2 : w7.cell? ⟨w.heap.size + 1, 2, none⟩ = some (.slice none 0 0) := K2.at 2; have k2f2 := K2.free 2; clear b7))
        | fail)
      go_wp2_with fail
      have HLP : IsQ (((w7.setCell ⟨w.heap.size + 1, 0, none⟩ (.bool gs)).setCell ⟨w.heap.size + 1, 1, none⟩ (.slice p9 m9 c9)).setCell ⟨w.heap.size + 1, 2, none⟩ (.slice pa ma ca)) (.agg #[.bool gs, .slice p9 m9 c9, .slice pa ma ca]) (if (true : Bool) = true then (r.floor : Rat) + ((1 : Int) : Rat) else (r.floor : Rat)) := by rw [if_pos rfl]; exact IsQ.put3 hs K2
      obtain ⟨F0, F1, F2, FB⟩ := put3 (.bool gs) (.slice p9 m9 c9) (.slice pa ma ca) k2c0 k2c1 k2c2
      exact bodyPost_ret (v := .agg #[.bool gs, .slice p9 m9 c9, .slice pa ma ca]) (by simp [results, Tryz.results71, go_sem, F0, F1, F2]) rfl ⟨_, rfl, HLP, FB _ _ (by omega) pr⟩
theorem QRound_h (QCM : ∀ (a b : Value) (r s : Rat) (K : Nat) (w : World), IsQ w a r → IsQ w b s → QS r K → QS s K → K ≤ 1000000000 → Calls Tryz.prog 35 #[a, b] w fun e w' => e = .returned (.int .i64 (cmpR r s)) ∧ Below w.heap.size w w')
    (QAD : ∀ (a b : Value) (r s : Rat) (K : Nat) (w : World), IsQ w a r → IsQ w b s → QS r K → QS s K → K ≤ 1000000000 → Calls Tryz.prog 40 #[a, b] w fun e w' => ∃ v, e = .returned v ∧ IsQ w' v (r + s) ∧ Below w.heap.size w w')
    (a : Value) (r : Rat) (K : Nat) (way : Int) (w : World) (ha : IsQ w a r) (hQ : QS r K) (hK : K ≤ 100000) :
    Calls Tryz.prog 71 #[a, .int .i64 way] w fun e w' => ∃ v, e = .returned v ∧ IsQ w' v ((rndQ way r : Int) : Rat) ∧ Below w.heap.size w w' := by
  obtain ⟨g, p1, m1, c1, p2, m2, c2, rfl, G⟩ := isq_form ha
  unfold rndQ
  by_cases z : r - (r.floor : Rat) = 0
  · rw [if_pos z]
    exact qround_zero g p1 p2 m1 c1 m2 c2 r K way w ha hQ hK z
  · rw [if_neg z, ← G.out]
    obtain ⟨UP, hUP⟩ : ∃ UP, UP = upQ way g (decide ((r.floor.natAbs : Int) % 2 = 0)) (cmpR (r - (r.floor : Rat)) (mkRat 1 2)) := ⟨_, rfl⟩
    rw [← hUP]
    have fin := qround_h QCM QAD g p1 p2 m1 c1 m2 c2 r K way w ha hQ hK z (rest_qs hQ) (floor_qs hQ) _ rfl UP _ rfl ?_
    · refine fin.mono ?_
      rintro e w' ⟨v, he, hq, hb⟩
      refine ⟨v, he, ?_, hb⟩
      cases UP
      · exact hq
      · rw [if_pos rfl] at hq ⊢
        rw [Rat.intCast_add]
        exact hq
    · generalize decide ((r.floor.natAbs : Int) % 2 = 0) = ev at *
      unfold upQ at hUP
      have cc := cmpR_cases (r - (r.floor : Rat)) (mkRat 1 2)
      generalize cmpR (r - (r.floor : Rat)) (mkRat 1 2) = c at *
      by_cases w2 : way = 2
      · rw [if_pos w2] at hUP; exact Or.inl ⟨w2, hUP⟩
      rw [if_neg w2] at hUP
      by_cases w3 : way = 3
      · rw [if_pos w3] at hUP; exact Or.inr (Or.inl ⟨w3, hUP⟩)
      rw [if_neg w3] at hUP
      by_cases w4 : way = 4
      · rw [if_pos w4] at hUP; exact Or.inr (Or.inr (Or.inl ⟨w4, hUP⟩))
      rw [if_neg w4] at hUP
      by_cases w5 : way = 5
      · rw [if_pos w5] at hUP
        rcases cc with rfl | rfl | rfl
        · exact Or.inr (Or.inr (Or.inr (Or.inl ⟨w5, rfl, by rw [hUP]; rfl⟩)))
        · exact Or.inr (Or.inr (Or.inr (Or.inr (Or.inl ⟨w5, rfl, by rw [hUP]; simp⟩))))
        · exact Or.inr (Or.inr (Or.inr (Or.inr (Or.inr (Or.inl ⟨w5, rfl, by rw [hUP]; rfl⟩)))))
      rw [if_neg w5] at hUP
      by_cases w6 : way = 6
      · rw [if_pos w6] at hUP
        rcases cc with rfl | rfl | rfl
        · exact Or.inr (Or.inr (Or.inr (Or.inr (Or.inr (Or.inr (Or.inl ⟨w6, rfl, by rw [hUP]; rfl⟩))))))
        · exact Or.inr (Or.inr (Or.inr (Or.inr (Or.inr (Or.inr (Or.inr (Or.inl ⟨w6, rfl, by rw [hUP]; simp⟩)))))))
        · exact Or.inr (Or.inr (Or.inr (Or.inr (Or.inr (Or.inr (Or.inr (Or.inr (Or.inl ⟨w6, rfl, by rw [hUP]; rfl⟩))))))))
      rw [if_neg w6] at hUP
      exact Or.inr (Or.inr (Or.inr (Or.inr (Or.inr (Or.inr (Or.inr (Or.inr (Or.inr ⟨by rw [beq_eq_false_iff_ne]; exact w2, by rw [beq_eq_false_iff_ne]; exact w3, by rw [beq_eq_false_iff_ne]; exact w4, by rw [beq_eq_false_iff_ne]; exact w5, by rw [beq_eq_false_iff_ne]; exact w6, hUP⟩))))))))
end Go.Proofs.YtebilgnmnambnaaGreatDoor.L
