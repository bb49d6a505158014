import Derived.Test.YtmopfnhjooopkaaGreatDoorPart09
import Derived.Test.YtmopfnhjooopkaaGreatDoorPart05
import Derived.WalkLawsBesides
import Derived.Deep.RegionHeld3
import Derived.Deep.DeepCutAuto
import Derived.Deep.CutBlock
import Derived.Test.YtmopfnhjooopkaaGreatDoorPart02
import Derived.Test.YtmopfnhjooopkaaGreatDoorPart08

namespace Go.Proofs.YtmopfnhjooopkaaGreatDoor.L
open Go.RowKit Tl

theorem rd_one {w : World} {n c : Nat} (h : w.cell? ⟨n, 0, none⟩ = some (.int .i64 1)) (h1 : 1 ≤ c) (h2 : c ≤ 9223372036854775807) : Rd w (.slice (some ⟨n, 0, none⟩) 1 c) [1] := by
  refine ⟨Wd.cons (by decide) (by decide) Wd.nil, _, c, rfl, h1, h2, fun _ => ⟨n, 0, rfl, ?_⟩⟩
  intro i hi
  have : i = 0 := by simp at hi; omega
  subst this
  simpa [nth] using h
theorem nm_one : Nm [1] := Or.inr (by simp)
theorem val_one : val [1] = 1 := by simp [val]
/-- Three cells are written. -/
theorem put3 {w1 : World} {b : Nat} {u0 u1 u2 : Value} (x y z : Value) (g0 : w1.cell? ⟨b, 0, none⟩ = some u0) (g1 : w1.cell? ⟨b, 1, none⟩ = some u1) (g2 : w1.cell? ⟨b, 2, none⟩ = some u2) :
    (((w1.setCell ⟨b, 0, none⟩ x).setCell ⟨b, 1, none⟩ y).setCell ⟨b, 2, none⟩ z).cell? ⟨b, 0, none⟩ = some x ∧ (((w1.setCell ⟨b, 0, none⟩ x).setCell ⟨b, 1, none⟩ y).setCell ⟨b, 2, none⟩ z).cell? ⟨b, 1, none⟩ = some y ∧ (((w1.setCell ⟨b, 0, none⟩ x).setCell ⟨b, 1, none⟩ y).setCell ⟨b, 2, none⟩ z).cell? ⟨b, 2, none⟩ = some z ∧ (∀ B w, B ≤ b → Below B w w1 → Below B w (((w1.setCell ⟨b, 0, none⟩ x).setCell ⟨b, 1, none⟩ y).setCell ⟨b, 2, none⟩ z)) := by
  have h1 : (w1.setCell ⟨b, 0, none⟩ x).cell? ⟨b, 1, none⟩ = some u1 := (World.cell?_setCell_other _ _ _ _ (by simp)).trans g1
  have h2 : ((w1.setCell ⟨b, 0, none⟩ x).setCell ⟨b, 1, none⟩ y).cell? ⟨b, 2, none⟩ = some u2 := (World.cell?_setCell_other _ _ _ _ (by simp)).trans ((World.cell?_setCell_other _ _ _ _ (by simp)).trans g2)
  refine ⟨?_, ?_, World.cell?_setCell_same _ _ _ h2, fun B w hB h => ((h.setCell (p := ⟨b, 0, none⟩) hB x).setCell (p := ⟨b, 1, none⟩) hB y).setCell (p := ⟨b, 2, none⟩) hB z⟩
  · rw [World.cell?_setCell_other _ _ _ _ (by simp), World.cell?_setCell_other _ _ _ _ (by simp), World.cell?_setCell_same _ _ _ g0]
  · rw [World.cell?_setCell_other _ _ _ _ (by simp), World.cell?_setCell_same _ _ _ h1]
/-- Numbers lie as they did where a Q's own block was written. -/
theorem Rd.putQ {w1 : World} {b : Nat} {v x y z : Value} {xs : List Int} {g : Bool} {a1 a2 : Option Addr} {n1 c1 n2 c2 : Nat} {t : TypeId} (h : Rd w1 v xs) (K : Blk w1 b #[.bool g, .slice a1 n1 c1, .slice a2 n2 c2] t) : Rd (((w1.setCell ⟨b, 0, none⟩ x).setCell ⟨b, 1, none⟩ y).setCell ⟨b, 2, none⟩ z) v xs := by
  obtain ⟨hx, a, c, rfl, h2, h3, g⟩ := h
  refine ⟨hx, a, c, rfl, h2, h3, fun l => ?_⟩
  obtain ⟨b', o, rfl, hc⟩ := g l
  have hne : b' ≠ b := by
    intro e
    subst e
    have h0 := hc 0 l
    rw [K.at] at h0
    match o, h0 with
    | 0, h0 => simp at h0
    | 1, h0 => simp at h0
    | 2, h0 => simp at h0
    | o + 3, h0 => simp at h0
  have hw : Wr b 0 3 w1 (((w1.setCell ⟨b, 0, none⟩ x).setCell ⟨b, 1, none⟩ y).setCell ⟨b, 2, none⟩ z) := (((Wr.refl _ _ _ _).setCell 0 (by omega) x).setCell 1 (by omega) y).setCell 2 (by omega) z
  exact ⟨b', o, rfl, hc.other hw hne⟩
theorem gcd_rest {x g q r : Int} (hd : g ∣ x) (h : x = q * g + r) (r0 : 0 ≤ r) (r1 : r < g) : q * g = x := by
  have h1 : g ∣ r := by
    obtain ⟨k, hk⟩ := hd
    exact ⟨k - q, by rw [Int.mul_sub, ← hk, h]; rw [Int.mul_comm g q]; omega⟩
  obtain ⟨k, hk⟩ := h1
  by_cases c : k = 0
  · rw [c] at hk; simp at hk; omega
  · rcases Int.lt_or_gt_of_ne c with c | c
    · have := Int.mul_le_mul_of_nonneg_left (show k ≤ -1 by omega) (show 0 ≤ g by omega); omega
    · have := Int.mul_le_mul_of_nonneg_left (show 1 ≤ k by omega) (show 0 ≤ g by omega); omega
set_option maxHeartbeats 1600000 in
set_option maxRecDepth 100000 in
/-- Make of the reference: in lowest terms already. -/
theorem make_one (neg : Bool) (v1 v2 : Value) (xs ys : List Int) (L : Nat) (w : World) (h1 : Rd w v1 xs) (h2 : Rd w v2 ys) (n1 : Nm xs) (n2 : Nm ys) (l1 : xs.length ≤ L) (l2 : ys.length ≤ L) (hL : L ≤ 274877906944) (p1 : 0 < xs.length) (hg : Int.gcd (val xs) (val ys) = 1) :
    Calls Tryz.prog 70 #[.bool neg, v1, v2] w fun e w' => e = .returned (.agg #[.bool neg, v1, v2]) ∧ Below w.heap.size w w' := by
  have hz : ((xs.length : Int) == 0) = false := by rw [beq_eq_false_iff_ne]; omega
  have HG : Hid (Int.gcd (val xs) (val ys) = 1) := hg
  clear hg
  obtain ⟨a1, c1, rfl⟩ : ∃ a1 c1, v1 = .slice a1 xs.length c1 := by obtain ⟨_, a1, c1, e, _⟩ := h1; exact ⟨a1, c1, e⟩
  obtain ⟨a2, c2, rfl⟩ : ∃ a1 c1, v2 = .slice a1 ys.length c1 := by obtain ⟨_, a1, c1, e, _⟩ := h2; exact ⟨a1, c1, e⟩
  have hR1 : Hid (∀ w', Below w.heap.size w w' → Rd w' (.slice a1 xs.length c1) xs) := fun w' k => h1.grow k
  have hR2 : Hid (∀ w', Below w.heap.size w w' → Rd w' (.slice a2 ys.length c2) ys) := fun w' k => h2.grow k
  have K0 := Blk.new w #[.bool false, .slice none 0 0, .slice none 0 0] 65
  have pr : Below w.heap.size w (w.alloc (.cells #[.bool false, .slice none 0 0, .slice none 0 0] 65)) := (Below.refl _ _).alloc (Nat.le_refl _) _
  go_enter Tryz.func70, Tryz.ntmps70
  go_wp2_with (first
    | (go_at_call 100; (refine (Gcd_any _ _ xs ys L _ (hR1.out _ pr) (hR2.out _ pr) n1 n2 l1 l2 hL).mono ?_; rintro e w1 ⟨r, gs, rfl, hr, hn, hv, lg, hb⟩; have hv1 : val gs = 1 := (by rw [hv, HG.out]; rfl); clear hv; replace K0 := K0.below hb K0.lt; replace pr := pr.trans (hb.mono pr.size)))
    | (go_at_call 101; (refine (Cmp_any _ _ gs [1] _ (hr.grow ((Below.refl _ _).alloc (Nat.le_refl _) _)) (rd_one (by simp) (by decide) (by decide)) hn nm_one (by omega)).mono ?_; rintro e w2 ⟨rfl, hb2⟩; rw [cmp3_eq (hv1.trans val_one.symm)]; replace K0 := (K0.alloc (.cells #[.int .i64 1] 3)).below hb2 (K0.alloc (.cells #[.int .i64 1] 3)).lt; replace pr := (pr.alloc pr.size (.cells #[.int .i64 1] 3)).trans (hb2.mono (pr.alloc pr.size (.cells #[.int .i64 1] 3)).size); have e0 : w2.cell? ⟨w.heap.size, 0, none⟩ = some (.bool false) := K0.at 0; have e1 : w2.cell? ⟨w.heap.size, 1, none⟩ = some (.slice none 0 0) := K0.at 1; have e2 : w2.cell? ⟨w.heap.size, 2, none⟩ = some (.slice none 0 0) := K0.at 2; have z0 := K0.free 0; have z1 := K0.free 1; have z2 := K0.free 2))
    | fail)
  obtain ⟨F0, F1, F2, FB⟩ := put3 (.bool neg) (.slice a1 xs.length c1) (.slice a2 ys.length c2) e0 e1 e2
  exact bodyPost_ret (v := .agg #[.bool neg, .slice a1 xs.length c1, .slice a2 ys.length c2]) (by simp [results, Tryz.results70, go_sem, F0, F1, F2]) rfl ⟨rfl, FB _ _ (Nat.le_refl _) pr⟩
set_option maxHeartbeats 1600000 in
set_option maxRecDepth 100000 in
/-- Make of the reference: a common divisor is taken out. -/
theorem make_more (neg : Bool) (v1 v2 : Value) (xs ys : List Int) (L : Nat) (w : World) (h1 : Rd w v1 xs) (h2 : Rd w v2 ys) (n1 : Nm xs) (n2 : Nm ys) (l1 : xs.length ≤ L) (l2 : ys.length ≤ L) (hL : L ≤ 274877906944) (p1 : 0 < xs.length) (G : Int) (hg : (Int.gcd (val xs) (val ys) : Int) = G) (hg1 : G ≠ 1) :
    Calls Tryz.prog 70 #[.bool neg, v1, v2] w fun e w' => ∃ u1 u2 ns ds, e = .returned (.agg #[.bool neg, u1, u2]) ∧ Rd w' u1 ns ∧ Nm ns ∧ Rd w' u2 ds ∧ Nm ds ∧ val ns * G = val xs ∧ val ds * G = val ys ∧ Below w.heap.size w w' := by
  have hz : ((xs.length : Int) == 0) = false := by rw [beq_eq_false_iff_ne]; omega
  have px := nm_pos h1.1 n1 p1
  have HG : Hid ((Int.gcd (val xs) (val ys) : Int) = G) := hg
  have G0 : 0 < G := by
    have : 0 < Int.gcd (val xs) (val ys) := Int.gcd_pos_of_ne_zero_left _ (by omega)
    omega
  have D1 : Hid (G ∣ val xs) := by show G ∣ val xs; rw [← HG.out]; exact Int.gcd_dvd_left ..
  have D2 : Hid (G ∣ val ys) := by show G ∣ val ys; rw [← HG.out]; exact Int.gcd_dvd_right ..
  clear hg
  obtain ⟨a1, c1, rfl⟩ : ∃ a1 c1, v1 = .slice a1 xs.length c1 := by obtain ⟨_, a1, c1, e, _⟩ := h1; exact ⟨a1, c1, e⟩
  obtain ⟨a2, c2, rfl⟩ : ∃ a1 c1, v2 = .slice a1 ys.length c1 := by obtain ⟨_, a1, c1, e, _⟩ := h2; exact ⟨a1, c1, e⟩
  have hR1 : Hid (∀ w', Below w.heap.size w w' → Rd w' (.slice a1 xs.length c1) xs) := fun w' k => h1.grow k
  have hR2 : Hid (∀ w', Below w.heap.size w w' → Rd w' (.slice a2 ys.length c2) ys) := fun w' k => h2.grow k
  have K0 := Blk.new w #[.bool false, .slice none 0 0, .slice none 0 0] 65
  have pr : Below w.heap.size w (w.alloc (.cells #[.bool false, .slice none 0 0, .slice none 0 0] 65)) := (Below.refl _ _).alloc (Nat.le_refl _) _
  go_enter Tryz.func70, Tryz.ntmps70
  go_wp2_with (first
    | (go_at_call 100; (refine (Gcd_any _ _ xs ys L _ (hR1.out _ pr) (hR2.out _ pr) n1 n2 l1 l2 hL).mono ?_; rintro e w1 ⟨r, gs, rfl, hr, hn, hv, lg, hb⟩; have hv1 : Hid (val gs = G) := hv.trans HG.out; clear hv; replace K0 := K0.below hb K0.lt; replace pr := pr.trans (hb.mono pr.size)))
    | (go_at_call 101; (refine (Cmp_any _ _ gs [1] _ (hr.grow ((Below.refl _ _).alloc (Nat.le_refl _) _)) (rd_one (by simp) (by decide) (by decide)) hn nm_one (by omega)).mono ?_; rintro e w2 ⟨rfl, hb2⟩; have hc : cmp3 (val gs) (val [1]) ≠ 0 := (by rw [hv1.out, val_one]; unfold cmp3; split; decide; split; decide; omega); have hc2 : (cmp3 (val gs) (val [1]) == 0) = false := beq_eq_false_iff_ne.2 hc; replace K0 := (K0.alloc (.cells #[.int .i64 1] 3)).below hb2 (K0.alloc (.cells #[.int .i64 1] 3)).lt; have hr2 := (hr.grow ((Below.refl _ _).alloc (Nat.le_refl _) (.cells #[.int .i64 1] 3))).grow hb2; replace pr := (pr.alloc pr.size (.cells #[.int .i64 1] 3)).trans (hb2.mono (pr.alloc pr.size (.cells #[.int .i64 1] 3)).size)))
    | (go_at_call 133; (with_reducible refine (DivMod_any (.slice a1 xs.length c1) r xs gs w2 (hR1.out _ pr) hr2 n1 hn (by omega) (by rw [hv1.out]; exact G0)).mono ?_); (rintro e w3 ⟨q1, r1, ns, rs1, rfl, hq1, nn, _, _, e1, r10, r11, hb3⟩; have E1 : Hid (val ns * G = val xs) := (by rw [hv1.out] at e1 r11; exact gcd_rest D1.out e1 r10 r11); clear e1 r10 r11; replace K0 := K0.below hb3 K0.lt; replace pr := pr.trans (hb3.mono pr.size); have hr3 := hr2.grow hb3))
    | (go_at_call 133; (with_reducible refine (DivMod_any (.slice a2 ys.length c2) r ys gs w3 (hR2.out _ pr) hr3 n2 hn (by omega) (by rw [hv1.out]; exact G0)).mono ?_); (rintro e w4 ⟨q2, r2, ds, rs2, rfl, hq2, nd, _, _, e2, r20, r21, hb4⟩; have E2 : Hid (val ds * G = val ys) := (by rw [hv1.out] at e2 r21; exact gcd_rest D2.out e2 r20 r21); clear e2 r20 r21; replace K0 := K0.below hb4 K0.lt; replace pr := pr.trans (hb4.mono pr.size); replace hq1 := hq1.grow hb4; have e0 : w4.cell? ⟨w.heap.size, 0, none⟩ = some (.bool false) := K0.at 0; have e1 : w4.cell? ⟨w.heap.size, 1, none⟩ = some (.slice none 0 0) := K0.at 1; have e2 : w4.cell? ⟨w.heap.size, 2, none⟩ = some (.slice none 0 0) := K0.at 2; have z0 := K0.free 0; have z1 := K0.free 1; have z2 := K0.free 2; obtain ⟨b1, d1, rfl⟩ : ∃ a1 c1, q1 = .slice a1 ns.length c1 := (by obtain ⟨_, a1, c1, e, _⟩ := hq1; exact ⟨a1, c1, e⟩); obtain ⟨b2, d2, rfl⟩ : ∃ a1 c1, q2 = .slice a1 ds.length c1 := (by obtain ⟨_, a1, c1, e, _⟩ := hq2; exact ⟨a1, c1, e⟩)))
    | fail)
  obtain ⟨F0, F1, F2, FB⟩ := put3 (.bool neg) (.slice b1 ns.length d1) (.slice b2 ds.length d2) e0 e1 e2
  exact bodyPost_ret (v := .agg #[.bool neg, .slice b1 ns.length d1, .slice b2 ds.length d2]) (by simp [results, Tryz.results70, go_sem, F0, F1, F2]) rfl ⟨_, _, ns, ds, rfl, hq1.putQ K0, nn, hq2.putQ K0, nd, E1.out, E2.out, FB _ _ (Nat.le_refl _) pr⟩
/-- Make of the reference: any fraction but nought. -/
theorem Make_any (neg : Bool) (v1 v2 : Value) (xs ys : List Int) (L : Nat) (w : World) (h1 : Rd w v1 xs) (h2 : Rd w v2 ys) (n1 : Nm xs) (n2 : Nm ys) (l1 : xs.length ≤ L) (l2 : ys.length ≤ L) (hL : L ≤ 274877906944) (p1 : 0 < xs.length) :
    Calls Tryz.prog 70 #[.bool neg, v1, v2] w fun e w' => ∃ u1 u2 ns ds, e = .returned (.agg #[.bool neg, u1, u2]) ∧ Rd w' u1 ns ∧ Nm ns ∧ Rd w' u2 ds ∧ Nm ds ∧ val ns * (Int.gcd (val xs) (val ys) : Int) = val xs ∧ val ds * (Int.gcd (val xs) (val ys) : Int) = val ys ∧ Below w.heap.size w w' := by
  by_cases hg : Int.gcd (val xs) (val ys) = 1
  · refine (make_one neg v1 v2 xs ys L w h1 h2 n1 n2 l1 l2 hL p1 hg).mono ?_
    rintro e w' ⟨rfl, hb⟩
    exact ⟨v1, v2, xs, ys, rfl, h1.grow hb, n1, h2.grow hb, n2, by rw [hg]; simp, by rw [hg]; simp, hb⟩
  · exact make_more neg v1 v2 xs ys L w h1 h2 n1 n2 l1 l2 hL p1 _ rfl (by omega)
end Go.Proofs.YtmopfnhjooopkaaGreatDoor.L

namespace Go.Proofs.YtmopfnhjooopkaaGreatDoor.L
open Go.RowKit Tl

/-- How many bits a number has. -/
def bl (x : Int) : Nat := if x ≤ 0 then 0 else Nat.log2 x.toNat + 1
theorem two_pow_pos (a : Nat) : (0 : Int) < 2 ^ a := Int.pow_pos (by decide)
theorem le_of_quo {a q b r : Int} (h : a = q * b + r) (r0 : 0 ≤ r) (q0 : 0 ≤ q) (b0 : 0 < b) : q ≤ a := by
  have := Int.mul_le_mul_of_nonneg_left (show 1 ≤ b by omega) q0
  omega
end Go.Proofs.YtmopfnhjooopkaaGreatDoor.L

namespace Go.Proofs.YtmopfnhjooopkaaGreatDoor.L
open Go.RowKit Tl

theorem bel {w W w1 : World} (pr : Below w.heap.size w W) (b1 : Below W.heap.size W w1) : Below w.heap.size w w1 := pr.trans (b1.mono pr.size)
theorem keep_cell {W w5 : World} {b i : Nat} {v : Value} (bu : Below W.heap.size W w5) (h : W.cell? ⟨b, i, none⟩ = some v) : w5.cell? ⟨b, i, none⟩ = some v := (bu.cell (p := ⟨b, i, none⟩) (lt_of_cell h)).trans h
theorem cell_alloc {w : World} {b i : Nat} {ob : Obj} {v : Value} (h : w.cell? ⟨b, i, none⟩ = some v) : (w.alloc ob).cell? ⟨b, i, none⟩ = some v := keep_cell ((Below.refl _ _).alloc (Nat.le_refl _) _) h
theorem cell_at {w : World} {n : Nat} {v : Value} {t : TypeId} (h : n = w.heap.size) : (w.alloc (.cells #[v] t)).cell? ⟨n, 0, none⟩ = some v := by subst h; simp
theorem blk_at {w : World} {n : Nat} {c : Array Value} {t : TypeId} (h : n = w.heap.size) : Blk (w.alloc (.cells c t)) n c t := by subst h; exact Blk.new _ _ _
theorem rd_alloc {w : World} {ob : Obj} {v : Value} {xs : List Int} (h : Rd w v xs) : Rd (w.alloc ob) v xs := h.grow ((Below.refl _ _).alloc (Nat.le_refl _) _)
theorem bel_alloc {w W : World} {ob : Obj} (h : Below w.heap.size w W) : Below w.heap.size w (W.alloc ob) := h.alloc h.size _
theorem blk_keep {W w5 : World} {n : Nat} {c : Array Value} {t : TypeId} (bu : Below W.heap.size W w5) (h : Blk W n c t) : Blk w5 n c t := h.below bu h.lt
theorem cell_drew {w : World} {b i : Nat} {v : Value} (h : w.cell? ⟨b, i, none⟩ = some v) : w.drew.cell? ⟨b, i, none⟩ = some v := h
theorem blk_drew {w : World} {n : Nat} {c : Array Value} {t : TypeId} (h : Blk w n c t) : Blk w.drew n c t := h
theorem bel_drw {w W : World} (h : Below w.heap.size w W) : Below w.heap.size w W.drew := h.drew
theorem rd_drew {w : World} {v : Value} {xs : List Int} (h : Rd w v xs) : Rd w.drew v xs := h.drew
theorem wr3 {w : World} {b : Nat} {x y z : Value} : Wr b 0 3 w (((w.setCell ⟨b, 0, none⟩ x).setCell ⟨b, 1, none⟩ y).setCell ⟨b, 2, none⟩ z) := (((Wr.refl _ _ _ _).setCell 0 (by omega) x).setCell 1 (by omega) y).setCell 2 (by omega) z
theorem set3_other {w : World} {b b' i : Nat} {x y z v : Value} (_h : b' ≠ b) (q : w.cell? ⟨b', i, none⟩ = some v) : (((w.setCell ⟨b, 0, none⟩ x).setCell ⟨b, 1, none⟩ y).setCell ⟨b, 2, none⟩ z).cell? ⟨b', i, none⟩ = some v := by
  rw [World.cell?_setCell_other _ _ _ _ (by simp), World.cell?_setCell_other _ _ _ _ (by simp), World.cell?_setCell_other _ _ _ _ (by simp)]; exact q
end Go.Proofs.YtmopfnhjooopkaaGreatDoor.L

namespace Go.Proofs.YtmopfnhjooopkaaGreatDoor.L
open Go.RowKit Tl

/-- x times B is added to X0 from place i on: k limbs of it. -/
structure Mu (X0 B : List Int) (i : Nat) (x : Int) (k : Nat) (c : Int) (X : List Int) : Prop where
  len : X.length = X0.length
  wd : Wd X
  up : ∀ j, i + k ≤ j → nth X j = nth X0 j
  c0 : 0 ≤ c
  c1 : c < 1073741824
  eq : val X + pw (i + k) * c = val X0 + x * (pw i * val (B.take k))
theorem Mu.start {X0 B : List Int} {i : Nat} {x : Int} (h : Wd X0) : Mu X0 B i x 0 0 X0 := ⟨rfl, h, fun _ _ => rfl, by omega, by omega, by simp [val]⟩
theorem mu_bd {a b y c : Int} (a0 : 0 ≤ a) (a1 : a < 1073741824) (b0 : 0 ≤ b) (b1 : b < 1073741824) (y0 : 0 ≤ y) (y1 : y < 1073741824) (c0 : 0 ≤ c) (c1 : c < 1073741824) : 0 ≤ a * b ∧ a * b ≤ 1152921502459363329 ∧ c + (y + a * b) < 1152921504606846976 := by
  have h0 := Int.mul_nonneg a0 b0
  have h1 := Int.mul_le_mul (show a ≤ 1073741823 by omega) (show b ≤ 1073741823 by omega) b0 (by decide)
  omega
theorem Mu.next {X0 B : List Int} {i : Nat} {x : Int} {k : Nat} {c S : Int} {X : List Int} (h : Mu X0 B i x k c X) (hB : Wd B) (x0 : 0 ≤ x) (x1 : x < 1073741824) (hk : k < B.length) (hl : i + k < X0.length) (hS : S = c + (nth X (i + k) + x * nth B k)) : Mu X0 B i x (k + 1) (S / 1073741824) (X.set (i + k) (S % 1073741824)) := by
  have hlen := h.len
  have b := nth_bd h.wd (i + k)
  have b2 := nth_bd hB k
  have bd := mu_bd x0 x1 b2.1 b2.2 b.1 b.2 h.c0 h.c1
  have c0 := h.c0
  refine ⟨by simp [hlen], h.wd.set _ (by omega) (by omega), ?_, by omega, by omega, ?_⟩
  · intro j hj
    rw [nth_set_other _ _ _ _ (by omega)]
    exact h.up j (by omega)
  · have e := h.eq
    have es : S = S % 1073741824 + 1073741824 * (S / 1073741824) := by omega
    rw [val_set (by omega), val_at B k hk, show i + (k + 1) = i + k + 1 from rfl]
    have a4 : pw (i + k) = pw i * pw k := pw_add i k
    generalize S % 1073741824 = p at *
    generalize S / 1073741824 = q at *
    simp only [pw]
    rw [a4] at e ⊢
    grind
/-- The first i limbs of A times B. -/
structure Mo (A B : List Int) (i : Nat) (X : List Int) : Prop where
  len : X.length = A.length + B.length
  wd : Wd X
  zero : ∀ j, i + B.length ≤ j → nth X j = 0
  eq : val X = val (A.take i) * val B
theorem Mo.start (A B : List Int) : Mo A B 0 (List.replicate (A.length + B.length) 0) := ⟨by simp, wd_zero _, fun j _ => nth_replicate _ _, by rw [val_zeros]; simp [val]⟩
theorem Mo.next {A B X0 X : List Int} {i : Nat} {c : Int} (h : Mo A B i X0) (m : Mu X0 B i (nth A i) B.length c X) (hi : i < A.length) : nth X (i + B.length) = 0 ∧ Mo A B (i + 1) (X.set (i + B.length) c) := by
  have hlen := m.len
  have hl := h.len
  have z : nth X (i + B.length) = 0 := by rw [m.up _ (Nat.le_refl _)]; exact h.zero _ (Nat.le_refl _)
  refine ⟨z, ⟨by simp; omega, m.wd.set _ m.c0 m.c1, ?_, ?_⟩⟩
  · intro j hj
    rw [nth_set_other _ _ _ _ (by omega), m.up j (by omega)]
    exact h.zero j (by omega)
  · have e := m.eq
    have e2 := h.eq
    rw [List.take_length] at e
    rw [val_set (by omega), z, val_at A i hi]
    grind
theorem mul_none_l (a1 : Option Addr) (c1 : Nat) (v : Value) (w : World) : Calls Tryz.prog 68 #[.slice a1 0 c1, v] w fun e w' => e = .returned (.slice none 0 0) ∧ w' = w := by
  go_enter Tryz.func68, Tryz.ntmps68
  go_wp2
  go_ret
  exact ⟨rfl, rfl⟩
theorem mul_none_r (a1 a2 : Option Addr) (n1 c1 c2 : Nat) (h : ((n1 : Int) == 0) = false) (w : World) : Calls Tryz.prog 68 #[.slice a1 n1 c1, .slice a2 0 c2] w fun e w' => e = .returned (.slice none 0 0) ∧ w' = w := by
  go_enter Tryz.func68, Tryz.ntmps68
  go_wp2
  go_ret
  exact ⟨rfl, rfl⟩
set_option maxHeartbeats 3200000 in
set_option maxRecDepth 100000 in
theorem mul_some (a1 a2 : Option Addr) (c1 c2 : Nat) (xs ys : List Int) (w : World) (hx : Wd xs) (hy : Wd ys) (g1 : 0 < xs.length → ∃ b o, a1 = some ⟨b, o, none⟩ ∧ Cells w b o xs) (g2 : 0 < ys.length → ∃ b o, a2 = some ⟨b, o, none⟩ ∧ Cells w b o ys) (p1 : 0 < xs.length) (p2 : 0 < ys.length) (l1 : xs.length ≤ 274877906944) (l2 : ys.length ≤ 274877906944) :
    Calls Tryz.prog 68 #[.slice a1 xs.length c1, .slice a2 ys.length c2] w fun e w' => ∃ v zs, e = .returned v ∧ Rd w' v zs ∧ Nm zs ∧ val zs = val xs * val ys ∧ Below w.heap.size w w' := by
  obtain ⟨b1, o1, rfl, q1⟩ := g1 p1
  obtain ⟨b2, o2, rfl, q2⟩ := g2 p2
  have hs1 : Hid (∀ w', Below w.heap.size w w' → Cells w' b1 o1 xs) := fun w' h => q1.grow h
  have hs2 : Hid (∀ w', Below w.heap.size w w' → Cells w' b2 o2 ys) := fun w' h => q2.grow h
  have z1 : ((xs.length : Int) == 0) = false := by rw [beq_eq_false_iff_ne]; omega
  have z2 : ((ys.length : Int) == 0) = false := by rw [beq_eq_false_iff_ne]; omega
  clear q1 q2 g1 g2
  obtain ⟨N, hN⟩ : ∃ N, N = xs.length + ys.length := ⟨_, rfl⟩
  have HN : Hid (N = xs.length + ys.length) := hN
  have nb : N ≤ 549755813888 := by omega
  have hw0 : IntKind.i64.wrap ((xs.length : Int) + ys.length) = (N : Int) := by rw [hN, wrap_self _ (by omega) (by omega)]; simp
  clear hN
  go_enter Tryz.func68, Tryz.ntmps68
  go_wp2_with (first
    | (at_make; refine wpList_make_words rfl _ _ rfl N _ _ rfl rfl rfl rfl (by omega) ?_; intro w1 k1 k2 k3 k4)
    | fail)
  go_loopw [6] (fun i wr => ∃ (k : Nat) (X : List Int), k ≤ xs.length ∧ i = .int .i64 k ∧ Mo xs ys k X ∧ Cells wr w.heap.size 0 X ∧ Wr w.heap.size 0 N w1 wr) (fun i _ => xs.length - (intOf i).toNat)
  case atStart => exact ⟨0, _, Nat.zero_le _, rfl, Mo.start xs ys, by rw [← HN.out]; exact k1, Wr.refl _ _ _ _⟩
  case round =>
    obtain ⟨i, X, hi, rfl, hMo, hc, hwr⟩ := hrel
    have hlX : Hid (X.length = xs.length + ys.length) := hMo.len
    by_cases hlt : i < xs.length
    · have HMo : Hid (Mo xs ys i X) := hMo
      clear hMo
      go_wp2_with fail
      go_loopw [7, 8] (fun c k wr => ∃ (k' : Nat) (cy : Int) (Y : List Int), k' ≤ ys.length ∧ c = .int .i64 cy ∧ k = .int .i64 k' ∧ Mu X ys i (nth xs i) k' cy Y ∧ Cells wr w.heap.size 0 Y ∧ Wr w.heap.size 0 N w1 wr) (fun _ k _ => ys.length - (intOf k).toNat)
      case atStart => exact ⟨0, 0, X, Nat.zero_le _, rfl, rfl, Mu.start HMo.out.wd, hc, hwr⟩
      case round =>
        clear hc hwr
        obtain ⟨k, cy, Y, hk, rfl, rfl, hMu, hc, hwr⟩ := hrel
        have hb := k3.trans (hwr.below (B := w.heap.size) (Nat.le_refl _) (by omega))
        have lY : Hid (Y.length = xs.length + ys.length) := hMu.len.trans hlX.out
        by_cases hlt2 : k < ys.length
        · have kx := hc.at (i := i + k) (by rw [lY.out]; omega)
          have kf := ((k2.wr hwr).free 0 N) (i + k) (by rw [HN.out]; omega)
          rw [Nat.zero_add] at kx kf
          have d1 := (hs1.out _ hb).at (i := i) hlt
          have d2 := (hs2.out _ hb).at (i := k) hlt2
          have y1 : (0 : Int) ≤ (i : Int) + k := by omega
          have y2 : ((i : Int) + k).toNat = i + k := by omega
          have y3 : IntKind.i64.wrap ((i : Int) + k) = (i : Int) + k := wrap_self _ (by omega) (by omega)
          have y4 : (i : Int) + k < N := by rw [HN.out]; omega
          have ba := nth_bd hx i
          have bb := nth_bd hy k
          have bY := nth_bd hMu.wd (i + k)
          obtain ⟨S, hS⟩ : ∃ S, cy + (nth Y (i + k) + nth xs i * nth ys k) = S := ⟨_, rfl⟩
          have NX : Hid (Mu X ys i (nth xs i) (k + 1) (S / 1073741824) (Y.set (i + k) (S % 1073741824))) := hMu.next hy ba.1 ba.2 hlt2 (by rw [hlX.out]; omega) hS.symm
          have bd := mu_bd ba.1 ba.2 bb.1 bb.2 bY.1 bY.2 hMu.c0 hMu.c1
          have c0 := hMu.c0
          generalize nth Y (i + k) = y at *
          generalize nth xs i = a at *
          generalize nth ys k = b at *
          have e1 : IntKind.i64.wrap (a * b) = a * b := wrap_self _ (by omega) (by omega)
          have e2 : IntKind.i64.wrap (y + a * b) = y + a * b := wrap_self _ (by omega) (by omega)
          have e3 : IntKind.i64.wrap (cy + (y + a * b)) = S := by rw [hS]; exact wrap_self _ (by omega) (by omega)
          have s0 : 0 ≤ S := by omega
          have s1 : S < 1152921504606846976 := by omega
          have e4 : S.tdiv 1073741824 = S / 1073741824 := Int.tdiv_eq_ediv_of_nonneg s0
          have e5 : S.tmod 1073741824 = S % 1073741824 := Int.tmod_eq_emod_of_nonneg s0
          have i6 : Hid (k + 1 ≤ ys.length) := hlt2
          have LN : Hid (∀ m, Cells ((wr.drewN m).setCell ⟨w.heap.size, i + k, none⟩ (.int .i64 (S % 1073741824))) w.heap.size 0 (Y.set (i + k) (S % 1073741824)) ∧ Wr w.heap.size 0 N w1 ((wr.drewN m).setCell ⟨w.heap.size, i + k, none⟩ (.int .i64 (S % 1073741824)))) := fun m => ⟨by have := Cells.set (w := wr.drewN m) hc (i + k) (by rw [lY.out]; omega) (S % 1073741824); simpa using this, (hwr.drewN m).setCell (i + k) (by rw [HN.out]; omega) _⟩
          clear hS bd ba bb bY hMu
          go_wp2_with fail
          go_quiet (fail)
          go_wp2
          go_roundw
          case rel => exact ⟨k + 1, _, _, i6.out, rfl, by go_num, NX.out, (LN.out _).1, (LN.out _).2⟩
          case measure => simp [intOf]; omega
        · have ek : k = ys.length := by omega
          subst ek
          obtain ⟨z, R⟩ := HMo.out.next hMu hlt
          have kx := hc.at (i := i + ys.length) (by rw [lY.out]; omega)
          have kf := ((k2.wr hwr).free 0 N) (i + ys.length) (by rw [HN.out]; omega)
          rw [Nat.zero_add] at kx kf
          rw [z] at kx
          have HR : Hid (Mo xs ys (i + 1) (Y.set (i + ys.length) cy)) := R
          have y1 : (0 : Int) ≤ (i : Int) + ys.length := by omega
          have y2 : ((i : Int) + ys.length).toNat = i + ys.length := by omega
          have y3 : IntKind.i64.wrap ((i : Int) + ys.length) = (i : Int) + ys.length := wrap_self _ (by omega) (by omega)
          have y4 : (i : Int) + ys.length < N := by rw [HN.out]; omega
          have e1 : IntKind.i64.wrap cy = cy := wrap_self _ (by have := hMu.c0; omega) (by have := hMu.c1; omega)
          have hlt3 : i + 1 ≤ xs.length := hlt
          have LN : Hid (Cells (wr.setCell ⟨w.heap.size, i + ys.length, none⟩ (.int .i64 cy)) w.heap.size 0 (Y.set (i + ys.length) cy) ∧ Wr w.heap.size 0 N w1 (wr.setCell ⟨w.heap.size, i + ys.length, none⟩ (.int .i64 cy))) := ⟨by have := Cells.set hc (i + ys.length) (by rw [lY.out]; omega) cy; simpa using this, hwr.setCell (i + ys.length) (by rw [HN.out]; omega) _⟩
          clear R hMu z
          go_wp2
          go_roundw
          case rel => exact ⟨i + 1, _, hlt3, by go_num, HR.out, LN.out.1, LN.out.2⟩
          case measure => simp [intOf]; omega
    · have ek : i = xs.length := by omega
      subst ek
      have hb := k3.trans (hwr.below (B := w.heap.size) (Nat.le_refl _) (by omega))
      have Rv : Hid (val X = val xs * val ys) := by
        have e := hMo.eq
        rw [List.take_length] at e; exact e
      have wX := hMo.wd
      have lX2 : Hid (N = X.length) := by show N = X.length; rw [HN.out, hlX.out]
      clear hMo
      go_wp2_with fail
      refine (norm_rd _ _ _ X wr lX2.out wX (by have := lX2.out; omega) (by omega) (fun _ => ⟨_, _, rfl, hc⟩)).mono ?_
      rintro e w' ⟨n, zs, rfl, hrd, hnm, hvz, rfl⟩
      have hvz' : Hid (val zs = val xs * val ys) := hvz.trans Rv.out
      clear hvz
      go_wp2
      go_ret
      exact ⟨_, zs, rfl, hrd, hnm, hvz'.out, hb⟩
/-- (Nat).Mul of the reference. -/
theorem Mul_any (v1 v2 : Value) (xs ys : List Int) (w : World) (h1 : Rd w v1 xs) (h2 : Rd w v2 ys) (l1 : xs.length ≤ 274877906944) (l2 : ys.length ≤ 274877906944) :
    Calls Tryz.prog 68 #[v1, v2] w fun e w' => ∃ v zs, e = .returned v ∧ Rd w' v zs ∧ Nm zs ∧ val zs = val xs * val ys ∧ Below w.heap.size w w' := by
  obtain ⟨hx, a1, c1, rfl, _, _, g1⟩ := h1
  obtain ⟨hy, a2, c2, rfl, _, _, g2⟩ := h2
  by_cases p1 : 0 < xs.length
  · by_cases p2 : 0 < ys.length
    · exact mul_some a1 a2 c1 c2 xs ys w hx hy g1 g2 p1 p2 l1 l2
    · have e0 : ys = [] := List.eq_nil_of_length_eq_zero (by omega)
      subst e0
      refine (mul_none_r a1 a2 xs.length c1 c2 (by rw [beq_eq_false_iff_ne]; omega) w).mono ?_
      rintro e w' ⟨rfl, rfl⟩
      exact ⟨_, [], rfl, rd_nil _, Or.inl rfl, by simp [val], Below.refl _ _⟩
  · have e0 : xs = [] := List.eq_nil_of_length_eq_zero (by omega)
    subst e0
    refine (mul_none_l a1 c1 _ w).mono ?_
    rintro e w' ⟨rfl, rfl⟩
    exact ⟨_, [], rfl, rd_nil _, Or.inl rfl, by simp [val], Below.refl _ _⟩
end Go.Proofs.YtmopfnhjooopkaaGreatDoor.L

namespace Go.Proofs.YtmopfnhjooopkaaGreatDoor.L
open Go.RowKit Tl

theorem rd_form {w : World} {v : Value} {xs : List Int} (h : Rd w v xs) : ∃ a c, v = .slice a xs.length c := by obtain ⟨_, a, c, e, _⟩ := h; exact ⟨a, c, e⟩
/-- The number of limbs, by the size. -/
theorem mul_len {A B Z : List Int} (ha : Wd A) (hb : Wd B) (hz : Wd Z) (nz : Nm Z) (e : val Z = val A * val B) : Z.length ≤ A.length + B.length := by
  refine len_of_lt hz nz ?_
  rw [e, pw_add]
  have a1 := val_lt ha
  have b1 := val_lt hb
  have a0 := val_nonneg ha
  have b0 := val_nonneg hb
  have p := pw_pos A.length
  have h1 : val A * val B ≤ pw A.length * val B := Int.mul_le_mul_of_nonneg_right (by omega) b0
  have h2 : pw A.length * val B < pw A.length * pw B.length := Int.mul_lt_mul_of_pos_left b1 p
  omega
theorem add_len {A B Z : List Int} {K : Nat} (ha : Wd A) (hb : Wd B) (hz : Wd Z) (nz : Nm Z) (e : val Z = val A + val B) (la : A.length ≤ K) (lb : B.length ≤ K) : Z.length ≤ K + 1 := by
  refine len_of_lt hz nz ?_
  have a1 := val_lt ha
  have b1 := val_lt hb
  have m1 := pw_mono la
  have m2 := pw_mono lb
  have p := pw_pos K
  rw [e]
  simp only [pw]
  omega
theorem sub_len {A B Z : List Int} {K : Nat} (ha : Wd A) (hb : Wd B) (hz : Wd Z) (nz : Nm Z) (e : val Z = val A - val B) (la : A.length ≤ K) : Z.length ≤ K := by
  refine len_of_lt hz nz ?_
  have a1 := val_lt ha
  have b0 := val_nonneg hb
  have m1 := pw_mono la
  omega
end Go.Proofs.YtmopfnhjooopkaaGreatDoor.L

namespace Go.Proofs.YtmopfnhjooopkaaGreatDoor.L
open Go.RowKit Tl

/-- A number with a sign. -/
def sgI (g : Bool) (x : Int) : Int := if g = true then -x else x
theorem sgI_abs (g : Bool) {x : Int} (h : 0 ≤ x) : ((sgI g x).natAbs : Int) = x := by
  unfold sgI
  split <;> omega
/-- The value v is the exact number r, in lowest terms. -/
def IsQ (w : World) (v : Value) (r : Rat) : Prop :=
  ∃ (ns ds : List Int) (a1 a2 : Option Addr) (c1 c2 : Nat), v = .agg #[.bool (decide (r.num < 0)), .slice a1 ns.length c1, .slice a2 ds.length c2] ∧ Rd w (.slice a1 ns.length c1) ns ∧ Nm ns ∧ val ns = (r.num.natAbs : Int) ∧ Rd w (.slice a2 ds.length c2) ds ∧ Nm ds ∧ val ds = (r.den : Int)
theorem IsQ.grow {w w' : World} {v : Value} {r : Rat} (h : IsQ w v r) (b : Below w.heap.size w w') : IsQ w' v r := by
  obtain ⟨ns, ds, a1, a2, c1, c2, e, h1, n1, v1, h2, n2, v2⟩ := h
  exact ⟨ns, ds, a1, a2, c1, c2, e, h1.grow b, n1, v1, h2.grow b, n2, v2⟩
theorem IsQ.drew {w : World} {v : Value} {r : Rat} (h : IsQ w v r) : IsQ w.drew v r := h.grow ((Below.refl _ _).drew)
theorem IsQ.alloc {w : World} {v : Value} {r : Rat} {ob : Obj} (h : IsQ w v r) : IsQ (w.alloc ob) v r := h.grow ((Below.refl _ _).alloc (Nat.le_refl _) _)
theorem gcd_eq (X Y : Int) (g : Bool) (hX : 0 ≤ X) (hY : 0 < Y) : Y.toNat.gcd (sgI g X).natAbs = Int.gcd X Y := by
  rw [Nat.gcd_comm]
  unfold Int.gcd
  have e1 : (sgI g X).natAbs = X.natAbs := by unfold sgI; split <;> omega
  have e2 : Y.toNat = Y.natAbs := by omega
  rw [e1, e2]
/-- In lowest terms. -/
theorem mk_low {X Y N D : Int} (g : Bool) (hX : 0 < X) (hY : 0 < Y) (hN : 0 ≤ N) (eN : N * (Int.gcd X Y : Int) = X) (eD : D * (Int.gcd X Y : Int) = Y) :
    decide ((mkRat (sgI g X) Y.toNat).num < 0) = g ∧ N = ((mkRat (sgI g X) Y.toNat).num.natAbs : Int) ∧ D = ((mkRat (sgI g X) Y.toNat).den : Int) := by
  have y0 : Y.toNat ≠ 0 := by omega
  have G := gcd_eq X Y g (by omega) hY
  have num : (mkRat (sgI g X) Y.toNat).num = sgI g X / (Int.gcd X Y : Int) := by
    rw [Rat.num_mkRat, if_neg y0]
    rw [show ((Y.toNat.gcd (sgI g X).natAbs : Nat) : Int) = (Int.gcd X Y : Int) from by rw [G]]
  have den : ((mkRat (sgI g X) Y.toNat).den : Int) = Y / (Int.gcd X Y : Int) := by
    rw [Rat.den_mkRat, if_neg y0, G, Int.natCast_ediv, Int.toNat_of_nonneg (by omega)]
  rw [num, den]
  generalize (Int.gcd X Y : Int) = d at *
  have d0 : d ≠ 0 := by intro e; rw [e] at eN; simp at eN; omega
  have e1 : sgI g X / d = sgI g N := by
    unfold sgI
    split
    · rw [← eN, ← Int.neg_mul, Int.mul_ediv_cancel _ d0]
    · rw [← eN, Int.mul_ediv_cancel _ d0]
  have e2 : Y / d = D := by rw [← eD, Int.mul_ediv_cancel _ d0]
  have n0 : N ≠ 0 := by intro e; rw [e] at eN; simp at eN; omega
  rw [e1, e2]
  refine ⟨?_, (sgI_abs g hN).symm, rfl⟩
  unfold sgI
  cases g
  · rw [if_neg (by simp), decide_eq_false_iff_not]; omega
  · rw [if_pos rfl, decide_eq_true_eq]; omega
theorem val_nil : val ([] : List Int) = 0 := rfl
set_option maxHeartbeats 1600000 in
set_option maxRecDepth 100000 in
theorem make_none (neg : Bool) (a1 : Option Addr) (c1 : Nat) (v2 : Value) (w : World) :
    Calls Tryz.prog 70 #[.bool neg, .slice a1 0 c1, v2] w fun e w' => ∃ u2, e = .returned (.agg #[.bool false, .slice none 0 0, u2]) ∧ Rd w' u2 [1] ∧ Below w.heap.size w w' := by
  have ho : Rd ((w.alloc (.cells #[.bool false, .slice none 0 0, .slice (some ⟨w.heap.size + 1, 0, none⟩) 1 1] 65)).alloc (.cells #[.int .i64 1] 3)) (.slice (some ⟨w.heap.size + 1, 0, none⟩) 1 1) [1] := rd_one (cell_at (by simp)) (by decide) (by decide)
  have pr : Below w.heap.size w ((w.alloc (.cells #[.bool false, .slice none 0 0, .slice (some ⟨w.heap.size + 1, 0, none⟩) 1 1] 65)).alloc (.cells #[.int .i64 1] 3)) := ((Below.refl _ _).alloc (Nat.le_refl _) _).alloc (by simp) _
  go_enter Tryz.func70, Tryz.ntmps70
  go_wp2
  exact bodyPost_ret (v := .agg #[.bool false, .slice none 0 0, .slice (some ⟨w.heap.size + 1, 0, none⟩) 1 1]) (by simp [results, Tryz.results70, go_sem]) rfl ⟨_, rfl, ho, pr⟩
/-- Make of the reference, as an exact number. -/
theorem Make_q (neg : Bool) (v1 v2 : Value) (xs ys : List Int) (L : Nat) (w : World) (h1 : Rd w v1 xs) (h2 : Rd w v2 ys) (n1 : Nm xs) (n2 : Nm ys) (l1 : xs.length ≤ L) (l2 : ys.length ≤ L) (hL : L ≤ 274877906944) (y0 : 0 < val ys) :
    Calls Tryz.prog 70 #[.bool neg, v1, v2] w fun e w' => ∃ v, e = .returned v ∧ IsQ w' v (mkRat (sgI neg (val xs)) (val ys).toNat) ∧ Below w.heap.size w w' := by
  by_cases p1 : 0 < xs.length
  · have x0 : 0 < val xs := by
      have := val_nonneg h1.1
      by_cases c : val xs = 0
      · rw [val_eq_zero h1.1 n1] at c
        rw [c] at p1; simp at p1
      · omega
    refine (Make_any neg v1 v2 xs ys L w h1 h2 n1 n2 l1 l2 hL p1).mono ?_
    rintro e w' ⟨u1, u2, ns, ds, rfl, hn, nn, hd, nd, eN, eD, hb⟩
    obtain ⟨a, c, rfl⟩ := rd_form hn
    obtain ⟨a', c', rfl⟩ := rd_form hd
    obtain ⟨m1, m2, m3⟩ := mk_low neg x0 y0 (val_nonneg hn.1) eN eD
    exact ⟨_, rfl, ⟨ns, ds, a, a', c, c', by rw [m1], hn, nn, m2, hd, nd, m3⟩, hb⟩
  · have e0 : xs = [] := List.eq_nil_of_length_eq_zero (by omega)
    subst e0
    obtain ⟨a, c, rfl⟩ := rd_form h1
    have e : mkRat (sgI neg (val [])) (val ys).toNat = 0 := by
      rw [val_nil]
      have : sgI neg 0 = 0 := by cases neg <;> rfl
      rw [this, Rat.zero_mkRat]
    rw [e]
    refine (make_none neg a c v2 w).mono ?_
    rintro e w' ⟨u2, rfl, h, hb⟩
    obtain ⟨a', c', rfl⟩ := rd_form h
    have z : decide ((0 : Rat).num < 0) = false := by decide
    exact ⟨_, rfl, ⟨[], [1], none, a', 0, c', by rw [z]; rfl, rd_nil _, Or.inl rfl, by rw [val_nil]; rfl, h, nm_one, by rw [val_one]; rfl⟩, hb⟩
end Go.Proofs.YtmopfnhjooopkaaGreatDoor.L

namespace Go.Proofs.YtmopfnhjooopkaaGreatDoor.L
open Go.RowKit Tl

theorem cmp3_ge {x y : Int} (h : y ≤ x) : 0 ≤ cmp3 x y := by
  unfold cmp3
  rw [if_neg (by omega)]
  split <;> omega
theorem cmp3_below {x y : Int} (h : x < y) : ¬ 0 ≤ cmp3 x y := by
  unfold cmp3
  rw [if_pos h]
  omega
end Go.Proofs.YtmopfnhjooopkaaGreatDoor.L

namespace Go.Proofs.YtmopfnhjooopkaaGreatDoor.L
open Go.RowKit Tl

/-- Neither part has more than K limbs. -/
def QS (r : Rat) (K : Nat) : Prop := (r.num.natAbs : Int) < pw K ∧ (r.den : Int) < pw K
theorem den_pos' (r : Rat) : (0 : Int) < (r.den : Int) := by
  have := r.den_nz
  omega
theorem num_sg (r : Rat) : r.num = sgI (decide (r.num < 0)) (r.num.natAbs : Int) := by
  unfold sgI
  by_cases c : r.num < 0
  · rw [decide_eq_true c, if_pos rfl]; omega
  · rw [decide_eq_false c, if_neg (by simp)]; omega
theorem add_rat (r s : Rat) (x : Int) (h : x = r.num * s.den + s.num * r.den) : mkRat x ((r.den : Int) * s.den).toNat = r + s := by
  rw [Rat.add_def', h]
  congr 1
end Go.Proofs.YtmopfnhjooopkaaGreatDoor.L

namespace Go.Proofs.YtmopfnhjooopkaaGreatDoor.L
open Go.RowKit Tl

theorem infoB : ∃ i, Tryz.prog.info? 5 = some i ∧ i.zero = some (.int .u8 0) ∧ i.size = 1 ∧ i.bytes = 1 := by
  have h : ((Tryz.prog.info? 5).map fun i => (i.zero, i.size, i.bytes)) = some (some (.int .u8 0), 1, 1) := by kernel_rfl
  obtain ⟨i, h1, h2⟩ := Option.map_eq_some_iff.1 h
  simp only [Prod.mk.injEq] at h2
  exact ⟨i, h1, h2.1, h2.2.1, h2.2.2⟩
/-- append(l, y) of bytes, l nil or a row of the call's own. -/
theorem wpList_pushb {w : World} {ops : Array Oper} {rest : List Oper} {o : Oper} {a : Act} {Q : Exit → Act → World → Prop} (hgd : o.guard = none) (s x : Operand)
    (ho : o.op = .call { callee := .builtin .append, args := #[s, x], argTypes := #[121, 121] })
    (v : Value) (Y : List Int) (hs : a.eval s = v) (base : Nat) (hown : w.ownsRow base 5 1 v Y.length (Y.map (Value.int .u8))) (hL : Y.length ≤ 70368744177664)
    (ad c : Nat) (y : Int) (hx : a.eval x = .slice (some ⟨ad, 0, none⟩) 1 c) (hn : w.cell? ⟨ad, 0, none⟩ = some (.int .u8 y)) (hbase : base ≤ w.heap.size)
    (h : ∀ v' w', w'.ownsRow base 5 1 v' (Y ++ [y]).length ((Y ++ [y]).map (Value.int .u8)) → Below base w w' → wpList Tryz.prog ops Q rest (a.put o.dst v') w') : wpList Tryz.prog ops Q (o :: rest) a w := by
  obtain ⟨i, hi, hz0, hz1, hz2⟩ := infoB
  refine wpList_append_own w hgd s x 121 ho base 5 i (.int .u8 0) 1 1 Tryz.underlying121 hi hz0 hz1 hz2 rfl (by decide) v Y.length _ hs hown ⟨ad, 0, none⟩ 1 c [.int .u8 y] hx rfl ?_ (by intro u hu; simp at hu; subst hu; rfl) (by unfold maxLen; omega) (by omega) hbase ?_
  · intro j u hj
    match j, hj with
    | 0, hj => simp at hj; subst hj; simpa [Addr.add] using hn
  · intro v' w' hown' hgr _
    refine h v' w' (by simpa using hown') ⟨hgr.os, hgr.tape, hgr.output, hgr.size, fun k hk => hgr.block k (by omega) ?_⟩
    obtain ⟨_, hr⟩ := hown
    rcases hr with ⟨rfl, _⟩ | ⟨g, cap, cur, rfl, hb, _⟩
    · simp [Value.ownBlock]
    · simp [Value.ownBlock]; omega
/-- append(l, y), l nil or a row of the call's own: what lies in other rows stays. -/
theorem wpList_pushk {w : World} {ops : Array Oper} {rest : List Oper} {o : Oper} {a : Act} {Q : Exit → Act → World → Prop} (hgd : o.guard = none) (s x : Operand)
    (ho : o.op = .call { callee := .builtin .append, args := #[s, x], argTypes := #[62, 62] })
    (v : Value) (Y : List Int) (hs : a.eval s = v) (base L : Nat) (hown : w.ownsRow base 3 1 v Y.length (Y.map (Value.int .i64))) (hlow : ∀ g, v.ownBlock = some g → g < L) (hL : Y.length ≤ 1099511627776)
    (ad c : Nat) (y : Int) (hx : a.eval x = .slice (some ⟨ad, 0, none⟩) 1 c) (hn : w.cell? ⟨ad, 0, none⟩ = some (.int .i64 y)) (hbase : base ≤ w.heap.size)
    (h : ∀ v' w', w'.ownsRow base 3 1 v' (Y ++ [y]).length ((Y ++ [y]).map (Value.int .i64)) → Below base w w' → (∀ k, L ≤ k → k < w.heap.size → w'.heap[k]? = w.heap[k]?) → wpList Tryz.prog ops Q rest (a.put o.dst v') w') : wpList Tryz.prog ops Q (o :: rest) a w := by
  obtain ⟨i, hi, hz0, hz1, hz2⟩ := info_parts Tryz.infoU
  refine wpList_append_own w hgd s x 62 ho base 3 i (.int .i64 0) 1 8 Tryz.underlying62 hi hz0 hz1 hz2 rfl (by decide) v Y.length _ hs hown ⟨ad, 0, none⟩ 1 c [.int .i64 y] hx rfl ?_ (by intro u hu; simp at hu; subst hu; rfl) (by unfold maxLen; omega) (by omega) hbase ?_
  · intro j u hj
    match j, hj with
    | 0, hj => simp at hj; subst hj; simpa [Addr.add] using hn
  · intro v' w' hown' hgr _
    refine h v' w' (by simpa using hown') ⟨hgr.os, hgr.tape, hgr.output, hgr.size, fun k hk => hgr.block k (by omega) ?_⟩ fun k hk hk' => hgr.block k hk' ?_
    · obtain ⟨_, hr⟩ := hown
      rcases hr with ⟨rfl, _⟩ | ⟨g, cap, cur, rfl, hb, _⟩
      · simp [Value.ownBlock]
      · simp [Value.ownBlock]; omega
    · intro e
      have := hlow k e.symm
      omega
def slen : Value → Nat | .slice _ n _ => n | _ => 0
theorem own_slen {w : World} {base n : Nat} {e : TypeId} {v : Value} {xs : List Value} (h : w.ownsRow base e 1 v n xs) : slen v = n := by
  obtain ⟨_, hr⟩ := h
  rcases hr with ⟨rfl, h0⟩ | ⟨g', cap, cur, rfl, _⟩
  · rw [h0]; rfl
  · rfl
theorem own_low {w : World} {base n : Nat} {e : TypeId} {v : Value} {xs : List Value} (h : w.ownsRow base e 1 v n xs) (g : Nat) (hg : v.ownBlock = some g) : g < w.heap.size := by
  obtain ⟨_, hr⟩ := h
  rcases hr with ⟨rfl, _⟩ | ⟨g', cap, cur, rfl, hb, e3, _⟩
  · simp [Value.ownBlock] at hg
  · simp [Value.ownBlock] at hg
    subst hg
    exact Own.lt ⟨cur, _, e3⟩
/-- What a row of bytes of the call's own holds. -/
theorem own_bytes {w : World} {base : Nat} {e : TypeId} {v : Value} {Y : List Int} (h : w.ownsRow base e 1 v Y.length (Y.map (Value.int .u8))) (ne : 0 < Y.length) :
    ∃ g cap, v = .slice (some ⟨g, 0, none⟩) Y.length cap ∧ base ≤ g ∧ g < w.heap.size ∧ Y.length ≤ cap ∧ cap ≤ 9223372036854775807 ∧ ∀ i, i < Y.length → w.cell? ⟨g, i, none⟩ = some (.int .u8 (nth Y i)) := by
  obtain ⟨_, h2⟩ := h
  rcases h2 with ⟨rfl, h2⟩ | ⟨g, cap, cur, rfl, hb, e3, e4, e5, e6, e7⟩
  · omega
  · refine ⟨g, cap, rfl, hb, Own.lt ⟨cur, _, e3⟩, e4, by unfold maxLen at e5; omega, fun i hi => ?_⟩
    rw [Nat.mul_one] at e7
    have h7 := congrArg (fun l : List Value => l[i]?) e7
    simp only [List.getElem?_take, hi, if_true, List.getElem?_map] at h7
    simp only [World.cell?, e3, Option.isSome_none, Bool.false_eq_true, if_false]
    rw [Array.getElem?_toList] at h7
    rw [h7]
    simp [nth, List.getD_eq_getElem?_getD, List.getElem?_eq_getElem hi]
/-- And one of ints. -/
theorem own_ints {w : World} {base : Nat} {e : TypeId} {v : Value} {Y : List Int} (h : w.ownsRow base e 1 v Y.length (Y.map (Value.int .i64))) (ne : 0 < Y.length) :
    ∃ g cap, v = .slice (some ⟨g, 0, none⟩) Y.length cap ∧ base ≤ g ∧ g < w.heap.size ∧ Y.length ≤ cap ∧ cap ≤ 9223372036854775807 ∧ ∀ i, i < Y.length → w.cell? ⟨g, i, none⟩ = some (.int .i64 (nth Y i)) := by
  obtain ⟨_, h2⟩ := h
  rcases h2 with ⟨rfl, h2⟩ | ⟨g, cap, cur, rfl, hb, e3, e4, e5, e6, e7⟩
  · omega
  · refine ⟨g, cap, rfl, hb, Own.lt ⟨cur, _, e3⟩, e4, by unfold maxLen at e5; omega, fun i hi => ?_⟩
    rw [Nat.mul_one] at e7
    have h7 := congrArg (fun l : List Value => l[i]?) e7
    simp only [List.getElem?_take, hi, if_true, List.getElem?_map] at h7
    simp only [World.cell?, e3, Option.isSome_none, Bool.false_eq_true, if_false]
    rw [Array.getElem?_toList] at h7
    rw [h7]
    simp [nth, List.getD_eq_getElem?_getD, List.getElem?_eq_getElem hi]

/-- The parts of nine digits of V, k of them, and what is left. -/
def Prt (V : Nat) (ps xs : List Int) : Prop := (∀ i, i < ps.length → nth ps i = ((V / 10 ^ (9 * i) % 1000000000 : Nat) : Int)) ∧ val xs = ((V / 10 ^ (9 * ps.length) : Nat) : Int)
theorem Prt.next {V : Nat} {ps xs zs : List Int} {r : Int} (h : Prt V ps xs) (hv : val zs * 1000000000 + r = val xs) (r0 : 0 ≤ r) (r1 : r < 1000000000) : Prt V (ps ++ [r]) zs := by
  obtain ⟨h1, h2⟩ := h
  have e : (V / 10 ^ (9 * (ps ++ [r]).length) : Nat) = V / 10 ^ (9 * ps.length) / 1000000000 := by
    rw [List.length_append, List.length_singleton, Nat.mul_add, Nat.pow_add, ← Nat.div_div_eq_div_mul]
  generalize hA : V / 10 ^ (9 * ps.length) = A at *
  refine ⟨fun i hi => ?_, ?_⟩
  · rw [List.length_append, List.length_singleton] at hi
    by_cases c : i < ps.length
    · have : nth (ps ++ [r]) i = nth ps i := by simp [nth, List.getD_eq_getElem?_getD, List.getElem?_append_left c]
      rw [this]; exact h1 i c
    · obtain rfl : i = ps.length := by omega
      have : nth (ps ++ [r]) ps.length = r := by simp [nth, List.getD_eq_getElem?_getD]
      rw [this, hA]
      omega
  · rw [e]
    omega
theorem Prt.done {V : Nat} {ps : List Int} (h : Prt V ps []) : V < 10 ^ (9 * ps.length) := by
  have h2 := h.2
  have p : 0 < 10 ^ (9 * ps.length) := Nat.pow_pos (by decide)
  generalize 10 ^ (9 * ps.length) = t at *
  have h3 : V / t = 0 := by simp [val] at h2; omega
  rcases Nat.div_eq_zero_iff.1 h3 with h3 | h3 <;> omega
theorem val_nil0 {xs : List Int} (h : ¬ 0 < xs.length) : xs = [] := List.eq_nil_of_length_eq_zero (by omega)
end Go.Proofs.YtmopfnhjooopkaaGreatDoor.L
