import Derived.Test.YtiobnojcmeeikaaGreatDoorPart11
import Derived.Deep.RegionHeld3
import Derived.Test.YtiobnojcmeeikaaGreatDoorPart06
import Derived.WalkLawsBesides
import Derived.Deep.DeepCutAuto
import Derived.Deep.CutBlock

namespace Go.Proofs.YtiobnojcmeeikaaGreatDoor.L
open Go.RowKit Tl

/-- The number that a row holds. -/
def cellNum (w : World) (p : Addr) : Int := match w.cell? p with | some (.int _ x) => x | _ => 0
def rowNum (w : World) : Value → Nat
  | .slice (some p) l _ => (val ((List.range l).map fun i => cellNum w ⟨p.block, p.off + i, none⟩)).toNat
  | _ => 0
theorem rowNum_rd {w : World} {v : Value} {xs : List Int} (h : Rd w v xs) : rowNum w v = (val xs).toNat := by
  obtain ⟨_, a, c, rfl, _, _, g⟩ := h
  by_cases h0 : xs = []
  · subst h0; cases a <;> simp [rowNum, val]
  · obtain ⟨b, o, rfl, hc⟩ := g (List.length_pos_iff.2 h0)
    simp only [rowNum]
    congr 2
    apply List.ext_getElem?
    intro i
    by_cases hi : i < xs.length
    · have := hc i hi
      simp [List.getElem?_map, List.getElem?_range hi, cellNum, this, nth, List.getD_eq_getElem?_getD, List.getElem?_eq_getElem hi]
    · rw [List.getElem?_eq_none (by simp; omega), List.getElem?_eq_none (by omega)]
theorem gcd_of_div {a b z r : Int} (h : a = z * b + r) : Int.gcd b r = Int.gcd a b := by
  have e : r = a - z * b := by omega
  rw [e, Int.gcd_comm a b, Int.mul_comm, Int.gcd_sub_mul_left_right]
theorem gcd_nought {a : Int} (h : 0 ≤ a) : a = (Int.gcd a 0 : Int) := by
  rw [Int.gcd_zero_right]; omega
theorem nm_pos {xs : List Int} (h : Wd xs) (n : Nm xs) (l : 0 < xs.length) : 0 < val xs := by
  have := val_low h n (by intro e; rw [e] at l; simp at l)
  have := pw_pos (xs.length - 1)
  omega
theorem nm_nil {xs : List Int} (l : ¬ 0 < xs.length) : xs = [] := List.eq_nil_of_length_eq_zero (by omega)
set_option maxHeartbeats 1600000 in
set_option maxRecDepth 100000 in
/-- Gcd of the reference. -/
theorem Gcd_any (v1 v2 : Value) (xs ys : List Int) (L : Nat) (w : World) (h1 : Rd w v1 xs) (h2 : Rd w v2 ys) (n1 : Nm xs) (n2 : Nm ys) (l1 : xs.length ≤ L) (l2 : ys.length ≤ L) (hL : L ≤ 274877906944) :
    Calls Tryz.prog 42 #[v1, v2] w fun e w' => ∃ r zs, e = .returned r ∧ Rd w' r zs ∧ Nm zs ∧ val zs = (Int.gcd (val xs) (val ys) : Int) ∧ zs.length ≤ L ∧ Below w.heap.size w w' := by
  obtain ⟨G, hG⟩ : ∃ G, Int.gcd (val xs) (val ys) = G := ⟨_, rfl⟩
  rw [hG]
  go_enter Tryz.func42, Tryz.ntmps42
  go_wp2_with fail
  go_loopw [0, 1] (fun a b wr => ∃ A B, Rd wr a A ∧ Nm A ∧ Rd wr b B ∧ Nm B ∧ Int.gcd (val A) (val B) = G ∧ A.length ≤ L ∧ B.length ≤ L ∧ Below w.heap.size w wr) (fun _ b wr => rowNum wr b)
  case atStart => exact ⟨xs, ys, h1, n1, h2, n2, hG, l1, l2, Below.refl _ _⟩
  case round =>
    obtain ⟨A, B, hA, nA, hB, nB, hg, lA, lB, hb⟩ := hrel
    have HG : Hid (Int.gcd (val A) (val B) = G) := hg
    have hB' : Hid (Rd wr u1 B) := hB
    obtain ⟨wB, a2, c2, rfl, _, _, _⟩ := hB
    clear hg hG
    by_cases hlt : 0 < B.length
    · have MB : Hid _ := rowNum_rd hB'.out
      have vB := nm_pos wB nB hlt
      go_wp2_with (first
        | (go_at_call 44; (refine (DivMod_any _ _ A B _ hA hB'.out nA nB (by omega) vB).mono ?_); rintro e w2 ⟨q, r, zs, rs, rfl, hq, nq, hr, nr, hv, r0, r1, hb2⟩)
        | fail)
      go_roundw
      case rel => exact ⟨B, rs, hB'.out.grow hb2, nB, hr, nr, (gcd_of_div hv).trans HG.out, lB, Nat.le_trans (len_mono wB hr.1 nr (by omega)) lB, hb.trans (hb2.mono hb.size)⟩
      case measure =>
        show rowNum w2 r < rowNum wr _
        rw [MB.out, rowNum_rd hr]; omega
    · have e0 : Hid (B = []) := nm_nil hlt
      have RG : Hid (val A = (G : Int)) := by
        have := HG.out
        rw [e0.out] at this
        show val A = (G : Int)
        rw [← this]
        exact gcd_nought (val_nonneg hA.1)
      go_wp2
      go_ret
      exact ⟨_, A, rfl, hA, nA, RG.out, lA, hb⟩
end Go.Proofs.YtiobnojcmeeikaaGreatDoor.L

namespace Go.Proofs.YtiobnojcmeeikaaGreatDoor.L
open Go.RowKit Tl

theorem rd_one {w : World} {n c : Nat} (h : w.cell? ⟨n, 0, none⟩ = some (.int .i64 1)) (h1 : 1 ≤ c) (h2 : c ≤ 9223372036854775807) : Rd w (.slice (some ⟨n, 0, none⟩) 1 c) [1] := by
  refine ⟨Wd.cons (by decide) (by decide) Wd.nil, _, c, rfl, h1, h2, fun _ => ⟨n, 0, rfl, ?_⟩⟩
  intro i hi
  have : i = 0 := by simp at hi; omega
  subst this
  simpa [nth] using h
theorem nm_one : Nm [1] := Or.inr (by simp)
theorem val_one : val [1] = 1 := by simp [val]
/-- Three cells are written. -/
theorem put3 {w1 : World} {b : Nat} {u0 u1 u2 : Value} (x y z : Value) (g0 : w1.cell? ⟨b, 0, none⟩ = some u0) (g1 : w1.cell? ⟨b, 1, none⟩ = some u1) (g2 : w1.cell? ⟨b, 2, none⟩ = some u2) :
    (((w1.setCell ⟨b, 0, none⟩ x).setCell ⟨b, 1, none⟩ y).setCell ⟨b, 2, none⟩ z).cell? ⟨b, 0, none⟩ = some x ∧ (((w1.setCell ⟨b, 0, none⟩ x).setCell ⟨b, 1, none⟩ y).setCell ⟨b, 2, none⟩ z).cell? ⟨b, 1, none⟩ = some y ∧ (((w1.setCell ⟨b, 0, none⟩ x).setCell ⟨b, 1, none⟩ y).setCell ⟨b, 2, none⟩ z).cell? ⟨b, 2, none⟩ = some z ∧ (∀ B w, B ≤ b → Below B w w1 → Below B w (((w1.setCell ⟨b, 0, none⟩ x).setCell ⟨b, 1, none⟩ y).setCell ⟨b, 2, none⟩ z)) := by
  have h1 : (w1.setCell ⟨b, 0, none⟩ x).cell? ⟨b, 1, none⟩ = some u1 := (World.cell?_setCell_other _ _ _ _ (by simp)).trans g1
  have h2 : ((w1.setCell ⟨b, 0, none⟩ x).setCell ⟨b, 1, none⟩ y).cell? ⟨b, 2, none⟩ = some u2 := (World.cell?_setCell_other _ _ _ _ (by simp)).trans ((World.cell?_setCell_other _ _ _ _ (by simp)).trans g2)
  refine ⟨?_, ?_, World.cell?_setCell_same _ _ _ h2, fun B w hB h => ((h.setCell (p := ⟨b, 0, none⟩) hB x).setCell (p := ⟨b, 1, none⟩) hB y).setCell (p := ⟨b, 2, none⟩) hB z⟩
  · rw [World.cell?_setCell_other _ _ _ _ (by simp), World.cell?_setCell_other _ _ _ _ (by simp), World.cell?_setCell_same _ _ _ g0]
  · rw [World.cell?_setCell_other _ _ _ _ (by simp), World.cell?_setCell_same _ _ _ h1]
/-- Numbers lie as they did where a Q's own block was written. -/
theorem Rd.putQ {w1 : World} {b : Nat} {v x y z : Value} {xs : List Int} {g : Bool} {a1 a2 : Option Addr} {n1 c1 n2 c2 : Nat} {t : TypeId} (h : Rd w1 v xs) (K : Blk w1 b #[.bool g, .slice a1 n1 c1, .slice a2 n2 c2] t) : Rd (((w1.setCell ⟨b, 0, none⟩ x).setCell ⟨b, 1, none⟩ y).setCell ⟨b, 2, none⟩ z) v xs := by
  obtain ⟨hx, a, c, rfl, h2, h3, g⟩ := h
  refine ⟨hx, a, c, rfl, h2, h3, fun l => ?_⟩
  obtain ⟨b', o, rfl, hc⟩ := g l
  have hne : b' ≠ b := by
    intro e
    subst e
    have h0 := hc 0 l
    rw [K.at] at h0
    match o, h0 with
    | 0, h0 => simp at h0
    | 1, h0 => simp at h0
    | 2, h0 => simp at h0
    | o + 3, h0 => simp at h0
  have hw : Wr b 0 3 w1 (((w1.setCell ⟨b, 0, none⟩ x).setCell ⟨b, 1, none⟩ y).setCell ⟨b, 2, none⟩ z) := (((Wr.refl _ _ _ _).setCell 0 (by omega) x).setCell 1 (by omega) y).setCell 2 (by omega) z
  exact ⟨b', o, rfl, hc.other hw hne⟩
theorem gcd_rest {x g q r : Int} (hd : g ∣ x) (h : x = q * g + r) (r0 : 0 ≤ r) (r1 : r < g) : q * g = x := by
  have h1 : g ∣ r := by
    obtain ⟨k, hk⟩ := hd
    exact ⟨k - q, by rw [Int.mul_sub, ← hk, h]; rw [Int.mul_comm g q]; omega⟩
  obtain ⟨k, hk⟩ := h1
  by_cases c : k = 0
  · rw [c] at hk; simp at hk; omega
  · rcases Int.lt_or_gt_of_ne c with c | c
    · have := Int.mul_le_mul_of_nonneg_left (show k ≤ -1 by omega) (show 0 ≤ g by omega); omega
    · have := Int.mul_le_mul_of_nonneg_left (show 1 ≤ k by omega) (show 0 ≤ g by omega); omega
set_option maxHeartbeats 1600000 in
set_option maxRecDepth 100000 in
/-- Make of the reference: in lowest terms already. -/
theorem make_one (neg : Bool) (v1 v2 : Value) (xs ys : List Int) (L : Nat) (w : World) (h1 : Rd w v1 xs) (h2 : Rd w v2 ys) (n1 : Nm xs) (n2 : Nm ys) (l1 : xs.length ≤ L) (l2 : ys.length ≤ L) (hL : L ≤ 274877906944) (p1 : 0 < xs.length) (hg : Int.gcd (val xs) (val ys) = 1) :
    Calls Tryz.prog 28 #[.bool neg, v1, v2] w fun e w' => e = .returned (.agg #[.bool neg, v1, v2]) ∧ Below w.heap.size w w' := by
  have hz : ((xs.length : Int) == 0) = false := by rw [beq_eq_false_iff_ne]; omega
  have HG : Hid (Int.gcd (val xs) (val ys) = 1) := hg
  clear hg
  obtain ⟨a1, c1, rfl⟩ : ∃ a1 c1, v1 = .slice a1 xs.length c1 := by obtain ⟨_, a1, c1, e, _⟩ := h1; exact ⟨a1, c1, e⟩
  obtain ⟨a2, c2, rfl⟩ : ∃ a1 c1, v2 = .slice a1 ys.length c1 := by obtain ⟨_, a1, c1, e, _⟩ := h2; exact ⟨a1, c1, e⟩
  have hR1 : Hid (∀ w', Below w.heap.size w w' → Rd w' (.slice a1 xs.length c1) xs) := fun w' k => h1.grow k
  have hR2 : Hid (∀ w', Below w.heap.size w w' → Rd w' (.slice a2 ys.length c2) ys) := fun w' k => h2.grow k
  have K0 := Blk.new w #[.bool false, .slice none 0 0, .slice none 0 0] 49
  have pr : Below w.heap.size w (w.alloc (.cells #[.bool false, .slice none 0 0, .slice none 0 0] 49)) := (Below.refl _ _).alloc (Nat.le_refl _) _
  go_enter Tryz.func28, Tryz.ntmps28
  go_wp2_with (first
    | (go_at_call 42; (refine (Gcd_any _ _ xs ys L _ (hR1.out _ pr) (hR2.out _ pr) n1 n2 l1 l2 hL).mono ?_; rintro e w1 ⟨r, gs, rfl, hr, hn, hv, lg, hb⟩; have hv1 : val gs = 1 := (by rw [hv, HG.out]; rfl); clear hv; replace K0 := K0.below hb K0.lt; replace pr := pr.trans (hb.mono pr.size)))
    | (go_at_call 43; (refine (Cmp_any _ _ gs [1] _ (hr.grow ((Below.refl _ _).alloc (Nat.le_refl _) _)) (rd_one (by simp) (by decide) (by decide)) hn nm_one (by omega)).mono ?_; rintro e w2 ⟨rfl, hb2⟩; rw [cmp3_eq (hv1.trans val_one.symm)]; replace K0 := (K0.alloc (.cells #[.int .i64 1] 3)).below hb2 (K0.alloc (.cells #[.int .i64 1] 3)).lt; replace pr := (pr.alloc pr.size (.cells #[.int .i64 1] 3)).trans (hb2.mono (pr.alloc pr.size (.cells #[.int .i64 1] 3)).size); have e0 : w2.cell? ⟨w.heap.size, 0, none⟩ = some (.bool false) := K0.at 0; have e1 : w2.cell? ⟨w.heap.size, 1, none⟩ = some (.slice none 0 0) := K0.at 1; have e2 : w2.cell? ⟨w.heap.size, 2, none⟩ = some (.slice none 0 0) := K0.at 2; have z0 := K0.free 0; have z1 := K0.free 1; have z2 := K0.free 2))
    | fail)
  obtain ⟨F0, F1, F2, FB⟩ := put3 (.bool neg) (.slice a1 xs.length c1) (.slice a2 ys.length c2) e0 e1 e2
  exact bodyPost_ret (v := .agg #[.bool neg, .slice a1 xs.length c1, .slice a2 ys.length c2]) (by simp [results, Tryz.results28, go_sem, F0, F1, F2]) rfl ⟨rfl, FB _ _ (Nat.le_refl _) pr⟩
set_option maxHeartbeats 1600000 in
set_option maxRecDepth 100000 in
/-- Make of the reference: a common divisor is taken out. -/
theorem make_more (neg : Bool) (v1 v2 : Value) (xs ys : List Int) (L : Nat) (w : World) (h1 : Rd w v1 xs) (h2 : Rd w v2 ys) (n1 : Nm xs) (n2 : Nm ys) (l1 : xs.length ≤ L) (l2 : ys.length ≤ L) (hL : L ≤ 274877906944) (p1 : 0 < xs.length) (G : Int) (hg : (Int.gcd (val xs) (val ys) : Int) = G) (hg1 : G ≠ 1) :
    Calls Tryz.prog 28 #[.bool neg, v1, v2] w fun e w' => ∃ u1 u2 ns ds, e = .returned (.agg #[.bool neg, u1, u2]) ∧ Rd w' u1 ns ∧ Nm ns ∧ Rd w' u2 ds ∧ Nm ds ∧ val ns * G = val xs ∧ val ds * G = val ys ∧ Below w.heap.size w w' := by
  have hz : ((xs.length : Int) == 0) = false := by rw [beq_eq_false_iff_ne]; omega
  have px := nm_pos h1.1 n1 p1
  have HG : Hid ((Int.gcd (val xs) (val ys) : Int) = G) := hg
  have G0 : 0 < G := by
    have : 0 < Int.gcd (val xs) (val ys) := Int.gcd_pos_of_ne_zero_left _ (by omega)
    omega
  have D1 : Hid (G ∣ val xs) := by show G ∣ val xs; rw [← HG.out]; exact Int.gcd_dvd_left ..
  have D2 : Hid (G ∣ val ys) := by show G ∣ val ys; rw [← HG.out]; exact Int.gcd_dvd_right ..
  clear hg
  obtain ⟨a1, c1, rfl⟩ : ∃ a1 c1, v1 = .slice a1 xs.length c1 := by obtain ⟨_, a1, c1, e, _⟩ := h1; exact ⟨a1, c1, e⟩
  obtain ⟨a2, c2, rfl⟩ : ∃ a1 c1, v2 = .slice a1 ys.length c1 := by obtain ⟨_, a1, c1, e, _⟩ := h2; exact ⟨a1, c1, e⟩
  have hR1 : Hid (∀ w', Below w.heap.size w w' → Rd w' (.slice a1 xs.length c1) xs) := fun w' k => h1.grow k
  have hR2 : Hid (∀ w', Below w.heap.size w w' → Rd w' (.slice a2 ys.length c2) ys) := fun w' k => h2.grow k
  have K0 := Blk.new w #[.bool false, .slice none 0 0, .slice none 0 0] 49
  have pr : Below w.heap.size w (w.alloc (.cells #[.bool false, .slice none 0 0, .slice none 0 0] 49)) := (Below.refl _ _).alloc (Nat.le_refl _) _
  go_enter Tryz.func28, Tryz.ntmps28
  go_wp2_with (first
    | (go_at_call 42; (refine (Gcd_any _ _ xs ys L _ (hR1.out _ pr) (hR2.out _ pr) n1 n2 l1 l2 hL).mono ?_; rintro e w1 ⟨r, gs, rfl, hr, hn, hv, lg, hb⟩; have hv1 : Hid (val gs = G) := hv.trans HG.out; clear hv; replace K0 := K0.below hb K0.lt; replace pr := pr.trans (hb.mono pr.size)))
    | (go_at_call 43; (refine (Cmp_any _ _ gs [1] _ (hr.grow ((Below.refl _ _).alloc (Nat.le_refl _) _)) (rd_one (by simp) (by decide) (by decide)) hn nm_one (by omega)).mono ?_; rintro e w2 ⟨rfl, hb2⟩; have hc : cmp3 (val gs) (val [1]) ≠ 0 := (by rw [hv1.out, val_one]; unfold cmp3; split; decide; split; decide; omega); have hc2 : (cmp3 (val gs) (val [1]) == 0) = false := beq_eq_false_iff_ne.2 hc; replace K0 := (K0.alloc (.cells #[.int .i64 1] 3)).below hb2 (K0.alloc (.cells #[.int .i64 1] 3)).lt; have hr2 := (hr.grow ((Below.refl _ _).alloc (Nat.le_refl _) (.cells #[.int .i64 1] 3))).grow hb2; replace pr := (pr.alloc pr.size (.cells #[.int .i64 1] 3)).trans (hb2.mono (pr.alloc pr.size (.cells #[.int .i64 1] 3)).size)))
    | (go_at_call 44; (with_reducible refine (DivMod_any (.slice a1 xs.length c1) r xs gs w2 (hR1.out _ pr) hr2 n1 hn (by omega) (by rw [hv1.out]; exact G0)).mono ?_); (rintro e w3 ⟨q1, r1, ns, rs1, rfl, hq1, nn, _, _, e1, r10, r11, hb3⟩; have E1 : Hid (val ns * G = val xs) := (by rw [hv1.out] at e1 r11; exact gcd_rest D1.out e1 r10 r11); clear e1 r10 r11; replace K0 := K0.below hb3 K0.lt; replace pr := pr.trans (hb3.mono pr.size); have hr3 := hr2.grow hb3))
    | (go_at_call 44; (with_reducible refine (DivMod_any (.slice a2 ys.length c2) r ys gs w3 (hR2.out _ pr) hr3 n2 hn (by omega) (by rw [hv1.out]; exact G0)).mono ?_); (rintro e w4 ⟨q2, r2, ds, rs2, rfl, hq2, nd, _, _, e2, r20, r21, hb4⟩; have E2 : Hid (val ds * G = val ys) := (by rw [hv1.out] at e2 r21; exact gcd_rest D2.out e2 r20 r21); clear e2 r20 r21; replace K0 := K0.below hb4 K0.lt; replace pr := pr.trans (hb4.mono pr.size); replace hq1 := hq1.grow hb4; have e0 : w4.cell? ⟨w.heap.size, 0, none⟩ = some (.bool false) := K0.at 0; have e1 : w4.cell? ⟨w.heap.size, 1, none⟩ = some (.slice none 0 0) := K0.at 1; have e2 : w4.cell? ⟨w.heap.size, 2, none⟩ = some (.slice none 0 0) := K0.at 2; have z0 := K0.free 0; have z1 := K0.free 1; have z2 := K0.free 2; obtain ⟨b1, d1, rfl⟩ : ∃ a1 c1, q1 = .slice a1 ns.length c1 := (by obtain ⟨_, a1, c1, e, _⟩ := hq1; exact ⟨a1, c1, e⟩); obtain ⟨b2, d2, rfl⟩ : ∃ a1 c1, q2 = .slice a1 ds.length c1 := (by obtain ⟨_, a1, c1, e, _⟩ := hq2; exact ⟨a1, c1, e⟩)))
    | fail)
  obtain ⟨F0, F1, F2, FB⟩ := put3 (.bool neg) (.slice b1 ns.length d1) (.slice b2 ds.length d2) e0 e1 e2
  exact bodyPost_ret (v := .agg #[.bool neg, .slice b1 ns.length d1, .slice b2 ds.length d2]) (by simp [results, Tryz.results28, go_sem, F0, F1, F2]) rfl ⟨_, _, ns, ds, rfl, hq1.putQ K0, nn, hq2.putQ K0, nd, E1.out, E2.out, FB _ _ (Nat.le_refl _) pr⟩
/-- Make of the reference: any fraction but nought. -/
theorem Make_any (neg : Bool) (v1 v2 : Value) (xs ys : List Int) (L : Nat) (w : World) (h1 : Rd w v1 xs) (h2 : Rd w v2 ys) (n1 : Nm xs) (n2 : Nm ys) (l1 : xs.length ≤ L) (l2 : ys.length ≤ L) (hL : L ≤ 274877906944) (p1 : 0 < xs.length) :
    Calls Tryz.prog 28 #[.bool neg, v1, v2] w fun e w' => ∃ u1 u2 ns ds, e = .returned (.agg #[.bool neg, u1, u2]) ∧ Rd w' u1 ns ∧ Nm ns ∧ Rd w' u2 ds ∧ Nm ds ∧ val ns * (Int.gcd (val xs) (val ys) : Int) = val xs ∧ val ds * (Int.gcd (val xs) (val ys) : Int) = val ys ∧ Below w.heap.size w w' := by
  by_cases hg : Int.gcd (val xs) (val ys) = 1
  · refine (make_one neg v1 v2 xs ys L w h1 h2 n1 n2 l1 l2 hL p1 hg).mono ?_
    rintro e w' ⟨rfl, hb⟩
    exact ⟨v1, v2, xs, ys, rfl, h1.grow hb, n1, h2.grow hb, n2, by rw [hg]; simp, by rw [hg]; simp, hb⟩
  · exact make_more neg v1 v2 xs ys L w h1 h2 n1 n2 l1 l2 hL p1 _ rfl (by omega)
end Go.Proofs.YtiobnojcmeeikaaGreatDoor.L

namespace Go.Proofs.YtiobnojcmeeikaaGreatDoor.L
open Go.RowKit Tl

/-- How many bits a number has. -/
def bl (x : Int) : Nat := if x ≤ 0 then 0 else Nat.log2 x.toNat + 1
theorem two_pow_le {a b : Nat} (h : a ≤ b) : (2 : Int) ^ a ≤ 2 ^ b := by
  have : 2 ^ a ≤ 2 ^ b := Nat.pow_le_pow_right (by decide) h
  exact_mod_cast this
theorem two_pow_pos (a : Nat) : (0 : Int) < 2 ^ a := Int.pow_pos (by decide)
theorem shl_len2 {xs A : List Int} {n : Nat} (hx : Wd xs) (hA : Wd A) (nA : Nm A) (e : val A = val xs * 2 ^ n) : A.length ≤ xs.length + (n / 30 + 1) := by
  by_cases c : A.length ≤ xs.length + (n / 30 + 1)
  · exact c
  · have nv : A ≠ [] := by intro h; rw [h] at c; simp at c
    have l := val_low hA nA nv
    have m := pw_mono (show xs.length + (n / 30 + 1) ≤ A.length - 1 by omega)
    have h := val_lt hx
    have h0 := val_nonneg hx
    have p := two_pow_pos n
    have a := Int.mul_lt_mul_of_pos_right h p
    have b : (2 : Int) ^ n ≤ pw (n / 30 + 1) := by rw [pw_two]; exact two_pow_le (by omega)
    have d := Int.mul_le_mul_of_nonneg_left b (Int.le_of_lt (pw_pos xs.length))
    rw [← pw_add] at d
    omega
theorem le_of_quo {a q b r : Int} (h : a = q * b + r) (r0 : 0 ≤ r) (q0 : 0 ≤ q) (b0 : 0 < b) : q ≤ a := by
  have := Int.mul_le_mul_of_nonneg_left (show 1 ≤ b by omega) q0
  omega
end Go.Proofs.YtiobnojcmeeikaaGreatDoor.L

namespace Go.Proofs.YtiobnojcmeeikaaGreatDoor.L
open Go.RowKit Tl

theorem bel {w W w1 : World} (pr : Below w.heap.size w W) (b1 : Below W.heap.size W w1) : Below w.heap.size w w1 := pr.trans (b1.mono pr.size)
theorem keep_cell {W w5 : World} {b i : Nat} {v : Value} (bu : Below W.heap.size W w5) (h : W.cell? ⟨b, i, none⟩ = some v) : w5.cell? ⟨b, i, none⟩ = some v := (bu.cell (p := ⟨b, i, none⟩) (lt_of_cell h)).trans h
theorem cell_alloc {w : World} {b i : Nat} {ob : Obj} {v : Value} (h : w.cell? ⟨b, i, none⟩ = some v) : (w.alloc ob).cell? ⟨b, i, none⟩ = some v := keep_cell ((Below.refl _ _).alloc (Nat.le_refl _) _) h
theorem cell_at {w : World} {n : Nat} {v : Value} {t : TypeId} (h : n = w.heap.size) : (w.alloc (.cells #[v] t)).cell? ⟨n, 0, none⟩ = some v := by subst h; simp
theorem rd_alloc {w : World} {ob : Obj} {v : Value} {xs : List Int} (h : Rd w v xs) : Rd (w.alloc ob) v xs := h.grow ((Below.refl _ _).alloc (Nat.le_refl _) _)
theorem bel_alloc {w W : World} {ob : Obj} (h : Below w.heap.size w W) : Below w.heap.size w (W.alloc ob) := h.alloc h.size _
theorem blk_keep {W w5 : World} {n : Nat} {c : Array Value} {t : TypeId} (bu : Below W.heap.size W w5) (h : Blk W n c t) : Blk w5 n c t := h.below bu h.lt
theorem cell_drew {w : World} {b i : Nat} {v : Value} (h : w.cell? ⟨b, i, none⟩ = some v) : w.drew.cell? ⟨b, i, none⟩ = some v := h
theorem blk_drew {w : World} {n : Nat} {c : Array Value} {t : TypeId} (h : Blk w n c t) : Blk w.drew n c t := h
theorem bel_drw {w W : World} (h : Below w.heap.size w W) : Below w.heap.size w W.drew := h.drew
theorem rd_drew {w : World} {v : Value} {xs : List Int} (h : Rd w v xs) : Rd w.drew v xs := h.drew
theorem wr3 {w : World} {b : Nat} {x y z : Value} : Wr b 0 3 w (((w.setCell ⟨b, 0, none⟩ x).setCell ⟨b, 1, none⟩ y).setCell ⟨b, 2, none⟩ z) := (((Wr.refl _ _ _ _).setCell 0 (by omega) x).setCell 1 (by omega) y).setCell 2 (by omega) z
theorem one_len : ([1] : List Int).length ≤ 549755813888 := by decide
theorem h1_wd : Wd [1] := Wd.cons (by decide) (by decide) Wd.nil
theorem set3_other {w : World} {b b' i : Nat} {x y z v : Value} (_h : b' ≠ b) (q : w.cell? ⟨b', i, none⟩ = some v) : (((w.setCell ⟨b, 0, none⟩ x).setCell ⟨b, 1, none⟩ y).setCell ⟨b, 2, none⟩ z).cell? ⟨b', i, none⟩ = some v := by
  rw [World.cell?_setCell_other _ _ _ _ (by simp), World.cell?_setCell_other _ _ _ _ (by simp), World.cell?_setCell_other _ _ _ _ (by simp)]; exact q
end Go.Proofs.YtiobnojcmeeikaaGreatDoor.L

namespace Go.Proofs.YtiobnojcmeeikaaGreatDoor.L
open Go.RowKit Tl

/-- x times B is added to X0 from place i on: k limbs of it. -/
structure Mu (X0 B : List Int) (i : Nat) (x : Int) (k : Nat) (c : Int) (X : List Int) : Prop where
  len : X.length = X0.length
  wd : Wd X
  up : ∀ j, i + k ≤ j → nth X j = nth X0 j
  c0 : 0 ≤ c
  c1 : c < 1073741824
  eq : val X + pw (i + k) * c = val X0 + x * (pw i * val (B.take k))
theorem Mu.start {X0 B : List Int} {i : Nat} {x : Int} (h : Wd X0) : Mu X0 B i x 0 0 X0 := ⟨rfl, h, fun _ _ => rfl, by omega, by omega, by simp [val]⟩
theorem mu_bd {a b y c : Int} (a0 : 0 ≤ a) (a1 : a < 1073741824) (b0 : 0 ≤ b) (b1 : b < 1073741824) (y0 : 0 ≤ y) (y1 : y < 1073741824) (c0 : 0 ≤ c) (c1 : c < 1073741824) : 0 ≤ a * b ∧ a * b ≤ 1152921502459363329 ∧ c + (y + a * b) < 1152921504606846976 := by
  have h0 := Int.mul_nonneg a0 b0
  have h1 := Int.mul_le_mul (show a ≤ 1073741823 by omega) (show b ≤ 1073741823 by omega) b0 (by decide)
  omega
theorem Mu.next {X0 B : List Int} {i : Nat} {x : Int} {k : Nat} {c S : Int} {X : List Int} (h : Mu X0 B i x k c X) (hB : Wd B) (x0 : 0 ≤ x) (x1 : x < 1073741824) (hk : k < B.length) (hl : i + k < X0.length) (hS : S = c + (nth X (i + k) + x * nth B k)) : Mu X0 B i x (k + 1) (S / 1073741824) (X.set (i + k) (S % 1073741824)) := by
  have hlen := h.len
  have b := nth_bd h.wd (i + k)
  have b2 := nth_bd hB k
  have bd := mu_bd x0 x1 b2.1 b2.2 b.1 b.2 h.c0 h.c1
  have c0 := h.c0
  refine ⟨by simp [hlen], h.wd.set _ (by omega) (by omega), ?_, by omega, by omega, ?_⟩
  · intro j hj
    rw [nth_set_other _ _ _ _ (by omega)]
    exact h.up j (by omega)
  · have e := h.eq
    have es : S = S % 1073741824 + 1073741824 * (S / 1073741824) := by omega
    rw [val_set (by omega), val_at B k hk, show i + (k + 1) = i + k + 1 from rfl]
    have a4 : pw (i + k) = pw i * pw k := pw_add i k
    generalize S % 1073741824 = p at *
    generalize S / 1073741824 = q at *
    simp only [pw]
    rw [a4] at e ⊢
    grind
/-- The first i limbs of A times B. -/
structure Mo (A B : List Int) (i : Nat) (X : List Int) : Prop where
  len : X.length = A.length + B.length
  wd : Wd X
  zero : ∀ j, i + B.length ≤ j → nth X j = 0
  eq : val X = val (A.take i) * val B
theorem Mo.start (A B : List Int) : Mo A B 0 (List.replicate (A.length + B.length) 0) := ⟨by simp, wd_zero _, fun j _ => nth_replicate _ _, by rw [val_zeros]; simp [val]⟩
theorem Mo.next {A B X0 X : List Int} {i : Nat} {c : Int} (h : Mo A B i X0) (m : Mu X0 B i (nth A i) B.length c X) (hi : i < A.length) : nth X (i + B.length) = 0 ∧ Mo A B (i + 1) (X.set (i + B.length) c) := by
  have hlen := m.len
  have hl := h.len
  have z : nth X (i + B.length) = 0 := by rw [m.up _ (Nat.le_refl _)]; exact h.zero _ (Nat.le_refl _)
  refine ⟨z, ⟨by simp; omega, m.wd.set _ m.c0 m.c1, ?_, ?_⟩⟩
  · intro j hj
    rw [nth_set_other _ _ _ _ (by omega), m.up j (by omega)]
    exact h.zero j (by omega)
  · have e := m.eq
    have e2 := h.eq
    rw [List.take_length] at e
    rw [val_set (by omega), z, val_at A i hi]
    grind
end Go.Proofs.YtiobnojcmeeikaaGreatDoor.L

namespace Go.Proofs.YtiobnojcmeeikaaGreatDoor.L
open Go.RowKit Tl

theorem rd_form {w : World} {v : Value} {xs : List Int} (h : Rd w v xs) : ∃ a c, v = .slice a xs.length c := by obtain ⟨_, a, c, e, _⟩ := h; exact ⟨a, c, e⟩
end Go.Proofs.YtiobnojcmeeikaaGreatDoor.L

namespace Go.Proofs.YtiobnojcmeeikaaGreatDoor.L
open Go.RowKit Tl

/-- A number with a sign. -/
def sgI (g : Bool) (x : Int) : Int := if g = true then -x else x
theorem sgI_abs (g : Bool) {x : Int} (h : 0 ≤ x) : ((sgI g x).natAbs : Int) = x := by
  unfold sgI
  split <;> omega
/-- The value v is the exact number r, in lowest terms. -/
def IsQ (w : World) (v : Value) (r : Rat) : Prop :=
  ∃ (ns ds : List Int) (a1 a2 : Option Addr) (c1 c2 : Nat), v = .agg #[.bool (decide (r.num < 0)), .slice a1 ns.length c1, .slice a2 ds.length c2] ∧ Rd w (.slice a1 ns.length c1) ns ∧ Nm ns ∧ val ns = (r.num.natAbs : Int) ∧ Rd w (.slice a2 ds.length c2) ds ∧ Nm ds ∧ val ds = (r.den : Int)
theorem IsQ.grow {w w' : World} {v : Value} {r : Rat} (h : IsQ w v r) (b : Below w.heap.size w w') : IsQ w' v r := by
  obtain ⟨ns, ds, a1, a2, c1, c2, e, h1, n1, v1, h2, n2, v2⟩ := h
  exact ⟨ns, ds, a1, a2, c1, c2, e, h1.grow b, n1, v1, h2.grow b, n2, v2⟩
theorem IsQ.drew {w : World} {v : Value} {r : Rat} (h : IsQ w v r) : IsQ w.drew v r := h.grow ((Below.refl _ _).drew)
theorem IsQ.alloc {w : World} {v : Value} {r : Rat} {ob : Obj} (h : IsQ w v r) : IsQ (w.alloc ob) v r := h.grow ((Below.refl _ _).alloc (Nat.le_refl _) _)
theorem gcd_eq (X Y : Int) (g : Bool) (hX : 0 ≤ X) (hY : 0 < Y) : Y.toNat.gcd (sgI g X).natAbs = Int.gcd X Y := by
  rw [Nat.gcd_comm]
  unfold Int.gcd
  have e1 : (sgI g X).natAbs = X.natAbs := by unfold sgI; split <;> omega
  have e2 : Y.toNat = Y.natAbs := by omega
  rw [e1, e2]
/-- In lowest terms. -/
theorem mk_low {X Y N D : Int} (g : Bool) (hX : 0 < X) (hY : 0 < Y) (hN : 0 ≤ N) (eN : N * (Int.gcd X Y : Int) = X) (eD : D * (Int.gcd X Y : Int) = Y) :
    decide ((mkRat (sgI g X) Y.toNat).num < 0) = g ∧ N = ((mkRat (sgI g X) Y.toNat).num.natAbs : Int) ∧ D = ((mkRat (sgI g X) Y.toNat).den : Int) := by
  have y0 : Y.toNat ≠ 0 := by omega
  have G := gcd_eq X Y g (by omega) hY
  have num : (mkRat (sgI g X) Y.toNat).num = sgI g X / (Int.gcd X Y : Int) := by
    rw [Rat.num_mkRat, if_neg y0]
    rw [show ((Y.toNat.gcd (sgI g X).natAbs : Nat) : Int) = (Int.gcd X Y : Int) from by rw [G]]
  have den : ((mkRat (sgI g X) Y.toNat).den : Int) = Y / (Int.gcd X Y : Int) := by
    rw [Rat.den_mkRat, if_neg y0, G, Int.natCast_ediv, Int.toNat_of_nonneg (by omega)]
  rw [num, den]
  generalize (Int.gcd X Y : Int) = d at *
  have d0 : d ≠ 0 := by intro e; rw [e] at eN; simp at eN; omega
  have e1 : sgI g X / d = sgI g N := by
    unfold sgI
    split
    · rw [← eN, ← Int.neg_mul, Int.mul_ediv_cancel _ d0]
    · rw [← eN, Int.mul_ediv_cancel _ d0]
  have e2 : Y / d = D := by rw [← eD, Int.mul_ediv_cancel _ d0]
  have n0 : N ≠ 0 := by intro e; rw [e] at eN; simp at eN; omega
  rw [e1, e2]
  refine ⟨?_, (sgI_abs g hN).symm, rfl⟩
  unfold sgI
  cases g
  · rw [if_neg (by simp), decide_eq_false_iff_not]; omega
  · rw [if_pos rfl, decide_eq_true_eq]; omega
theorem val_nil : val ([] : List Int) = 0 := rfl
set_option maxHeartbeats 1600000 in
set_option maxRecDepth 100000 in
theorem make_none (neg : Bool) (a1 : Option Addr) (c1 : Nat) (v2 : Value) (w : World) :
    Calls Tryz.prog 28 #[.bool neg, .slice a1 0 c1, v2] w fun e w' => ∃ u2, e = .returned (.agg #[.bool false, .slice none 0 0, u2]) ∧ Rd w' u2 [1] ∧ Below w.heap.size w w' := by
  have ho : Rd ((w.alloc (.cells #[.bool false, .slice none 0 0, .slice (some ⟨w.heap.size + 1, 0, none⟩) 1 1] 49)).alloc (.cells #[.int .i64 1] 3)) (.slice (some ⟨w.heap.size + 1, 0, none⟩) 1 1) [1] := rd_one (cell_at (by simp)) (by decide) (by decide)
  have pr : Below w.heap.size w ((w.alloc (.cells #[.bool false, .slice none 0 0, .slice (some ⟨w.heap.size + 1, 0, none⟩) 1 1] 49)).alloc (.cells #[.int .i64 1] 3)) := ((Below.refl _ _).alloc (Nat.le_refl _) _).alloc (by simp) _
  go_enter Tryz.func28, Tryz.ntmps28
  go_wp2
  exact bodyPost_ret (v := .agg #[.bool false, .slice none 0 0, .slice (some ⟨w.heap.size + 1, 0, none⟩) 1 1]) (by simp [results, Tryz.results28, go_sem]) rfl ⟨_, rfl, ho, pr⟩
/-- Make of the reference, as an exact number. -/
theorem Make_q (neg : Bool) (v1 v2 : Value) (xs ys : List Int) (L : Nat) (w : World) (h1 : Rd w v1 xs) (h2 : Rd w v2 ys) (n1 : Nm xs) (n2 : Nm ys) (l1 : xs.length ≤ L) (l2 : ys.length ≤ L) (hL : L ≤ 274877906944) (y0 : 0 < val ys) :
    Calls Tryz.prog 28 #[.bool neg, v1, v2] w fun e w' => ∃ v, e = .returned v ∧ IsQ w' v (mkRat (sgI neg (val xs)) (val ys).toNat) ∧ Below w.heap.size w w' := by
  by_cases p1 : 0 < xs.length
  · have x0 : 0 < val xs := by
      have := val_nonneg h1.1
      by_cases c : val xs = 0
      · rw [val_eq_zero h1.1 n1] at c
        rw [c] at p1; simp at p1
      · omega
    refine (Make_any neg v1 v2 xs ys L w h1 h2 n1 n2 l1 l2 hL p1).mono ?_
    rintro e w' ⟨u1, u2, ns, ds, rfl, hn, nn, hd, nd, eN, eD, hb⟩
    obtain ⟨a, c, rfl⟩ := rd_form hn
    obtain ⟨a', c', rfl⟩ := rd_form hd
    obtain ⟨m1, m2, m3⟩ := mk_low neg x0 y0 (val_nonneg hn.1) eN eD
    exact ⟨_, rfl, ⟨ns, ds, a, a', c, c', by rw [m1], hn, nn, m2, hd, nd, m3⟩, hb⟩
  · have e0 : xs = [] := List.eq_nil_of_length_eq_zero (by omega)
    subst e0
    obtain ⟨a, c, rfl⟩ := rd_form h1
    have e : mkRat (sgI neg (val [])) (val ys).toNat = 0 := by
      rw [val_nil]
      have : sgI neg 0 = 0 := by cases neg <;> rfl
      rw [this, Rat.zero_mkRat]
    rw [e]
    refine (make_none neg a c v2 w).mono ?_
    rintro e w' ⟨u2, rfl, h, hb⟩
    obtain ⟨a', c', rfl⟩ := rd_form h
    have z : decide ((0 : Rat).num < 0) = false := by decide
    exact ⟨_, rfl, ⟨[], [1], none, a', 0, c', by rw [z]; rfl, rd_nil _, Or.inl rfl, by rw [val_nil]; rfl, h, nm_one, by rw [val_one]; rfl⟩, hb⟩
end Go.Proofs.YtiobnojcmeeikaaGreatDoor.L

namespace Go.Proofs.YtiobnojcmeeikaaGreatDoor.L
open Go.RowKit Tl

theorem cmp3_ge {x y : Int} (h : y ≤ x) : 0 ≤ cmp3 x y := by
  unfold cmp3
  rw [if_neg (by omega)]
  split <;> omega
end Go.Proofs.YtiobnojcmeeikaaGreatDoor.L
