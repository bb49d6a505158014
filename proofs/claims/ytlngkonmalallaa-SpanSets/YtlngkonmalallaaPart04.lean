import Derived.Test.YtlngkonmalallaaPart03
import Derived.WalkKit
import Derived.WalkSpells
import Derived.WalkSmall
import Derived.WalkLawsBesides
import Derived.Deep.QuietTactic
import Derived.BigQuiet
import Derived.Deep.RegionHeld3
import Derived.Test.YtlngkonmalallaaProg

namespace Go.Proofs.Ytlngkonmalallaa.L
open Go.RowKit Tl

theorem rd_one {w : World} {n c : Nat} (h : w.cell? ⟨n, 0, none⟩ = some (.int .i64 1)) (h1 : 1 ≤ c) (h2 : c ≤ 9223372036854775807) : Rd w (.slice (some ⟨n, 0, none⟩) 1 c) [1] := by
  refine ⟨Wd.cons (by decide) (by decide) Wd.nil, _, c, rfl, h1, h2, fun _ => ⟨n, 0, rfl, ?_⟩⟩
  intro i hi
  have : i = 0 := by simp at hi; omega
  subst this
  simpa [nth] using h
theorem nm_one : Nm [1] := Or.inr (by simp)
theorem val_one : val [1] = 1 := by simp [val]
/-- Three cells are written. -/
theorem put3 {w1 : World} {b : Nat} {u0 u1 u2 : Value} (x y z : Value) (g0 : w1.cell? ⟨b, 0, none⟩ = some u0) (g1 : w1.cell? ⟨b, 1, none⟩ = some u1) (g2 : w1.cell? ⟨b, 2, none⟩ = some u2) :
    (((w1.setCell ⟨b, 0, none⟩ x).setCell ⟨b, 1, none⟩ y).setCell ⟨b, 2, none⟩ z).cell? ⟨b, 0, none⟩ = some x ∧ (((w1.setCell ⟨b, 0, none⟩ x).setCell ⟨b, 1, none⟩ y).setCell ⟨b, 2, none⟩ z).cell? ⟨b, 1, none⟩ = some y ∧ (((w1.setCell ⟨b, 0, none⟩ x).setCell ⟨b, 1, none⟩ y).setCell ⟨b, 2, none⟩ z).cell? ⟨b, 2, none⟩ = some z ∧ (∀ B w, B ≤ b → Below B w w1 → Below B w (((w1.setCell ⟨b, 0, none⟩ x).setCell ⟨b, 1, none⟩ y).setCell ⟨b, 2, none⟩ z)) := by
  have h1 : (w1.setCell ⟨b, 0, none⟩ x).cell? ⟨b, 1, none⟩ = some u1 := (World.cell?_setCell_other _ _ _ _ (by simp)).trans g1
  have h2 : ((w1.setCell ⟨b, 0, none⟩ x).setCell ⟨b, 1, none⟩ y).cell? ⟨b, 2, none⟩ = some u2 := (World.cell?_setCell_other _ _ _ _ (by simp)).trans ((World.cell?_setCell_other _ _ _ _ (by simp)).trans g2)
  refine ⟨?_, ?_, World.cell?_setCell_same _ _ _ h2, fun B w hB h => ((h.setCell (p := ⟨b, 0, none⟩) hB x).setCell (p := ⟨b, 1, none⟩) hB y).setCell (p := ⟨b, 2, none⟩) hB z⟩
  · rw [World.cell?_setCell_other _ _ _ _ (by simp), World.cell?_setCell_other _ _ _ _ (by simp), World.cell?_setCell_same _ _ _ g0]
  · rw [World.cell?_setCell_other _ _ _ _ (by simp), World.cell?_setCell_same _ _ _ h1]
/-- Numbers lie as they did where a Q's own block was written. -/
theorem Rd.putQ {w1 : World} {b : Nat} {v x y z : Value} {xs : List Int} {g : Bool} {a1 a2 : Option Addr} {n1 c1 n2 c2 : Nat} {t : TypeId} (h : Rd w1 v xs) (K : Blk w1 b #[.bool g, .slice a1 n1 c1, .slice a2 n2 c2] t) : Rd (((w1.setCell ⟨b, 0, none⟩ x).setCell ⟨b, 1, none⟩ y).setCell ⟨b, 2, none⟩ z) v xs := by
  obtain ⟨hx, a, c, rfl, h2, h3, g⟩ := h
  refine ⟨hx, a, c, rfl, h2, h3, fun l => ?_⟩
  obtain ⟨b', o, rfl, hc⟩ := g l
  have hne : b' ≠ b := by
    intro e
    subst e
    have h0 := hc 0 l
    rw [K.at] at h0
    match o, h0 with
    | 0, h0 => simp at h0
    | 1, h0 => simp at h0
    | 2, h0 => simp at h0
    | o + 3, h0 => simp at h0
  have hw : Wr b 0 3 w1 (((w1.setCell ⟨b, 0, none⟩ x).setCell ⟨b, 1, none⟩ y).setCell ⟨b, 2, none⟩ z) := (((Wr.refl _ _ _ _).setCell 0 (by omega) x).setCell 1 (by omega) y).setCell 2 (by omega) z
  exact ⟨b', o, rfl, hc.other hw hne⟩
theorem gcd_rest {x g q r : Int} (hd : g ∣ x) (h : x = q * g + r) (r0 : 0 ≤ r) (r1 : r < g) : q * g = x := by
  have h1 : g ∣ r := by
    obtain ⟨k, hk⟩ := hd
    exact ⟨k - q, by rw [Int.mul_sub, ← hk, h]; rw [Int.mul_comm g q]; omega⟩
  obtain ⟨k, hk⟩ := h1
  by_cases c : k = 0
  · rw [c] at hk; simp at hk; omega
  · rcases Int.lt_or_gt_of_ne c with c | c
    · have := Int.mul_le_mul_of_nonneg_left (show k ≤ -1 by omega) (show 0 ≤ g by omega); omega
    · have := Int.mul_le_mul_of_nonneg_left (show 1 ≤ k by omega) (show 0 ≤ g by omega); omega
set_option maxHeartbeats 1600000 in
set_option maxRecDepth 100000 in
/-- Make of the reference: in lowest terms already. -/
theorem make_one (neg : Bool) (v1 v2 : Value) (xs ys : List Int) (L : Nat) (w : World) (h1 : Rd w v1 xs) (h2 : Rd w v2 ys) (n1 : Nm xs) (n2 : Nm ys) (l1 : xs.length ≤ L) (l2 : ys.length ≤ L) (hL : L ≤ 274877906944) (p1 : 0 < xs.length) (hg : Int.gcd (val xs) (val ys) = 1) :
    Calls Try.prog 78 #[.bool neg, v1, v2] w fun e w' => e = .returned (.agg #[.bool neg, v1, v2]) ∧ Below w.heap.size w w' := by
  have hz : ((xs.length : Int) == 0) = false := by rw [beq_eq_false_iff_ne]; omega
  have HG : Hid (Int.gcd (val xs) (val ys) = 1) := hg
  clear hg
  obtain ⟨a1, c1, rfl⟩ : ∃ a1 c1, v1 = .slice a1 xs.length c1 := by obtain ⟨_, a1, c1, e, _⟩ := h1; exact ⟨a1, c1, e⟩
  obtain ⟨a2, c2, rfl⟩ : ∃ a1 c1, v2 = .slice a1 ys.length c1 := by obtain ⟨_, a1, c1, e, _⟩ := h2; exact ⟨a1, c1, e⟩
  have hR1 : Hid (∀ w', Below w.heap.size w w' → Rd w' (.slice a1 xs.length c1) xs) := fun w' k => h1.grow k
  have hR2 : Hid (∀ w', Below w.heap.size w w' → Rd w' (.slice a2 ys.length c2) ys) := fun w' k => h2.grow k
  have K0 := Blk.new w #[.bool false, .slice none 0 0, .slice none 0 0] 104
  have pr : Below w.heap.size w (w.alloc (.cells #[.bool false, .slice none 0 0, .slice none 0 0] 104)) := (Below.refl _ _).alloc (Nat.le_refl _) _
  go_enter Try.func78, Try.ntmps78
  go_wp2_with (first
    | (go_at_call 113; (refine (Gcd_any _ _ xs ys L _ (hR1.out _ pr) (hR2.out _ pr) n1 n2 l1 l2 hL).mono ?_; rintro e w1 ⟨r, gs, rfl, hr, hn, hv, lg, hb⟩; have hv1 : val gs = 1 := (by rw [hv, HG.out]; rfl); clear hv; replace K0 := K0.below hb K0.lt; replace pr := pr.trans (hb.mono pr.size)))
    | (go_at_call 83; (refine (Cmp_any _ _ gs [1] _ (hr.grow ((Below.refl _ _).alloc (Nat.le_refl _) _)) (rd_one (by simp) (by decide) (by decide)) hn nm_one (by omega)).mono ?_; rintro e w2 ⟨rfl, hb2⟩; rw [cmp3_eq (hv1.trans val_one.symm)]; replace K0 := (K0.alloc (.cells #[.int .i64 1] 3)).below hb2 (K0.alloc (.cells #[.int .i64 1] 3)).lt; replace pr := (pr.alloc pr.size (.cells #[.int .i64 1] 3)).trans (hb2.mono (pr.alloc pr.size (.cells #[.int .i64 1] 3)).size); have e0 : w2.cell? ⟨w.heap.size, 0, none⟩ = some (.bool false) := K0.at 0; have e1 : w2.cell? ⟨w.heap.size, 1, none⟩ = some (.slice none 0 0) := K0.at 1; have e2 : w2.cell? ⟨w.heap.size, 2, none⟩ = some (.slice none 0 0) := K0.at 2; have z0 := K0.free 0; have z1 := K0.free 1; have z2 := K0.free 2))
    | fail)
  obtain ⟨F0, F1, F2, FB⟩ := put3 (.bool neg) (.slice a1 xs.length c1) (.slice a2 ys.length c2) e0 e1 e2
  exact bodyPost_ret (v := .agg #[.bool neg, .slice a1 xs.length c1, .slice a2 ys.length c2]) (by simp [results, Try.results78, go_sem, F0, F1, F2]) rfl ⟨rfl, FB _ _ (Nat.le_refl _) pr⟩
set_option maxHeartbeats 1600000 in
set_option maxRecDepth 100000 in
/-- Make of the reference: a common divisor is taken out. -/
theorem make_more (neg : Bool) (v1 v2 : Value) (xs ys : List Int) (L : Nat) (w : World) (h1 : Rd w v1 xs) (h2 : Rd w v2 ys) (n1 : Nm xs) (n2 : Nm ys) (l1 : xs.length ≤ L) (l2 : ys.length ≤ L) (hL : L ≤ 274877906944) (p1 : 0 < xs.length) (G : Int) (hg : (Int.gcd (val xs) (val ys) : Int) = G) (hg1 : G ≠ 1) :
    Calls Try.prog 78 #[.bool neg, v1, v2] w fun e w' => ∃ u1 u2 ns ds, e = .returned (.agg #[.bool neg, u1, u2]) ∧ Rd w' u1 ns ∧ Nm ns ∧ Rd w' u2 ds ∧ Nm ds ∧ val ns * G = val xs ∧ val ds * G = val ys ∧ Below w.heap.size w w' := by
  have hz : ((xs.length : Int) == 0) = false := by rw [beq_eq_false_iff_ne]; omega
  have px := nm_pos h1.1 n1 p1
  have HG : Hid ((Int.gcd (val xs) (val ys) : Int) = G) := hg
  have G0 : 0 < G := by
    have : 0 < Int.gcd (val xs) (val ys) := Int.gcd_pos_of_ne_zero_left _ (by omega)
    omega
  have D1 : Hid (G ∣ val xs) := by show G ∣ val xs; rw [← HG.out]; exact Int.gcd_dvd_left ..
  have D2 : Hid (G ∣ val ys) := by show G ∣ val ys; rw [← HG.out]; exact Int.gcd_dvd_right ..
  clear hg
  obtain ⟨a1, c1, rfl⟩ : ∃ a1 c1, v1 = .slice a1 xs.length c1 := by obtain ⟨_, a1, c1, e, _⟩ := h1; exact ⟨a1, c1, e⟩
  obtain ⟨a2, c2, rfl⟩ : ∃ a1 c1, v2 = .slice a1 ys.length c1 := by obtain ⟨_, a1, c1, e, _⟩ := h2; exact ⟨a1, c1, e⟩
  have hR1 : Hid (∀ w', Below w.heap.size w w' → Rd w' (.slice a1 xs.length c1) xs) := fun w' k => h1.grow k
  have hR2 : Hid (∀ w', Below w.heap.size w w' → Rd w' (.slice a2 ys.length c2) ys) := fun w' k => h2.grow k
  have K0 := Blk.new w #[.bool false, .slice none 0 0, .slice none 0 0] 104
  have pr : Below w.heap.size w (w.alloc (.cells #[.bool false, .slice none 0 0, .slice none 0 0] 104)) := (Below.refl _ _).alloc (Nat.le_refl _) _
  go_enter Try.func78, Try.ntmps78
  go_wp2_with (first
    | (go_at_call 113; (refine (Gcd_any _ _ xs ys L _ (hR1.out _ pr) (hR2.out _ pr) n1 n2 l1 l2 hL).mono ?_; rintro e w1 ⟨r, gs, rfl, hr, hn, hv, lg, hb⟩; have hv1 : Hid (val gs = G) := hv.trans HG.out; clear hv; replace K0 := K0.below hb K0.lt; replace pr := pr.trans (hb.mono pr.size)))
    | (go_at_call 83; (refine (Cmp_any _ _ gs [1] _ (hr.grow ((Below.refl _ _).alloc (Nat.le_refl _) _)) (rd_one (by simp) (by decide) (by decide)) hn nm_one (by omega)).mono ?_; rintro e w2 ⟨rfl, hb2⟩; have hc : cmp3 (val gs) (val [1]) ≠ 0 := (by rw [hv1.out, val_one]; unfold cmp3; split; decide; split; decide; omega); have hc2 : (cmp3 (val gs) (val [1]) == 0) = false := beq_eq_false_iff_ne.2 hc; replace K0 := (K0.alloc (.cells #[.int .i64 1] 3)).below hb2 (K0.alloc (.cells #[.int .i64 1] 3)).lt; have hr2 := (hr.grow ((Below.refl _ _).alloc (Nat.le_refl _) (.cells #[.int .i64 1] 3))).grow hb2; replace pr := (pr.alloc pr.size (.cells #[.int .i64 1] 3)).trans (hb2.mono (pr.alloc pr.size (.cells #[.int .i64 1] 3)).size)))
    | (go_at_call 114; (with_reducible refine (DivMod_any (.slice a1 xs.length c1) r xs gs w2 (hR1.out _ pr) hr2 n1 hn (by omega) (by rw [hv1.out]; exact G0)).mono ?_); (rintro e w3 ⟨q1, r1, ns, rs1, rfl, hq1, nn, _, _, e1, r10, r11, hb3⟩; have E1 : Hid (val ns * G = val xs) := (by rw [hv1.out] at e1 r11; exact gcd_rest D1.out e1 r10 r11); clear e1 r10 r11; replace K0 := K0.below hb3 K0.lt; replace pr := pr.trans (hb3.mono pr.size); have hr3 := hr2.grow hb3))
    | (go_at_call 114; (with_reducible refine (DivMod_any (.slice a2 ys.length c2) r ys gs w3 (hR2.out _ pr) hr3 n2 hn (by omega) (by rw [hv1.out]; exact G0)).mono ?_); (rintro e w4 ⟨q2, r2, ds, rs2, rfl, hq2, nd, _, _, e2, r20, r21, hb4⟩; have E2 : Hid (val ds * G = val ys) := (by rw [hv1.out] at e2 r21; exact gcd_rest D2.out e2 r20 r21); clear e2 r20 r21; replace K0 := K0.below hb4 K0.lt; replace pr := pr.trans (hb4.mono pr.size); replace hq1 := hq1.grow hb4; have e0 : w4.cell? ⟨w.heap.size, 0, none⟩ = some (.bool false) := K0.at 0; have e1 : w4.cell? ⟨w.heap.size, 1, none⟩ = some (.slice none 0 0) := K0.at 1; have e2 : w4.cell? ⟨w.heap.size, 2, none⟩ = some (.slice none 0 0) := K0.at 2; have z0 := K0.free 0; have z1 := K0.free 1; have z2 := K0.free 2; obtain ⟨b1, d1, rfl⟩ : ∃ a1 c1, q1 = .slice a1 ns.length c1 := (by obtain ⟨_, a1, c1, e, _⟩ := hq1; exact ⟨a1, c1, e⟩); obtain ⟨b2, d2, rfl⟩ : ∃ a1 c1, q2 = .slice a1 ds.length c1 := (by obtain ⟨_, a1, c1, e, _⟩ := hq2; exact ⟨a1, c1, e⟩)))
    | fail)
  obtain ⟨F0, F1, F2, FB⟩ := put3 (.bool neg) (.slice b1 ns.length d1) (.slice b2 ds.length d2) e0 e1 e2
  exact bodyPost_ret (v := .agg #[.bool neg, .slice b1 ns.length d1, .slice b2 ds.length d2]) (by simp [results, Try.results78, go_sem, F0, F1, F2]) rfl ⟨_, _, ns, ds, rfl, hq1.putQ K0, nn, hq2.putQ K0, nd, E1.out, E2.out, FB _ _ (Nat.le_refl _) pr⟩
/-- Make of the reference: any fraction but nought. -/
theorem Make_any (neg : Bool) (v1 v2 : Value) (xs ys : List Int) (L : Nat) (w : World) (h1 : Rd w v1 xs) (h2 : Rd w v2 ys) (n1 : Nm xs) (n2 : Nm ys) (l1 : xs.length ≤ L) (l2 : ys.length ≤ L) (hL : L ≤ 274877906944) (p1 : 0 < xs.length) :
    Calls Try.prog 78 #[.bool neg, v1, v2] w fun e w' => ∃ u1 u2 ns ds, e = .returned (.agg #[.bool neg, u1, u2]) ∧ Rd w' u1 ns ∧ Nm ns ∧ Rd w' u2 ds ∧ Nm ds ∧ val ns * (Int.gcd (val xs) (val ys) : Int) = val xs ∧ val ds * (Int.gcd (val xs) (val ys) : Int) = val ys ∧ Below w.heap.size w w' := by
  by_cases hg : Int.gcd (val xs) (val ys) = 1
  · refine (make_one neg v1 v2 xs ys L w h1 h2 n1 n2 l1 l2 hL p1 hg).mono ?_
    rintro e w' ⟨rfl, hb⟩
    exact ⟨v1, v2, xs, ys, rfl, h1.grow hb, n1, h2.grow hb, n2, by rw [hg]; simp, by rw [hg]; simp, hb⟩
  · exact make_more neg v1 v2 xs ys L w h1 h2 n1 n2 l1 l2 hL p1 _ rfl (by omega)
end Go.Proofs.Ytlngkonmalallaa.L

namespace Go.Proofs.Ytlngkonmalallaa.L
open Go.RowKit Tl

/-- How many bits a number has. -/
def bl (x : Int) : Nat := if x ≤ 0 then 0 else Nat.log2 x.toNat + 1
theorem bl_pos {x : Int} (h : 0 < x) : x < 2 ^ bl x ∧ 1 ≤ bl x ∧ (2 : Int) ^ (bl x - 1) ≤ x := by
  have e : bl x = Nat.log2 x.toNat + 1 := by unfold bl; rw [if_neg (by omega)]
  have h1 : x.toNat < 2 ^ (Nat.log2 x.toNat + 1) := Nat.lt_log2_self
  have h2 : 2 ^ Nat.log2 x.toNat ≤ x.toNat := Nat.log2_self_le (by omega)
  have c1 : ((2 ^ (Nat.log2 x.toNat + 1) : Nat) : Int) = (2 : Int) ^ (Nat.log2 x.toNat + 1) := by simp
  have c2 : ((2 ^ Nat.log2 x.toNat : Nat) : Int) = (2 : Int) ^ Nat.log2 x.toNat := by simp
  rw [e]
  refine ⟨by omega, by omega, ?_⟩
  rw [Nat.add_sub_cancel]; omega
theorem two_pow_le {a b : Nat} (h : a ≤ b) : (2 : Int) ^ a ≤ 2 ^ b := by
  have : 2 ^ a ≤ 2 ^ b := Nat.pow_le_pow_right (by decide) h
  exact_mod_cast this
theorem two_pow_pos (a : Nat) : (0 : Int) < 2 ^ a := Int.pow_pos (by decide)
theorem bl_unique {x : Int} {L : Nat} (h0 : 0 ≤ x) (h1 : x < 2 ^ L) (h2 : L = 0 ∨ (2 : Int) ^ (L - 1) ≤ x) : L = bl x := by
  by_cases hx : x = 0
  · subst hx
    rcases h2 with h2 | h2
    · rw [h2]; rfl
    · have := two_pow_pos (L - 1); omega
  · have b := bl_pos (x := x) (by omega)
    have hL : 1 ≤ L := by
      by_cases c : 1 ≤ L
      · exact c
      · have : L = 0 := by omega
        rw [this] at h1; simp at h1; omega
    have h2' : (2 : Int) ^ (L - 1) ≤ x := by
      rcases h2 with h2 | h2
      · omega
      · exact h2
    by_cases c1 : L ≤ bl x - 1
    · have := two_pow_le c1; omega
    · by_cases c2 : bl x ≤ L - 1
      · have := two_pow_le c2; omega
      · omega
theorem Bits_fn (v : Value) (xs : List Int) (w : World) (h : Rd w v xs) (n : Nm xs) (hL : xs.length ≤ 1099511627776) :
    Calls Try.prog 82 #[v] w fun e w' => e = .returned (.int .i64 (bl (val xs) : Nat)) ∧ w' = w := by
  refine (Bits_any v xs w h n hL).mono ?_
  rintro e w' ⟨L, rfl, h1, h2, _, rfl⟩
  rw [← bl_unique (val_nonneg h.1) h1 h2]
  exact ⟨rfl, rfl⟩
theorem bl_len {xs : List Int} (h : Wd xs) : bl (val xs) ≤ 30 * xs.length := by
  by_cases c : 0 < val xs
  · have b := bl_pos c
    have := val_lt h
    rw [pw_two] at this
    by_cases d : bl (val xs) ≤ 30 * xs.length
    · exact d
    · have := two_pow_le (show 30 * xs.length ≤ bl (val xs) - 1 by omega); omega
  · unfold bl; rw [if_pos (by omega)]; omega
/-- Q's Sign. -/
theorem Sign_any (neg : Bool) (a1 a2 : Option Addr) (n1 c1 n2 c2 : Nat) (w : World) (h : 0 < n1) :
    Calls Try.prog 103 #[.agg #[.bool neg, .slice a1 n1 c1, .slice a2 n2 c2]] w fun e w' => (∃ s : Int, e = .returned (.int .i64 s) ∧ s ≠ 0) ∧ Below w.heap.size w w' := by
  have hz : ((n1 : Int) == 0) = false := by rw [beq_eq_false_iff_ne]; omega
  cases neg
  all_goals
    go_enter Try.func103, Try.ntmps103
    go_wp2
    go_ret
    exact ⟨⟨_, rfl, by decide⟩, (Below.refl _ _).alloc (Nat.le_refl _) _⟩
theorem shl_len2 {xs A : List Int} {n : Nat} (hx : Wd xs) (hA : Wd A) (nA : Nm A) (e : val A = val xs * 2 ^ n) : A.length ≤ xs.length + (n / 30 + 1) := by
  by_cases c : A.length ≤ xs.length + (n / 30 + 1)
  · exact c
  · have nv : A ≠ [] := by intro h; rw [h] at c; simp at c
    have l := val_low hA nA nv
    have m := pw_mono (show xs.length + (n / 30 + 1) ≤ A.length - 1 by omega)
    have h := val_lt hx
    have h0 := val_nonneg hx
    have p := two_pow_pos n
    have a := Int.mul_lt_mul_of_pos_right h p
    have b : (2 : Int) ^ n ≤ pw (n / 30 + 1) := by rw [pw_two]; exact two_pow_le (by omega)
    have d := Int.mul_le_mul_of_nonneg_left b (Int.le_of_lt (pw_pos xs.length))
    rw [← pw_add] at d
    omega
theorem le_of_quo {a q b r : Int} (h : a = q * b + r) (r0 : 0 ≤ r) (q0 : 0 ≤ q) (b0 : 0 < b) : q ≤ a := by
  have := Int.mul_le_mul_of_nonneg_left (show 1 ≤ b by omega) q0
  omega
set_option maxHeartbeats 1600000 in
set_option maxRecDepth 100000 in
/-- scaled: the two numbers of a size by a power of two. -/
theorem scaled_up (neg : Bool) (a1 a2 : Option Addr) (c1 c2 : Nat) (ns ds : List Int) (e : Nat) (w : World) (_h1 : Rd w (.slice a1 ns.length c1) ns) (h2 : Rd w (.slice a2 ds.length c2) ds) (l2 : ds.length ≤ 1000000) (he : e ≤ 1000000) :
    Calls Try.prog 105 #[.agg #[.bool neg, .slice a1 ns.length c1, .slice a2 ds.length c2], .int .i64 e] w fun r w' => ∃ u bs, r = .returned (.tuple #[.slice a1 ns.length c1, u]) ∧ Rd w' u bs ∧ Nm bs ∧ val bs = val ds * 2 ^ e ∧ Below w.heap.size w w' := by
  have K0 := Blk.new w #[.bool neg, .slice a1 ns.length c1, .slice a2 ds.length c2] 104
  have pr : Below w.heap.size w (w.alloc (.cells #[.bool neg, .slice a1 ns.length c1, .slice a2 ds.length c2] 104)) := (Below.refl _ _).alloc (Nat.le_refl _) _
  have hR2 := h2.grow pr
  go_enter Try.func105, Try.ntmps105
  go_wp2_with fail
  generalize w.alloc (.cells #[.bool neg, .slice a1 ns.length c1, .slice a2 ds.length c2] 104) = W at *
  have e1 : W.cell? ⟨w.heap.size, 1, none⟩ = some (.slice a1 ns.length c1) := K0.at 1
  have e2 : W.cell? ⟨w.heap.size, 2, none⟩ = some (.slice a2 ds.length c2) := K0.at 2
  have L0 := K0.lt
  go_region_held3 (fun x => x.cell? ⟨w.heap.size, 1, none⟩ = some (.slice a1 ns.length c1) ∧ x.cell? ⟨w.heap.size, 2, none⟩ = some (.slice a2 ds.length c2)) (go_keep) (first
    | (go_at_call 79; refine (Shl_any _ ds e _ hR2.drew (by omega) (by omega)).mono ?_; rintro q w1 ⟨u, bs, rfl, hr, hn, hv, b1⟩; have f1 := (b1.cell (p := ⟨w.heap.size, 1, none⟩) L0).trans e1; have f2 := (b1.cell (p := ⟨w.heap.size, 2, none⟩) L0).trans e2)
    | fail)
  have pb := pr.trans ((below_undrew b1).mono pr.size)
  have HV : Hid (val bs = val ds * 2 ^ e) := hv
  clear hv
  go_wp2
  exact bodyPost_ret (v := .tuple #[.slice a1 ns.length c1, u]) (by simp [results, Try.results105, go_sem]) rfl ⟨u, bs, rfl, hr, hn, HV.out, pb⟩
set_option maxHeartbeats 1600000 in
set_option maxRecDepth 100000 in
theorem scaled_down (neg : Bool) (a1 a2 : Option Addr) (c1 c2 : Nat) (ns ds : List Int) (e : Nat) (E : Int) (w : World) (h1 : Rd w (.slice a1 ns.length c1) ns) (_h2 : Rd w (.slice a2 ds.length c2) ds) (l1 : ns.length ≤ 1000000) (he : e ≤ 1000000) (e0 : E < 0) (eE : -E = e) :
    Calls Try.prog 105 #[.agg #[.bool neg, .slice a1 ns.length c1, .slice a2 ds.length c2], .int .i64 E] w fun r w' => ∃ u bs, r = .returned (.tuple #[u, .slice a2 ds.length c2]) ∧ Rd w' u bs ∧ Nm bs ∧ val bs = val ns * 2 ^ e ∧ Below w.heap.size w w' := by
  have K0 := Blk.new w #[.bool neg, .slice a1 ns.length c1, .slice a2 ds.length c2] 104
  have pr : Below w.heap.size w (w.alloc (.cells #[.bool neg, .slice a1 ns.length c1, .slice a2 ds.length c2] 104)) := (Below.refl _ _).alloc (Nat.le_refl _) _
  have hR2 := h1.grow pr
  have hz : ¬ (0 : Int) ≤ E := by omega
  have hm : IntKind.i64.wrap (-E) = (e : Int) := by rw [eE]; exact wrap_self _ (by omega) (by omega)
  clear eE
  go_enter Try.func105, Try.ntmps105
  go_wp2_with fail
  generalize w.alloc (.cells #[.bool neg, .slice a1 ns.length c1, .slice a2 ds.length c2] 104) = W at *
  have e1 : W.cell? ⟨w.heap.size, 1, none⟩ = some (.slice a1 ns.length c1) := K0.at 1
  have e2 : W.cell? ⟨w.heap.size, 2, none⟩ = some (.slice a2 ds.length c2) := K0.at 2
  have L0 := K0.lt
  go_region_held3 (fun x => x.cell? ⟨w.heap.size, 1, none⟩ = some (.slice a1 ns.length c1) ∧ x.cell? ⟨w.heap.size, 2, none⟩ = some (.slice a2 ds.length c2)) (go_keep) (first
    | (go_at_call 79; refine (Shl_any _ ns e _ hR2.drew (by omega) (by omega)).mono ?_; rintro q w1 ⟨u, bs, rfl, hr, hn, hv, b1⟩; have f1 := (b1.cell (p := ⟨w.heap.size, 1, none⟩) L0).trans e1; have f2 := (b1.cell (p := ⟨w.heap.size, 2, none⟩) L0).trans e2)
    | fail)
  have pb := pr.trans ((below_undrew b1).mono pr.size)
  have HV : Hid (val bs = val ns * 2 ^ e) := hv
  clear hv
  go_wp2
  exact bodyPost_ret (v := .tuple #[u, .slice a2 ds.length c2]) (by simp [results, Try.results105, go_sem]) rfl ⟨u, bs, rfl, hr, hn, HV.out, pb⟩
/-- scaled. -/
theorem scaled_any (neg : Bool) (v1 v2 : Value) (ns ds : List Int) (e : Int) (w : World) (h1 : Rd w v1 ns) (h2 : Rd w v2 ds) (n1 : Nm ns) (n2 : Nm ds) (l1 : ns.length ≤ 1000000) (l2 : ds.length ≤ 1000000) (e1 : e ≤ 1000000) (e2 : -1000000 ≤ e) :
    Calls Try.prog 105 #[.agg #[.bool neg, v1, v2], .int .i64 e] w fun r w' => ∃ u1 u2 za bs, r = .returned (.tuple #[u1, u2]) ∧ Rd w' u1 za ∧ Nm za ∧ Rd w' u2 bs ∧ Nm bs ∧ val za = val ns * 2 ^ (-e).toNat ∧ val bs = val ds * 2 ^ e.toNat ∧ za.length ≤ 2000000 ∧ bs.length ≤ 2000000 ∧ Below w.heap.size w w' := by
  obtain ⟨a1, c1, rfl⟩ : ∃ a1 c1, v1 = .slice a1 ns.length c1 := by obtain ⟨_, a1, c1, e, _⟩ := h1; exact ⟨a1, c1, e⟩
  obtain ⟨a2, c2, rfl⟩ : ∃ a1 c1, v2 = .slice a1 ds.length c1 := by obtain ⟨_, a1, c1, e, _⟩ := h2; exact ⟨a1, c1, e⟩
  by_cases he : 0 ≤ e
  · obtain ⟨k, rfl⟩ := Int.eq_ofNat_of_zero_le he
    refine (scaled_up neg a1 a2 c1 c2 ns ds k w h1 h2 l2 (by omega)).mono ?_
    rintro r w' ⟨u, bs, rfl, hr, hn, hv, hb⟩
    refine ⟨_, _, ns, bs, rfl, h1.grow hb, n1, hr, hn, ?_, ?_, by omega, ?_, hb⟩
    · rw [show (-(k : Int)).toNat = 0 from by omega]; simp
    · rw [hv]; simp
    · have := shl_len2 h2.1 hr.1 hn hv; omega
  · obtain ⟨k, hk⟩ : ∃ k : Nat, e = -(k : Int) := ⟨(-e).toNat, by omega⟩
    subst hk
    refine (scaled_down neg a1 a2 c1 c2 ns ds k _ w h1 h2 l1 (by omega) (by omega) (by omega)).mono ?_
    rintro r w' ⟨u, bs, rfl, hr, hn, hv, hb⟩
    refine ⟨_, _, bs, ds, rfl, hr, hn, h2.grow hb, n2, ?_, ?_, ?_, by omega, hb⟩
    · rw [hv]; simp
    · rw [show (-(k : Int)).toNat = 0 from by omega]; simp
    · have := shl_len2 h1.1 hr.1 hn hv; omega
set_option maxHeartbeats 1600000 in
set_option maxRecDepth 100000 in
/-- Size's floor. -/
theorem floor_any (P Lo Hi Fr : Int) (neg : Bool) (v1 v2 : Value) (ns ds : List Int) (e : Int) (w : World) (h1 : Rd w v1 ns) (h2 : Rd w v2 ds) (n1 : Nm ns) (n2 : Nm ds) (l1 : ns.length ≤ 1000000) (l2 : ds.length ≤ 1000000) (e1 : e ≤ 1000000) (e2 : -1000000 ≤ e) (d0 : 0 < val ds) :
    Calls Try.prog 104 #[.agg #[.int .i64 P, .int .i64 Lo, .int .i64 Hi, .int .i64 Fr], .agg #[.bool neg, v1, v2], .int .i64 e] w fun r w' => ∃ u1 u2 ms rs, r = .returned (.tuple #[u1, u2]) ∧ Rd w' u1 ms ∧ Nm ms ∧ Rd w' u2 rs ∧ Nm rs ∧ val ns * 2 ^ (-e).toNat = val ms * (val ds * 2 ^ e.toNat) + val rs ∧ 0 ≤ val rs ∧ val rs < val ds * 2 ^ e.toNat ∧ ms.length ≤ 2000000 ∧ rs.length ≤ 2000000 ∧ Below w.heap.size w w' := by
  obtain ⟨a1, c1, rfl⟩ : ∃ a1 c1, v1 = .slice a1 ns.length c1 := by obtain ⟨_, a1, c1, e, _⟩ := h1; exact ⟨a1, c1, e⟩
  obtain ⟨a2, c2, rfl⟩ : ∃ a1 c1, v2 = .slice a1 ds.length c1 := by obtain ⟨_, a1, c1, e, _⟩ := h2; exact ⟨a1, c1, e⟩
  have hR1 : Hid (∀ w', Below w.heap.size w w' → Rd w' (.slice a1 ns.length c1) ns) := fun w' k => h1.grow k
  have hR2 : Hid (∀ w', Below w.heap.size w w' → Rd w' (.slice a2 ds.length c2) ds) := fun w' k => h2.grow k
  have pr : Below w.heap.size w ((w.alloc (.cells #[.int .i64 P, .int .i64 Lo, .int .i64 Hi, .int .i64 Fr] 31)).alloc (.cells #[.bool neg, .slice a1 ns.length c1, .slice a2 ds.length c2] 104)) := ((Below.refl _ _).alloc (Nat.le_refl _) _).alloc (by simp) _
  have dp : Hid (0 < val ds * 2 ^ e.toNat) := Int.mul_pos d0 (two_pow_pos _)
  go_enter Try.func104, Try.ntmps104
  go_wp2_with (first
    | (go_at_call 105; (refine (scaled_any neg _ _ ns ds e _ (hR1.out _ pr) (hR2.out _ pr) n1 n2 l1 l2 e1 e2).mono ?_; rintro r w1 ⟨u1, u2, za, bs, rfl, ha, na, hb, nb, va, vb, la, lb, b1⟩; have VA : Hid (val za = val ns * 2 ^ (-e).toNat) := va; have VB : Hid (val bs = val ds * 2 ^ e.toNat) := vb; clear va vb; replace pr := pr.trans (b1.mono pr.size)))
    | (go_at_call 114; (refine (DivMod_any _ _ za bs _ ha hb na nb (by omega) (by rw [VB.out]; exact dp.out)).mono ?_; rintro r w2 ⟨q, r, ms, rs, rfl, hq, nq, hr, nr, hv, r0, r1, b2⟩; have HV : Hid _ := hv; have HR : Hid _ := r1; have lr := len_mono hb.1 hr.1 nr (Int.le_of_lt r1); have lm : ms.length ≤ za.length := len_mono ha.1 hq.1 nq (le_of_quo HV.out r0 (val_nonneg hq.1) (by rw [VB.out]; exact dp.out)); clear hv r1; replace pr := pr.trans (b2.mono pr.size)))
    | fail)
  have f1 := HV.out
  have f2 := HR.out
  rw [VA.out, VB.out] at f1
  rw [VB.out] at f2
  exact bodyPost_ret (v := .tuple #[q, r]) (by simp [results, Try.results104, go_sem]) rfl ⟨_, _, ms, rs, rfl, hq, nq, hr, nr, f1, r0, f2, by omega, by omega, pr⟩
end Go.Proofs.Ytlngkonmalallaa.L

namespace Go.Proofs.Ytlngkonmalallaa
open Go.RowKit Tn

theorem bel_drew {w W w1 : World} (pr : Below w.heap.size w W) (b1 : Below W.drew.heap.size W.drew w1) : Below w.heap.size w w1 := pr.drew.trans (b1.mono (show w.heap.size ≤ W.drew.heap.size from pr.size))
theorem bel {w W w1 : World} (pr : Below w.heap.size w W) (b1 : Below W.heap.size W w1) : Below w.heap.size w w1 := pr.trans (b1.mono pr.size)
/-- The format of floats. -/
abbrev fmtW : Value := .agg #[.int .i64 53, .int .i64 (-1074), .int .i64 971]
set_option maxRecDepth 100000 in
theorem floats_any (w : World) : Calls Try.prog 51 #[] w fun e w' => e = .returned fmtW ∧ Below w.heap.size w w' := by
  go_enter Try.func51, Try.ntmps51
  go_wp2
  refine bodyPost_ret (v := fmtW) (by simp [results, Try.results51, go_sem]) rfl ⟨rfl, ?_⟩
  exact (Below.refl _ _).alloc (Nat.le_refl _) _
set_option maxRecDepth 100000 in
theorem leastNormal_w (w : World) : Calls Try.prog 96 #[fmtW] w fun e w' => e = .returned (.int .u64 4503599627370496) ∧ Below w.heap.size w w' := by
  go_enter Try.func96, Try.ntmps96
  go_wp2
  go_ret
  exact ⟨rfl, (Below.refl _ _).alloc (Nat.le_refl _) _⟩
set_option maxRecDepth 100000 in
theorem topField_w (w : World) : Calls Try.prog 95 #[fmtW] w fun e w' => e = .returned (.int .u64 2047) ∧ Below w.heap.size w w' := by
  go_enter Try.func95, Try.ntmps95
  go_wp2
  go_ret
  exact ⟨rfl, (Below.refl _ _).alloc (Nat.le_refl _) _⟩
/-- The three cells of a format in its box. -/
def FmW (x : World) (n : Nat) : Prop := x.cell? ⟨n, 0, none⟩ = some (.int .i64 53) ∧ x.cell? ⟨n, 1, none⟩ = some (.int .i64 (-1074)) ∧ x.cell? ⟨n, 2, none⟩ = some (.int .i64 971)
theorem FmW.new (w : World) (t : TypeId) : FmW (w.alloc (.cells #[.int .i64 53, .int .i64 (-1074), .int .i64 971] t)) w.heap.size := ⟨(Blk.new w _ t).at 0, (Blk.new w _ t).at 1, (Blk.new w _ t).at 2⟩
theorem FmW.lt {x : World} {n : Nat} (h : FmW x n) : n < x.heap.size := lt_of_cell h.1
theorem FmW.below {x y : World} {n : Nat} (h : FmW x n) (k : Below x.heap.size x y) : FmW y n := ⟨(k.cell (p := ⟨n, 0, none⟩) h.lt).trans h.1, (k.cell (p := ⟨n, 1, none⟩) h.lt).trans h.2.1, (k.cell (p := ⟨n, 2, none⟩) h.lt).trans h.2.2⟩
theorem FmW.alloc {x : World} {n : Nat} (h : FmW x n) (o : Obj) : FmW (x.alloc o) n := h.below ((Below.refl _ _).alloc (Nat.le_refl _) o)
set_option maxRecDepth 100000 in
set_option maxHeartbeats 800000 in
theorem signBit_w (w : World) : Calls Try.prog 94 #[fmtW] w fun e w' => e = .returned (.int .u64 9223372036854775808) ∧ Below w.heap.size w w' := by
  go_enter Try.func94, Try.ntmps94
  go_wp2_with fail
  have F := FmW.new w 85
  have pr : Below w.heap.size w (w.alloc (.cells #[.int .i64 53, .int .i64 (-1074), .int .i64 971] 85)) := (Below.refl _ _).alloc (Nat.le_refl _) _
  generalize w.alloc (.cells #[.int .i64 53, .int .i64 (-1074), .int .i64 971] 85) = W at *
  have L0 := F.lt
  obtain ⟨e0, e1, e2⟩ := F
  have h1 : IntKind.i64.wrap 52 = 52 := by decide
  have h2 : IntKind.u64.wrap 2048 = 2048 := by decide
  go_region_held3 (fun x => x.cell? ⟨w.heap.size, 0, none⟩ = some (.int .i64 53) ∧ x.cell? ⟨w.heap.size, 1, none⟩ = some (.int .i64 (-1074)) ∧ x.cell? ⟨w.heap.size, 2, none⟩ = some (.int .i64 971)) (go_keep) (first
    | (go_at_call 95; refine (topField_w _).mono ?_; rintro e w1 ⟨rfl, b1⟩; have f0 := (b1.cell (p := ⟨w.heap.size, 0, none⟩) L0).trans e0; have f1 := (b1.cell (p := ⟨w.heap.size, 1, none⟩) L0).trans e1; have f2 := (b1.cell (p := ⟨w.heap.size, 2, none⟩) L0).trans e2)
    | fail)
  go_wp2
  go_ret
  exact ⟨rfl, bel_drew pr b1⟩
/-- The format of small floats. -/
abbrev fmtS : Value := .agg #[.int .i64 24, .int .i64 (-149), .int .i64 104]
set_option maxRecDepth 100000 in
theorem smallFloats_any (w : World) : Calls Try.prog 56 #[] w fun e w' => e = .returned fmtS ∧ Below w.heap.size w w' := by
  go_enter Try.func56, Try.ntmps56
  go_wp2
  refine bodyPost_ret (v := fmtS) (by simp [results, Try.results56, go_sem]) rfl ⟨rfl, ?_⟩
  exact (Below.refl _ _).alloc (Nat.le_refl _) _
set_option maxRecDepth 100000 in
theorem leastNormal_s (w : World) : Calls Try.prog 96 #[fmtS] w fun e w' => e = .returned (.int .u64 8388608) ∧ Below w.heap.size w w' := by
  go_enter Try.func96, Try.ntmps96
  go_wp2
  go_ret
  exact ⟨rfl, (Below.refl _ _).alloc (Nat.le_refl _) _⟩
set_option maxRecDepth 100000 in
theorem topField_s (w : World) : Calls Try.prog 95 #[fmtS] w fun e w' => e = .returned (.int .u64 255) ∧ Below w.heap.size w w' := by
  go_enter Try.func95, Try.ntmps95
  go_wp2
  go_ret
  exact ⟨rfl, (Below.refl _ _).alloc (Nat.le_refl _) _⟩
/-- The three cells of a format in its box. -/
def FmS (x : World) (n : Nat) : Prop := x.cell? ⟨n, 0, none⟩ = some (.int .i64 24) ∧ x.cell? ⟨n, 1, none⟩ = some (.int .i64 (-149)) ∧ x.cell? ⟨n, 2, none⟩ = some (.int .i64 104)
theorem FmS.new (w : World) (t : TypeId) : FmS (w.alloc (.cells #[.int .i64 24, .int .i64 (-149), .int .i64 104] t)) w.heap.size := ⟨(Blk.new w _ t).at 0, (Blk.new w _ t).at 1, (Blk.new w _ t).at 2⟩
theorem FmS.lt {x : World} {n : Nat} (h : FmS x n) : n < x.heap.size := lt_of_cell h.1
theorem FmS.below {x y : World} {n : Nat} (h : FmS x n) (k : Below x.heap.size x y) : FmS y n := ⟨(k.cell (p := ⟨n, 0, none⟩) h.lt).trans h.1, (k.cell (p := ⟨n, 1, none⟩) h.lt).trans h.2.1, (k.cell (p := ⟨n, 2, none⟩) h.lt).trans h.2.2⟩
theorem FmS.alloc {x : World} {n : Nat} (h : FmS x n) (o : Obj) : FmS (x.alloc o) n := h.below ((Below.refl _ _).alloc (Nat.le_refl _) o)
set_option maxRecDepth 100000 in
set_option maxHeartbeats 800000 in
theorem signBit_s (w : World) : Calls Try.prog 94 #[fmtS] w fun e w' => e = .returned (.int .u64 2147483648) ∧ Below w.heap.size w w' := by
  go_enter Try.func94, Try.ntmps94
  go_wp2_with fail
  have F := FmS.new w 85
  have pr : Below w.heap.size w (w.alloc (.cells #[.int .i64 24, .int .i64 (-149), .int .i64 104] 85)) := (Below.refl _ _).alloc (Nat.le_refl _) _
  generalize w.alloc (.cells #[.int .i64 24, .int .i64 (-149), .int .i64 104] 85) = W at *
  have L0 := F.lt
  obtain ⟨e0, e1, e2⟩ := F
  have h1 : IntKind.i64.wrap 23 = 23 := by decide
  have h2 : IntKind.u64.wrap 256 = 256 := by decide
  go_region_held3 (fun x => x.cell? ⟨w.heap.size, 0, none⟩ = some (.int .i64 24) ∧ x.cell? ⟨w.heap.size, 1, none⟩ = some (.int .i64 (-149)) ∧ x.cell? ⟨w.heap.size, 2, none⟩ = some (.int .i64 104)) (go_keep) (first
    | (go_at_call 95; refine (topField_s _).mono ?_; rintro e w1 ⟨rfl, b1⟩; have f0 := (b1.cell (p := ⟨w.heap.size, 0, none⟩) L0).trans e0; have f1 := (b1.cell (p := ⟨w.heap.size, 1, none⟩) L0).trans e1; have f2 := (b1.cell (p := ⟨w.heap.size, 2, none⟩) L0).trans e2)
    | fail)
  go_wp2
  go_ret
  exact ⟨rfl, bel_drew pr b1⟩
end Go.Proofs.Ytlngkonmalallaa
