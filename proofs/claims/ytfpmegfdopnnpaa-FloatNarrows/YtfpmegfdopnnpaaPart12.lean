import Derived.Test.YtfpmegfdopnnpaaPart11
import Derived.Test.YtfpmegfdopnnpaaPart01
import Derived.Shelf.Small.Bits
import Derived.Shelf.Strconv.Itoa0
import Derived.Test.YtfpmegfdopnnpaaProg
import Derived.Test.YtfpmegfdopnnpaaPart08

namespace Go.Proofs.Ytfpmegfdopnnpaa.L
open Go.RowKit Tl

theorem rd_one {w : World} {n c : Nat} (h : w.cell? ⟨n, 0, none⟩ = some (.int .i64 1)) (h1 : 1 ≤ c) (h2 : c ≤ 9223372036854775807) : Rd w (.slice (some ⟨n, 0, none⟩) 1 c) [1] := by
  refine ⟨Wd.cons (by decide) (by decide) Wd.nil, _, c, rfl, h1, h2, fun _ => ⟨n, 0, rfl, ?_⟩⟩
  intro i hi
  have : i = 0 := by simp at hi; omega
  subst this
  simpa [nth] using h
theorem nm_one : Nm [1] := Or.inr (by simp)
theorem val_one : val [1] = 1 := by simp [val]
/-- Three cells are written. -/
theorem put3 {w1 : World} {b : Nat} {u0 u1 u2 : Value} (x y z : Value) (g0 : w1.cell? ⟨b, 0, none⟩ = some u0) (g1 : w1.cell? ⟨b, 1, none⟩ = some u1) (g2 : w1.cell? ⟨b, 2, none⟩ = some u2) :
    (((w1.setCell ⟨b, 0, none⟩ x).setCell ⟨b, 1, none⟩ y).setCell ⟨b, 2, none⟩ z).cell? ⟨b, 0, none⟩ = some x ∧ (((w1.setCell ⟨b, 0, none⟩ x).setCell ⟨b, 1, none⟩ y).setCell ⟨b, 2, none⟩ z).cell? ⟨b, 1, none⟩ = some y ∧ (((w1.setCell ⟨b, 0, none⟩ x).setCell ⟨b, 1, none⟩ y).setCell ⟨b, 2, none⟩ z).cell? ⟨b, 2, none⟩ = some z ∧ (∀ B w, B ≤ b → Below B w w1 → Below B w (((w1.setCell ⟨b, 0, none⟩ x).setCell ⟨b, 1, none⟩ y).setCell ⟨b, 2, none⟩ z)) := by
  have h1 : (w1.setCell ⟨b, 0, none⟩ x).cell? ⟨b, 1, none⟩ = some u1 := (World.cell?_setCell_other _ _ _ _ (by simp)).trans g1
  have h2 : ((w1.setCell ⟨b, 0, none⟩ x).setCell ⟨b, 1, none⟩ y).cell? ⟨b, 2, none⟩ = some u2 := (World.cell?_setCell_other _ _ _ _ (by simp)).trans ((World.cell?_setCell_other _ _ _ _ (by simp)).trans g2)
  refine ⟨?_, ?_, World.cell?_setCell_same _ _ _ h2, fun B w hB h => ((h.setCell (p := ⟨b, 0, none⟩) hB x).setCell (p := ⟨b, 1, none⟩) hB y).setCell (p := ⟨b, 2, none⟩) hB z⟩
  · rw [World.cell?_setCell_other _ _ _ _ (by simp), World.cell?_setCell_other _ _ _ _ (by simp), World.cell?_setCell_same _ _ _ g0]
  · rw [World.cell?_setCell_other _ _ _ _ (by simp), World.cell?_setCell_same _ _ _ h1]
/-- Numbers lie as they did where a Q's own block was written. -/
theorem Rd.putQ {w1 : World} {b : Nat} {v x y z : Value} {xs : List Int} {g : Bool} {a1 a2 : Option Addr} {n1 c1 n2 c2 : Nat} {t : TypeId} (h : Rd w1 v xs) (K : Blk w1 b #[.bool g, .slice a1 n1 c1, .slice a2 n2 c2] t) : Rd (((w1.setCell ⟨b, 0, none⟩ x).setCell ⟨b, 1, none⟩ y).setCell ⟨b, 2, none⟩ z) v xs := by
  obtain ⟨hx, a, c, rfl, h2, h3, g⟩ := h
  refine ⟨hx, a, c, rfl, h2, h3, fun l => ?_⟩
  obtain ⟨b', o, rfl, hc⟩ := g l
  have hne : b' ≠ b := by
    intro e
    subst e
    have h0 := hc 0 l
    rw [K.at] at h0
    match o, h0 with
    | 0, h0 => simp at h0
    | 1, h0 => simp at h0
    | 2, h0 => simp at h0
    | o + 3, h0 => simp at h0
  have hw : Wr b 0 3 w1 (((w1.setCell ⟨b, 0, none⟩ x).setCell ⟨b, 1, none⟩ y).setCell ⟨b, 2, none⟩ z) := (((Wr.refl _ _ _ _).setCell 0 (by omega) x).setCell 1 (by omega) y).setCell 2 (by omega) z
  exact ⟨b', o, rfl, hc.other hw hne⟩
theorem gcd_rest {x g q r : Int} (hd : g ∣ x) (h : x = q * g + r) (r0 : 0 ≤ r) (r1 : r < g) : q * g = x := by
  have h1 : g ∣ r := by
    obtain ⟨k, hk⟩ := hd
    exact ⟨k - q, by rw [Int.mul_sub, ← hk, h]; rw [Int.mul_comm g q]; omega⟩
  obtain ⟨k, hk⟩ := h1
  by_cases c : k = 0
  · rw [c] at hk; simp at hk; omega
  · rcases Int.lt_or_gt_of_ne c with c | c
    · have := Int.mul_le_mul_of_nonneg_left (show k ≤ -1 by omega) (show 0 ≤ g by omega); omega
    · have := Int.mul_le_mul_of_nonneg_left (show 1 ≤ k by omega) (show 0 ≤ g by omega); omega
set_option maxHeartbeats 1600000 in
set_option maxRecDepth 100000 in
/-- Make of the reference: in lowest terms already. -/
theorem make_one (neg : Bool) (v1 v2 : Value) (xs ys : List Int) (L : Nat) (w : World) (h1 : Rd w v1 xs) (h2 : Rd w v2 ys) (n1 : Nm xs) (n2 : Nm ys) (l1 : xs.length ≤ L) (l2 : ys.length ≤ L) (hL : L ≤ 274877906944) (p1 : 0 < xs.length) (hg : Int.gcd (val xs) (val ys) = 1) :
    Calls Try.prog 67 #[.bool neg, v1, v2] w fun e w' => e = .returned (.agg #[.bool neg, v1, v2]) ∧ Below w.heap.size w w' := by
  have hz : ((xs.length : Int) == 0) = false := by rw [beq_eq_false_iff_ne]; omega
  have HG : Hid (Int.gcd (val xs) (val ys) = 1) := hg
  clear hg
  obtain ⟨a1, c1, rfl⟩ : ∃ a1 c1, v1 = .slice a1 xs.length c1 := by obtain ⟨_, a1, c1, e, _⟩ := h1; exact ⟨a1, c1, e⟩
  obtain ⟨a2, c2, rfl⟩ : ∃ a1 c1, v2 = .slice a1 ys.length c1 := by obtain ⟨_, a1, c1, e, _⟩ := h2; exact ⟨a1, c1, e⟩
  have hR1 : Hid (∀ w', Below w.heap.size w w' → Rd w' (.slice a1 xs.length c1) xs) := fun w' k => h1.grow k
  have hR2 : Hid (∀ w', Below w.heap.size w w' → Rd w' (.slice a2 ys.length c2) ys) := fun w' k => h2.grow k
  have K0 := Blk.new w #[.bool false, .slice none 0 0, .slice none 0 0] 91
  have pr : Below w.heap.size w (w.alloc (.cells #[.bool false, .slice none 0 0, .slice none 0 0] 91)) := (Below.refl _ _).alloc (Nat.le_refl _) _
  go_enter Try.func67, Try.ntmps67
  go_wp2_with (first
    | (go_at_call 94; (refine (Gcd_any _ _ xs ys L _ (hR1.out _ pr) (hR2.out _ pr) n1 n2 l1 l2 hL).mono ?_; rintro e w1 ⟨r, gs, rfl, hr, hn, hv, lg, hb⟩; have hv1 : val gs = 1 := (by rw [hv, HG.out]; rfl); clear hv; replace K0 := K0.below hb K0.lt; replace pr := pr.trans (hb.mono pr.size)))
    | (go_at_call 72; (refine (Cmp_any _ _ gs [1] _ (hr.grow ((Below.refl _ _).alloc (Nat.le_refl _) _)) (rd_one (by simp) (by decide) (by decide)) hn nm_one (by omega)).mono ?_; rintro e w2 ⟨rfl, hb2⟩; rw [cmp3_eq (hv1.trans val_one.symm)]; replace K0 := (K0.alloc (.cells #[.int .i64 1] 3)).below hb2 (K0.alloc (.cells #[.int .i64 1] 3)).lt; replace pr := (pr.alloc pr.size (.cells #[.int .i64 1] 3)).trans (hb2.mono (pr.alloc pr.size (.cells #[.int .i64 1] 3)).size); have e0 : w2.cell? ⟨w.heap.size, 0, none⟩ = some (.bool false) := K0.at 0; have e1 : w2.cell? ⟨w.heap.size, 1, none⟩ = some (.slice none 0 0) := K0.at 1; have e2 : w2.cell? ⟨w.heap.size, 2, none⟩ = some (.slice none 0 0) := K0.at 2; have z0 := K0.free 0; have z1 := K0.free 1; have z2 := K0.free 2))
    | fail)
  obtain ⟨F0, F1, F2, FB⟩ := put3 (.bool neg) (.slice a1 xs.length c1) (.slice a2 ys.length c2) e0 e1 e2
  exact bodyPost_ret (v := .agg #[.bool neg, .slice a1 xs.length c1, .slice a2 ys.length c2]) (by simp [results, Try.results67, go_sem, F0, F1, F2]) rfl ⟨rfl, FB _ _ (Nat.le_refl _) pr⟩
set_option maxHeartbeats 1600000 in
set_option maxRecDepth 100000 in
/-- Make of the reference: a common divisor is taken out. -/
theorem make_more (neg : Bool) (v1 v2 : Value) (xs ys : List Int) (L : Nat) (w : World) (h1 : Rd w v1 xs) (h2 : Rd w v2 ys) (n1 : Nm xs) (n2 : Nm ys) (l1 : xs.length ≤ L) (l2 : ys.length ≤ L) (hL : L ≤ 274877906944) (p1 : 0 < xs.length) (G : Int) (hg : (Int.gcd (val xs) (val ys) : Int) = G) (hg1 : G ≠ 1) :
    Calls Try.prog 67 #[.bool neg, v1, v2] w fun e w' => ∃ u1 u2 ns ds, e = .returned (.agg #[.bool neg, u1, u2]) ∧ Rd w' u1 ns ∧ Nm ns ∧ Rd w' u2 ds ∧ Nm ds ∧ val ns * G = val xs ∧ val ds * G = val ys ∧ Below w.heap.size w w' := by
  have hz : ((xs.length : Int) == 0) = false := by rw [beq_eq_false_iff_ne]; omega
  have px := nm_pos h1.1 n1 p1
  have HG : Hid ((Int.gcd (val xs) (val ys) : Int) = G) := hg
  have G0 : 0 < G := by
    have : 0 < Int.gcd (val xs) (val ys) := Int.gcd_pos_of_ne_zero_left _ (by omega)
    omega
  have D1 : Hid (G ∣ val xs) := by show G ∣ val xs; rw [← HG.out]; exact Int.gcd_dvd_left ..
  have D2 : Hid (G ∣ val ys) := by show G ∣ val ys; rw [← HG.out]; exact Int.gcd_dvd_right ..
  clear hg
  obtain ⟨a1, c1, rfl⟩ : ∃ a1 c1, v1 = .slice a1 xs.length c1 := by obtain ⟨_, a1, c1, e, _⟩ := h1; exact ⟨a1, c1, e⟩
  obtain ⟨a2, c2, rfl⟩ : ∃ a1 c1, v2 = .slice a1 ys.length c1 := by obtain ⟨_, a1, c1, e, _⟩ := h2; exact ⟨a1, c1, e⟩
  have hR1 : Hid (∀ w', Below w.heap.size w w' → Rd w' (.slice a1 xs.length c1) xs) := fun w' k => h1.grow k
  have hR2 : Hid (∀ w', Below w.heap.size w w' → Rd w' (.slice a2 ys.length c2) ys) := fun w' k => h2.grow k
  have K0 := Blk.new w #[.bool false, .slice none 0 0, .slice none 0 0] 91
  have pr : Below w.heap.size w (w.alloc (.cells #[.bool false, .slice none 0 0, .slice none 0 0] 91)) := (Below.refl _ _).alloc (Nat.le_refl _) _
  go_enter Try.func67, Try.ntmps67
  go_wp2_with (first
    | (go_at_call 94; (refine (Gcd_any _ _ xs ys L _ (hR1.out _ pr) (hR2.out _ pr) n1 n2 l1 l2 hL).mono ?_; rintro e w1 ⟨r, gs, rfl, hr, hn, hv, lg, hb⟩; have hv1 : Hid (val gs = G) := hv.trans HG.out; clear hv; replace K0 := K0.below hb K0.lt; replace pr := pr.trans (hb.mono pr.size)))
    | (go_at_call 72; (refine (Cmp_any _ _ gs [1] _ (hr.grow ((Below.refl _ _).alloc (Nat.le_refl _) _)) (rd_one (by simp) (by decide) (by decide)) hn nm_one (by omega)).mono ?_; rintro e w2 ⟨rfl, hb2⟩; have hc : cmp3 (val gs) (val [1]) ≠ 0 := (by rw [hv1.out, val_one]; unfold cmp3; split; decide; split; decide; omega); have hc2 : (cmp3 (val gs) (val [1]) == 0) = false := beq_eq_false_iff_ne.2 hc; replace K0 := (K0.alloc (.cells #[.int .i64 1] 3)).below hb2 (K0.alloc (.cells #[.int .i64 1] 3)).lt; have hr2 := (hr.grow ((Below.refl _ _).alloc (Nat.le_refl _) (.cells #[.int .i64 1] 3))).grow hb2; replace pr := (pr.alloc pr.size (.cells #[.int .i64 1] 3)).trans (hb2.mono (pr.alloc pr.size (.cells #[.int .i64 1] 3)).size)))
    | (go_at_call 95; (with_reducible refine (DivMod_any (.slice a1 xs.length c1) r xs gs w2 (hR1.out _ pr) hr2 n1 hn (by omega) (by rw [hv1.out]; exact G0)).mono ?_); (rintro e w3 ⟨q1, r1, ns, rs1, rfl, hq1, nn, _, _, e1, r10, r11, hb3⟩; have E1 : Hid (val ns * G = val xs) := (by rw [hv1.out] at e1 r11; exact gcd_rest D1.out e1 r10 r11); clear e1 r10 r11; replace K0 := K0.below hb3 K0.lt; replace pr := pr.trans (hb3.mono pr.size); have hr3 := hr2.grow hb3))
    | (go_at_call 95; (with_reducible refine (DivMod_any (.slice a2 ys.length c2) r ys gs w3 (hR2.out _ pr) hr3 n2 hn (by omega) (by rw [hv1.out]; exact G0)).mono ?_); (rintro e w4 ⟨q2, r2, ds, rs2, rfl, hq2, nd, _, _, e2, r20, r21, hb4⟩; have E2 : Hid (val ds * G = val ys) := (by rw [hv1.out] at e2 r21; exact gcd_rest D2.out e2 r20 r21); clear e2 r20 r21; replace K0 := K0.below hb4 K0.lt; replace pr := pr.trans (hb4.mono pr.size); replace hq1 := hq1.grow hb4; have e0 : w4.cell? ⟨w.heap.size, 0, none⟩ = some (.bool false) := K0.at 0; have e1 : w4.cell? ⟨w.heap.size, 1, none⟩ = some (.slice none 0 0) := K0.at 1; have e2 : w4.cell? ⟨w.heap.size, 2, none⟩ = some (.slice none 0 0) := K0.at 2; have z0 := K0.free 0; have z1 := K0.free 1; have z2 := K0.free 2; obtain ⟨b1, d1, rfl⟩ : ∃ a1 c1, q1 = .slice a1 ns.length c1 := (by obtain ⟨_, a1, c1, e, _⟩ := hq1; exact ⟨a1, c1, e⟩); obtain ⟨b2, d2, rfl⟩ : ∃ a1 c1, q2 = .slice a1 ds.length c1 := (by obtain ⟨_, a1, c1, e, _⟩ := hq2; exact ⟨a1, c1, e⟩)))
    | fail)
  obtain ⟨F0, F1, F2, FB⟩ := put3 (.bool neg) (.slice b1 ns.length d1) (.slice b2 ds.length d2) e0 e1 e2
  exact bodyPost_ret (v := .agg #[.bool neg, .slice b1 ns.length d1, .slice b2 ds.length d2]) (by simp [results, Try.results67, go_sem, F0, F1, F2]) rfl ⟨_, _, ns, ds, rfl, hq1.putQ K0, nn, hq2.putQ K0, nd, E1.out, E2.out, FB _ _ (Nat.le_refl _) pr⟩
/-- Make of the reference: any fraction but nought. -/
theorem Make_any (neg : Bool) (v1 v2 : Value) (xs ys : List Int) (L : Nat) (w : World) (h1 : Rd w v1 xs) (h2 : Rd w v2 ys) (n1 : Nm xs) (n2 : Nm ys) (l1 : xs.length ≤ L) (l2 : ys.length ≤ L) (hL : L ≤ 274877906944) (p1 : 0 < xs.length) :
    Calls Try.prog 67 #[.bool neg, v1, v2] w fun e w' => ∃ u1 u2 ns ds, e = .returned (.agg #[.bool neg, u1, u2]) ∧ Rd w' u1 ns ∧ Nm ns ∧ Rd w' u2 ds ∧ Nm ds ∧ val ns * (Int.gcd (val xs) (val ys) : Int) = val xs ∧ val ds * (Int.gcd (val xs) (val ys) : Int) = val ys ∧ Below w.heap.size w w' := by
  by_cases hg : Int.gcd (val xs) (val ys) = 1
  · refine (make_one neg v1 v2 xs ys L w h1 h2 n1 n2 l1 l2 hL p1 hg).mono ?_
    rintro e w' ⟨rfl, hb⟩
    exact ⟨v1, v2, xs, ys, rfl, h1.grow hb, n1, h2.grow hb, n2, by rw [hg]; simp, by rw [hg]; simp, hb⟩
  · exact make_more neg v1 v2 xs ys L w h1 h2 n1 n2 l1 l2 hL p1 _ rfl (by omega)
end Go.Proofs.Ytfpmegfdopnnpaa.L

namespace Go.Proofs.Ytfpmegfdopnnpaa.L
open Go.RowKit Tl

/-- How many bits a number has. -/
def bl (x : Int) : Nat := if x ≤ 0 then 0 else Nat.log2 x.toNat + 1
theorem bl_pos {x : Int} (h : 0 < x) : x < 2 ^ bl x ∧ 1 ≤ bl x ∧ (2 : Int) ^ (bl x - 1) ≤ x := by
  have e : bl x = Nat.log2 x.toNat + 1 := by unfold bl; rw [if_neg (by omega)]
  have h1 : x.toNat < 2 ^ (Nat.log2 x.toNat + 1) := Nat.lt_log2_self
  have h2 : 2 ^ Nat.log2 x.toNat ≤ x.toNat := Nat.log2_self_le (by omega)
  have c1 : ((2 ^ (Nat.log2 x.toNat + 1) : Nat) : Int) = (2 : Int) ^ (Nat.log2 x.toNat + 1) := by simp
  have c2 : ((2 ^ Nat.log2 x.toNat : Nat) : Int) = (2 : Int) ^ Nat.log2 x.toNat := by simp
  rw [e]
  refine ⟨by omega, by omega, ?_⟩
  rw [Nat.add_sub_cancel]; omega
theorem two_pow_le {a b : Nat} (h : a ≤ b) : (2 : Int) ^ a ≤ 2 ^ b := by
  have : 2 ^ a ≤ 2 ^ b := Nat.pow_le_pow_right (by decide) h
  exact_mod_cast this
theorem two_pow_pos (a : Nat) : (0 : Int) < 2 ^ a := Int.pow_pos (by decide)
theorem bl_unique {x : Int} {L : Nat} (h0 : 0 ≤ x) (h1 : x < 2 ^ L) (h2 : L = 0 ∨ (2 : Int) ^ (L - 1) ≤ x) : L = bl x := by
  by_cases hx : x = 0
  · subst hx
    rcases h2 with h2 | h2
    · rw [h2]; rfl
    · have := two_pow_pos (L - 1); omega
  · have b := bl_pos (x := x) (by omega)
    have hL : 1 ≤ L := by
      by_cases c : 1 ≤ L
      · exact c
      · have : L = 0 := by omega
        rw [this] at h1; simp at h1; omega
    have h2' : (2 : Int) ^ (L - 1) ≤ x := by
      rcases h2 with h2 | h2
      · omega
      · exact h2
    by_cases c1 : L ≤ bl x - 1
    · have := two_pow_le c1; omega
    · by_cases c2 : bl x ≤ L - 1
      · have := two_pow_le c2; omega
      · omega
theorem Bits_fn (v : Value) (xs : List Int) (w : World) (h : Rd w v xs) (n : Nm xs) (hL : xs.length ≤ 1099511627776) :
    Calls Try.prog 71 #[v] w fun e w' => e = .returned (.int .i64 (bl (val xs) : Nat)) ∧ w' = w := by
  refine (Bits_any v xs w h n hL).mono ?_
  rintro e w' ⟨L, rfl, h1, h2, _, rfl⟩
  rw [← bl_unique (val_nonneg h.1) h1 h2]
  exact ⟨rfl, rfl⟩
theorem bl_len {xs : List Int} (h : Wd xs) : bl (val xs) ≤ 30 * xs.length := by
  by_cases c : 0 < val xs
  · have b := bl_pos c
    have := val_lt h
    rw [pw_two] at this
    by_cases d : bl (val xs) ≤ 30 * xs.length
    · exact d
    · have := two_pow_le (show 30 * xs.length ≤ bl (val xs) - 1 by omega); omega
  · unfold bl; rw [if_pos (by omega)]; omega
/-- Q's Sign. -/
theorem Sign_any (neg : Bool) (a1 a2 : Option Addr) (n1 c1 n2 c2 : Nat) (w : World) (h : 0 < n1) :
    Calls Try.prog 84 #[.agg #[.bool neg, .slice a1 n1 c1, .slice a2 n2 c2]] w fun e w' => (∃ s : Int, e = .returned (.int .i64 s) ∧ s ≠ 0) ∧ Below w.heap.size w w' := by
  have hz : ((n1 : Int) == 0) = false := by rw [beq_eq_false_iff_ne]; omega
  cases neg
  all_goals
    go_enter Try.func84, Try.ntmps84
    go_wp2
    go_ret
    exact ⟨⟨_, rfl, by decide⟩, (Below.refl _ _).alloc (Nat.le_refl _) _⟩
theorem shl_len2 {xs A : List Int} {n : Nat} (hx : Wd xs) (hA : Wd A) (nA : Nm A) (e : val A = val xs * 2 ^ n) : A.length ≤ xs.length + (n / 30 + 1) := by
  by_cases c : A.length ≤ xs.length + (n / 30 + 1)
  · exact c
  · have nv : A ≠ [] := by intro h; rw [h] at c; simp at c
    have l := val_low hA nA nv
    have m := pw_mono (show xs.length + (n / 30 + 1) ≤ A.length - 1 by omega)
    have h := val_lt hx
    have h0 := val_nonneg hx
    have p := two_pow_pos n
    have a := Int.mul_lt_mul_of_pos_right h p
    have b : (2 : Int) ^ n ≤ pw (n / 30 + 1) := by rw [pw_two]; exact two_pow_le (by omega)
    have d := Int.mul_le_mul_of_nonneg_left b (Int.le_of_lt (pw_pos xs.length))
    rw [← pw_add] at d
    omega
theorem le_of_quo {a q b r : Int} (h : a = q * b + r) (r0 : 0 ≤ r) (q0 : 0 ≤ q) (b0 : 0 < b) : q ≤ a := by
  have := Int.mul_le_mul_of_nonneg_left (show 1 ≤ b by omega) q0
  omega
set_option maxHeartbeats 1600000 in
set_option maxRecDepth 100000 in
/-- scaled: the two numbers of a size by a power of two. -/
theorem scaled_up (neg : Bool) (a1 a2 : Option Addr) (c1 c2 : Nat) (ns ds : List Int) (e : Nat) (w : World) (_h1 : Rd w (.slice a1 ns.length c1) ns) (h2 : Rd w (.slice a2 ds.length c2) ds) (l2 : ds.length ≤ 1000000) (he : e ≤ 1000000) :
    Calls Try.prog 86 #[.agg #[.bool neg, .slice a1 ns.length c1, .slice a2 ds.length c2], .int .i64 e] w fun r w' => ∃ u bs, r = .returned (.tuple #[.slice a1 ns.length c1, u]) ∧ Rd w' u bs ∧ Nm bs ∧ val bs = val ds * 2 ^ e ∧ Below w.heap.size w w' := by
  have K0 := Blk.new w #[.bool neg, .slice a1 ns.length c1, .slice a2 ds.length c2] 91
  have pr : Below w.heap.size w (w.alloc (.cells #[.bool neg, .slice a1 ns.length c1, .slice a2 ds.length c2] 91)) := (Below.refl _ _).alloc (Nat.le_refl _) _
  have hR2 := h2.grow pr
  go_enter Try.func86, Try.ntmps86
  go_wp2_with fail
  generalize w.alloc (.cells #[.bool neg, .slice a1 ns.length c1, .slice a2 ds.length c2] 91) = W at *
  have e1 : W.cell? ⟨w.heap.size, 1, none⟩ = some (.slice a1 ns.length c1) := K0.at 1
  have e2 : W.cell? ⟨w.heap.size, 2, none⟩ = some (.slice a2 ds.length c2) := K0.at 2
  have L0 := K0.lt
  go_region_held3 (fun x => x.cell? ⟨w.heap.size, 1, none⟩ = some (.slice a1 ns.length c1) ∧ x.cell? ⟨w.heap.size, 2, none⟩ = some (.slice a2 ds.length c2)) (go_keep) (first
    | (go_at_call 68; refine (Shl_any _ ds e _ hR2.drew (by omega) (by omega)).mono ?_; rintro q w1 ⟨u, bs, rfl, hr, hn, hv, b1⟩; have f1 := (b1.cell (p := ⟨w.heap.size, 1, none⟩) L0).trans e1; have f2 := (b1.cell (p := ⟨w.heap.size, 2, none⟩) L0).trans e2)
    | fail)
  have pb := pr.trans ((below_undrew b1).mono pr.size)
  have HV : Hid (val bs = val ds * 2 ^ e) := hv
  clear hv
  go_wp2
  exact bodyPost_ret (v := .tuple #[.slice a1 ns.length c1, u]) (by simp [results, Try.results86, go_sem]) rfl ⟨u, bs, rfl, hr, hn, HV.out, pb⟩
set_option maxHeartbeats 1600000 in
set_option maxRecDepth 100000 in
theorem scaled_down (neg : Bool) (a1 a2 : Option Addr) (c1 c2 : Nat) (ns ds : List Int) (e : Nat) (E : Int) (w : World) (h1 : Rd w (.slice a1 ns.length c1) ns) (_h2 : Rd w (.slice a2 ds.length c2) ds) (l1 : ns.length ≤ 1000000) (he : e ≤ 1000000) (e0 : E < 0) (eE : -E = e) :
    Calls Try.prog 86 #[.agg #[.bool neg, .slice a1 ns.length c1, .slice a2 ds.length c2], .int .i64 E] w fun r w' => ∃ u bs, r = .returned (.tuple #[u, .slice a2 ds.length c2]) ∧ Rd w' u bs ∧ Nm bs ∧ val bs = val ns * 2 ^ e ∧ Below w.heap.size w w' := by
  have K0 := Blk.new w #[.bool neg, .slice a1 ns.length c1, .slice a2 ds.length c2] 91
  have pr : Below w.heap.size w (w.alloc (.cells #[.bool neg, .slice a1 ns.length c1, .slice a2 ds.length c2] 91)) := (Below.refl _ _).alloc (Nat.le_refl _) _
  have hR2 := h1.grow pr
  have hz : ¬ (0 : Int) ≤ E := by omega
  have hm : IntKind.i64.wrap (-E) = (e : Int) := by rw [eE]; exact wrap_self _ (by omega) (by omega)
  clear eE
  go_enter Try.func86, Try.ntmps86
  go_wp2_with fail
  generalize w.alloc (.cells #[.bool neg, .slice a1 ns.length c1, .slice a2 ds.length c2] 91) = W at *
  have e1 : W.cell? ⟨w.heap.size, 1, none⟩ = some (.slice a1 ns.length c1) := K0.at 1
  have e2 : W.cell? ⟨w.heap.size, 2, none⟩ = some (.slice a2 ds.length c2) := K0.at 2
  have L0 := K0.lt
  go_region_held3 (fun x => x.cell? ⟨w.heap.size, 1, none⟩ = some (.slice a1 ns.length c1) ∧ x.cell? ⟨w.heap.size, 2, none⟩ = some (.slice a2 ds.length c2)) (go_keep) (first
    | (go_at_call 68; refine (Shl_any _ ns e _ hR2.drew (by omega) (by omega)).mono ?_; rintro q w1 ⟨u, bs, rfl, hr, hn, hv, b1⟩; have f1 := (b1.cell (p := ⟨w.heap.size, 1, none⟩) L0).trans e1; have f2 := (b1.cell (p := ⟨w.heap.size, 2, none⟩) L0).trans e2)
    | fail)
  have pb := pr.trans ((below_undrew b1).mono pr.size)
  have HV : Hid (val bs = val ns * 2 ^ e) := hv
  clear hv
  go_wp2
  exact bodyPost_ret (v := .tuple #[u, .slice a2 ds.length c2]) (by simp [results, Try.results86, go_sem]) rfl ⟨u, bs, rfl, hr, hn, HV.out, pb⟩
/-- scaled. -/
theorem scaled_any (neg : Bool) (v1 v2 : Value) (ns ds : List Int) (e : Int) (w : World) (h1 : Rd w v1 ns) (h2 : Rd w v2 ds) (n1 : Nm ns) (n2 : Nm ds) (l1 : ns.length ≤ 1000000) (l2 : ds.length ≤ 1000000) (e1 : e ≤ 1000000) (e2 : -1000000 ≤ e) :
    Calls Try.prog 86 #[.agg #[.bool neg, v1, v2], .int .i64 e] w fun r w' => ∃ u1 u2 za bs, r = .returned (.tuple #[u1, u2]) ∧ Rd w' u1 za ∧ Nm za ∧ Rd w' u2 bs ∧ Nm bs ∧ val za = val ns * 2 ^ (-e).toNat ∧ val bs = val ds * 2 ^ e.toNat ∧ za.length ≤ 2000000 ∧ bs.length ≤ 2000000 ∧ Below w.heap.size w w' := by
  obtain ⟨a1, c1, rfl⟩ : ∃ a1 c1, v1 = .slice a1 ns.length c1 := by obtain ⟨_, a1, c1, e, _⟩ := h1; exact ⟨a1, c1, e⟩
  obtain ⟨a2, c2, rfl⟩ : ∃ a1 c1, v2 = .slice a1 ds.length c1 := by obtain ⟨_, a1, c1, e, _⟩ := h2; exact ⟨a1, c1, e⟩
  by_cases he : 0 ≤ e
  · obtain ⟨k, rfl⟩ := Int.eq_ofNat_of_zero_le he
    refine (scaled_up neg a1 a2 c1 c2 ns ds k w h1 h2 l2 (by omega)).mono ?_
    rintro r w' ⟨u, bs, rfl, hr, hn, hv, hb⟩
    refine ⟨_, _, ns, bs, rfl, h1.grow hb, n1, hr, hn, ?_, ?_, by omega, ?_, hb⟩
    · rw [show (-(k : Int)).toNat = 0 from by omega]; simp
    · rw [hv]; simp
    · have := shl_len2 h2.1 hr.1 hn hv; omega
  · obtain ⟨k, hk⟩ : ∃ k : Nat, e = -(k : Int) := ⟨(-e).toNat, by omega⟩
    subst hk
    refine (scaled_down neg a1 a2 c1 c2 ns ds k _ w h1 h2 l1 (by omega) (by omega) (by omega)).mono ?_
    rintro r w' ⟨u, bs, rfl, hr, hn, hv, hb⟩
    refine ⟨_, _, bs, ds, rfl, hr, hn, h2.grow hb, n2, ?_, ?_, ?_, by omega, hb⟩
    · rw [hv]; simp
    · rw [show (-(k : Int)).toNat = 0 from by omega]; simp
    · have := shl_len2 h1.1 hr.1 hn hv; omega
set_option maxHeartbeats 1600000 in
set_option maxRecDepth 100000 in
/-- Size's floor. -/
theorem floor_any (P Lo Hi Fr : Int) (neg : Bool) (v1 v2 : Value) (ns ds : List Int) (e : Int) (w : World) (h1 : Rd w v1 ns) (h2 : Rd w v2 ds) (n1 : Nm ns) (n2 : Nm ds) (l1 : ns.length ≤ 1000000) (l2 : ds.length ≤ 1000000) (e1 : e ≤ 1000000) (e2 : -1000000 ≤ e) (d0 : 0 < val ds) :
    Calls Try.prog 85 #[.agg #[.int .i64 P, .int .i64 Lo, .int .i64 Hi, .int .i64 Fr], .agg #[.bool neg, v1, v2], .int .i64 e] w fun r w' => ∃ u1 u2 ms rs, r = .returned (.tuple #[u1, u2]) ∧ Rd w' u1 ms ∧ Nm ms ∧ Rd w' u2 rs ∧ Nm rs ∧ val ns * 2 ^ (-e).toNat = val ms * (val ds * 2 ^ e.toNat) + val rs ∧ 0 ≤ val rs ∧ val rs < val ds * 2 ^ e.toNat ∧ ms.length ≤ 2000000 ∧ rs.length ≤ 2000000 ∧ Below w.heap.size w w' := by
  obtain ⟨a1, c1, rfl⟩ : ∃ a1 c1, v1 = .slice a1 ns.length c1 := by obtain ⟨_, a1, c1, e, _⟩ := h1; exact ⟨a1, c1, e⟩
  obtain ⟨a2, c2, rfl⟩ : ∃ a1 c1, v2 = .slice a1 ds.length c1 := by obtain ⟨_, a1, c1, e, _⟩ := h2; exact ⟨a1, c1, e⟩
  have hR1 : Hid (∀ w', Below w.heap.size w w' → Rd w' (.slice a1 ns.length c1) ns) := fun w' k => h1.grow k
  have hR2 : Hid (∀ w', Below w.heap.size w w' → Rd w' (.slice a2 ds.length c2) ds) := fun w' k => h2.grow k
  have pr : Below w.heap.size w ((w.alloc (.cells #[.int .i64 P, .int .i64 Lo, .int .i64 Hi, .int .i64 Fr] 31)).alloc (.cells #[.bool neg, .slice a1 ns.length c1, .slice a2 ds.length c2] 91)) := ((Below.refl _ _).alloc (Nat.le_refl _) _).alloc (by simp) _
  have dp : Hid (0 < val ds * 2 ^ e.toNat) := Int.mul_pos d0 (two_pow_pos _)
  go_enter Try.func85, Try.ntmps85
  go_wp2_with (first
    | (go_at_call 86; (refine (scaled_any neg _ _ ns ds e _ (hR1.out _ pr) (hR2.out _ pr) n1 n2 l1 l2 e1 e2).mono ?_; rintro r w1 ⟨u1, u2, za, bs, rfl, ha, na, hb, nb, va, vb, la, lb, b1⟩; have VA : Hid (val za = val ns * 2 ^ (-e).toNat) := va; have VB : Hid (val bs = val ds * 2 ^ e.toNat) := vb; clear va vb; replace pr := pr.trans (b1.mono pr.size)))
    | (go_at_call 95; (refine (DivMod_any _ _ za bs _ ha hb na nb (by omega) (by rw [VB.out]; exact dp.out)).mono ?_; rintro r w2 ⟨q, r, ms, rs, rfl, hq, nq, hr, nr, hv, r0, r1, b2⟩; have HV : Hid _ := hv; have HR : Hid _ := r1; have lr := len_mono hb.1 hr.1 nr (Int.le_of_lt r1); have lm : ms.length ≤ za.length := len_mono ha.1 hq.1 nq (le_of_quo HV.out r0 (val_nonneg hq.1) (by rw [VB.out]; exact dp.out)); clear hv r1; replace pr := pr.trans (b2.mono pr.size)))
    | fail)
  have f1 := HV.out
  have f2 := HR.out
  rw [VA.out, VB.out] at f1
  rw [VB.out] at f2
  exact bodyPost_ret (v := .tuple #[q, r]) (by simp [results, Try.results85, go_sem]) rfl ⟨_, _, ms, rs, rfl, hq, nq, hr, nr, f1, r0, f2, by omega, by omega, pr⟩
end Go.Proofs.Ytfpmegfdopnnpaa.L

/-
  Contracts of the library, laid at this program.
-/
namespace Go.Proofs
open Go.Shelf
def Try.lays134_ren : Go.Shelf.Ren := ⟨fun | 134 => 104 | 129 => 97 | n => n, fun | 53 => 22 | 3 => 3 | 4 => 4 | 46 => 105 | 5 => 5 | 9 => 9 | n => n, fun | n => n⟩
theorem Try.lays134 : Go.Proofs.Lays.n134 Try.prog Try.lays134_ren := {
  mixed := by kernel_rfl
  f129 := Try.func97.trans (congrArg some (by kernel_rfl))
  f134 := Try.func104.trans (congrArg some (by kernel_rfl))
  t3 := Try.underlying3
  a3 := Try.isAgg3
  z3 := Try.sizeOf3
  v3 := Try.zeroValue3
  t4 := Try.underlying4
  a4 := Try.isAgg4
  z4 := Try.sizeOf4
  v4 := Try.zeroValue4
  t5 := Try.underlying5
  a5 := Try.isAgg5
  z5 := Try.sizeOf5
  v5 := Try.zeroValue5
  t9 := Try.underlying9
  a9 := Try.isAgg9
  z9 := Try.sizeOf9
  v9 := Try.zeroValue9
  t46 := Try.underlying105
  a46 := Try.isAgg105
  z46 := Try.sizeOf105
  v46 := Try.zeroValue105
  t53 := Try.underlying22
  a53 := Try.isAgg22
  z53 := Try.sizeOf22
  v53 := Try.zeroValue22 }
theorem Try.bits_LeadingZeros64 (x : Int) (w : World) (h0 : 0 ≤ x) (h1 : x ≤ 18446744073709551615) :
    Calls Try.prog 104 #[.int .u64 x] w fun e w' => e = .returned (.int .i64 (64 - (Lib.bitLen x.toNat : Int))) ∧ w' = w := Any.bits_LeadingZeros64 Try.lays134 x w h0 h1
def Try.lays129_ren : Go.Shelf.Ren := ⟨fun | 129 => 97 | n => n, fun | 53 => 22 | 3 => 3 | 4 => 4 | 46 => 105 | 5 => 5 | 9 => 9 | n => n, fun | n => n⟩
theorem Try.lays129 : Go.Proofs.Lays.n129 Try.prog Try.lays129_ren := {
  mixed := by kernel_rfl
  f129 := Try.func97.trans (congrArg some (by kernel_rfl))
  t3 := Try.underlying3
  a3 := Try.isAgg3
  z3 := Try.sizeOf3
  v3 := Try.zeroValue3
  t4 := Try.underlying4
  a4 := Try.isAgg4
  z4 := Try.sizeOf4
  v4 := Try.zeroValue4
  t5 := Try.underlying5
  a5 := Try.isAgg5
  z5 := Try.sizeOf5
  v5 := Try.zeroValue5
  t9 := Try.underlying9
  a9 := Try.isAgg9
  z9 := Try.sizeOf9
  v9 := Try.zeroValue9
  t46 := Try.underlying105
  a46 := Try.isAgg105
  z46 := Try.sizeOf105
  v46 := Try.zeroValue105
  t53 := Try.underlying22
  a53 := Try.isAgg22
  z53 := Try.sizeOf22
  v53 := Try.zeroValue22 }
theorem Try.bits_Len64 (x : Int) (w : World) (h0 : 0 ≤ x) (h1 : x ≤ 18446744073709551615) :
    Calls Try.prog 97 #[.int .u64 x] w fun e w' => e = .returned (.int .i64 (Lib.bitLen x.toNat)) ∧ w' = w := Any.bits_Len64 Try.lays129 x w h0 h1
end Go.Proofs

namespace Go.Proofs.Ytfpmegfdopnnpaa
open Go.RowKit Tn

theorem bitLen_log2 : ∀ n : Nat, n < 2 ^ 64 → Lib.bitLen n = if n = 0 then 0 else n.log2 + 1 := by
  intro n
  induction n using Nat.strongRecOn with
  | ind n ih =>
    intro hn
    by_cases c : n = 0
    · rw [c]; rfl
    · rw [Lib.bitLen_half n c hn, ih (n / 2) (by omega) (by omega), if_neg c]
      by_cases d : n / 2 = 0
      · have : n = 1 := by omega
        subst this; rfl
      · rw [if_neg d, Nat.log2_def n, if_pos (by omega)]; omega
theorem bl_bitLen (x : Int) (h0 : 0 ≤ x) (h1 : x ≤ 18446744073709551615) : Lib.bitLen x.toNat = L.bl x := by
  rw [bitLen_log2 x.toNat (by omega)]
  unfold L.bl
  by_cases c : x ≤ 0
  · rw [if_pos c, if_pos (by omega)]
  · rw [if_neg c, if_neg (by omega)]
theorem LeadingZeros64_any (x : Int) (h0 : 0 ≤ x) (h1 : x ≤ 18446744073709551615) (w : World) : Calls Try.prog 104 #[.int .u64 x] w fun e w' => e = .returned (.int .i64 (64 - (L.bl x : Int))) ∧ w' = w := by
  have := Try.bits_LeadingZeros64 x w h0 h1
  rw [bl_bitLen x h0 h1] at this
  exact this
theorem Len64_any (x : Int) (h0 : 0 ≤ x) (h1 : x ≤ 18446744073709551615) (w : World) : Calls Try.prog 97 #[.int .u64 x] w fun e w' => e = .returned (.int .i64 (L.bl x : Int)) ∧ w' = w := by
  have := Try.bits_Len64 x w h0 h1
  rw [bl_bitLen x h0 h1] at this
  exact this
set_option maxRecDepth 100000 in
set_option maxHeartbeats 1600000 in
/-- raised, of a number whose high word is nought. -/
theorem raised_low (g mr : Bool) (fl x1 x2 x3 E L H : Int) (lz : Nat) (hx1 : IntKind.i64.wrap (E - 64) = x1) (hx2 : IntKind.i64.wrap (x1 - lz) = x2) (hx3 : IntKind.i64.wrap (64 - lz) = x3)
    (hs1 : Op.shift .shl .u64 L .i64 (lz : Int) = pure (.int .u64 H)) (hs2 : Op.shift .shl .u64 0 .i64 (lz : Int) = pure (.int .u64 0)) (hs3 : Op.shift .shr .u64 0 .i64 x3 = pure (.int .u64 0)) (o1 : bits .or .u64 H 0 = H)
    (LZ : ∀ w, Calls Try.prog 104 #[.int .u64 L] w fun e w' => e = .returned (.int .i64 (lz : Int)) ∧ w' = w) (w : World) :
    Calls Try.prog 80 #[.agg #[.int .i64 2, .bool g, .int .u64 0, .int .u64 L, .int .i64 E, .bool mr, .int .i64 fl]] w fun e w' => e = .returned (.agg #[.int .i64 2, .bool g, .int .u64 H, .int .u64 0, .int .i64 x2, .bool mr, .int .i64 fl]) ∧ Below w.heap.size w w' := by
  go_enter Try.func80, Try.ntmps80
  go_wp2_with (first
    | (go_at_call 104; refine (LZ _).mono ?_; rintro e w' ⟨rfl, rfl⟩)
    | fail)
  generalize hW : (w.alloc (.cells #[.int .i64 2, .bool g, .int .u64 L, .int .u64 0, .int .i64 x1, .bool mr, .int .i64 fl] 85)).alloc (.cells #[.int .i64 0, .bool false, .int .u64 0, .int .u64 0, .int .i64 0, .bool false, .int .i64 0] 85) = W
  have K1 : Blk W w.heap.size #[.int .i64 2, .bool g, .int .u64 L, .int .u64 0, .int .i64 x1, .bool mr, .int .i64 fl] 85 := by rw [← hW]; exact (Blk.new w _ _).alloc _
  have K2 : Blk W (w.heap.size + 1) #[.int .i64 0, .bool false, .int .u64 0, .int .u64 0, .int .i64 0, .bool false, .int .i64 0] 85 := by rw [← hW]; have := Blk.new (w.alloc (.cells #[.int .i64 2, .bool g, .int .u64 L, .int .u64 0, .int .i64 x1, .bool mr, .int .i64 fl] 85)) #[.int .i64 0, .bool false, .int .u64 0, .int .u64 0, .int .i64 0, .bool false, .int .i64 0] 85; simpa using this
  have pr : Below w.heap.size w W := by rw [← hW]; exact ((Below.refl _ _).alloc (Nat.le_refl _) _).alloc (by simp) _
  clear hW
  have c2 : W.cell? ⟨w.heap.size, 2, none⟩ = some (.int .u64 L) := K1.at 2
  have c3 : W.cell? ⟨w.heap.size, 3, none⟩ = some (.int .u64 0) := K1.at 3
  have c4 : W.cell? ⟨w.heap.size, 4, none⟩ = some (.int .i64 x1) := K1.at 4
  have f2 := K1.free 2
  have f3 := K1.free 3
  have f4 := K1.free 4
  go_region
  have J1 : Blk (((W.setCell ⟨w.heap.size, 2, none⟩ (.int .u64 H)).setCell ⟨w.heap.size, 3, none⟩ (.int .u64 0)).setCell ⟨w.heap.size, 4, none⟩ (.int .i64 x2)).drew w.heap.size #[.int .i64 2, .bool g, .int .u64 H, .int .u64 0, .int .i64 x2, .bool mr, .int .i64 fl] 85 := blk_set (blk_set (blk_set K1))
  have J2 : Blk (((W.setCell ⟨w.heap.size, 2, none⟩ (.int .u64 H)).setCell ⟨w.heap.size, 3, none⟩ (.int .u64 0)).setCell ⟨w.heap.size, 4, none⟩ (.int .i64 x2)).drew (w.heap.size + 1) #[.int .i64 0, .bool false, .int .u64 0, .int .u64 0, .int .i64 0, .bool false, .int .i64 0] 85 := blk_set_other (blk_set_other (blk_set_other K2 (by omega)) (by omega)) (by omega)
  have pr2 : Below w.heap.size w (((W.setCell ⟨w.heap.size, 2, none⟩ (.int .u64 H)).setCell ⟨w.heap.size, 3, none⟩ (.int .u64 0)).setCell ⟨w.heap.size, 4, none⟩ (.int .i64 x2)).drew := (bel_set (bel_set (bel_set pr (Nat.le_refl _)) (Nat.le_refl _)) (Nat.le_refl _)).drew
  clear c2 c3 c4 f2 f3 f4 K1 K2 pr
  generalize (((W.setCell ⟨w.heap.size, 2, none⟩ (.int .u64 H)).setCell ⟨w.heap.size, 3, none⟩ (.int .u64 0)).setCell ⟨w.heap.size, 4, none⟩ (.int .i64 x2)).drew = W2 at *
  have c0 : W2.cell? ⟨w.heap.size, 0, none⟩ = some (.int .i64 2) := J1.at 0
  have c1 : W2.cell? ⟨w.heap.size, 1, none⟩ = some (.bool g) := J1.at 1
  have c2 : W2.cell? ⟨w.heap.size, 2, none⟩ = some (.int .u64 H) := J1.at 2
  have c3 : W2.cell? ⟨w.heap.size, 3, none⟩ = some (.int .u64 0) := J1.at 3
  have c4 : W2.cell? ⟨w.heap.size, 4, none⟩ = some (.int .i64 x2) := J1.at 4
  have c5 : W2.cell? ⟨w.heap.size, 5, none⟩ = some (.bool mr) := J1.at 5
  have c6 : W2.cell? ⟨w.heap.size, 6, none⟩ = some (.int .i64 fl) := J1.at 6
  have d0 : W2.cell? ⟨w.heap.size + 1, 0, none⟩ = some (.int .i64 0) := J2.at 0
  have d1 : W2.cell? ⟨w.heap.size + 1, 1, none⟩ = some (.bool false) := J2.at 1
  have d2 : W2.cell? ⟨w.heap.size + 1, 2, none⟩ = some (.int .u64 0) := J2.at 2
  have d3 : W2.cell? ⟨w.heap.size + 1, 3, none⟩ = some (.int .u64 0) := J2.at 3
  have d4 : W2.cell? ⟨w.heap.size + 1, 4, none⟩ = some (.int .i64 0) := J2.at 4
  have d5 : W2.cell? ⟨w.heap.size + 1, 5, none⟩ = some (.bool false) := J2.at 5
  have d6 : W2.cell? ⟨w.heap.size + 1, 6, none⟩ = some (.int .i64 0) := J2.at 6
  have f0 := J2.free 0
  have f1 := J2.free 1
  have f2 := J2.free 2
  have f3 := J2.free 3
  have f4 := J2.free 4
  have f5 := J2.free 5
  have f6 := J2.free 6
  go_wp2
  have JF : Blk (((((((W2.setCell ⟨w.heap.size + 1, 0, none⟩ (.int .i64 2)).setCell ⟨w.heap.size + 1, 1, none⟩ (.bool g)).setCell ⟨w.heap.size + 1, 2, none⟩ (.int .u64 H)).setCell ⟨w.heap.size + 1, 3, none⟩ (.int .u64 0)).setCell ⟨w.heap.size + 1, 4, none⟩ (.int .i64 x2)).setCell ⟨w.heap.size + 1, 5, none⟩ (.bool mr)).setCell ⟨w.heap.size + 1, 6, none⟩ (.int .i64 fl)) (w.heap.size + 1) #[.int .i64 2, .bool g, .int .u64 H, .int .u64 0, .int .i64 x2, .bool mr, .int .i64 fl] 85 := (blk_set (blk_set (blk_set (blk_set (blk_set (blk_set (blk_set J2)))))))
  have F0 : (((((((W2.setCell ⟨w.heap.size + 1, 0, none⟩ (.int .i64 2)).setCell ⟨w.heap.size + 1, 1, none⟩ (.bool g)).setCell ⟨w.heap.size + 1, 2, none⟩ (.int .u64 H)).setCell ⟨w.heap.size + 1, 3, none⟩ (.int .u64 0)).setCell ⟨w.heap.size + 1, 4, none⟩ (.int .i64 x2)).setCell ⟨w.heap.size + 1, 5, none⟩ (.bool mr)).setCell ⟨w.heap.size + 1, 6, none⟩ (.int .i64 fl)).cell? ⟨w.heap.size + 1, 0, none⟩ = some (.int .i64 2) := JF.at 0
  have F1 : (((((((W2.setCell ⟨w.heap.size + 1, 0, none⟩ (.int .i64 2)).setCell ⟨w.heap.size + 1, 1, none⟩ (.bool g)).setCell ⟨w.heap.size + 1, 2, none⟩ (.int .u64 H)).setCell ⟨w.heap.size + 1, 3, none⟩ (.int .u64 0)).setCell ⟨w.heap.size + 1, 4, none⟩ (.int .i64 x2)).setCell ⟨w.heap.size + 1, 5, none⟩ (.bool mr)).setCell ⟨w.heap.size + 1, 6, none⟩ (.int .i64 fl)).cell? ⟨w.heap.size + 1, 1, none⟩ = some (.bool g) := JF.at 1
  have F2 : (((((((W2.setCell ⟨w.heap.size + 1, 0, none⟩ (.int .i64 2)).setCell ⟨w.heap.size + 1, 1, none⟩ (.bool g)).setCell ⟨w.heap.size + 1, 2, none⟩ (.int .u64 H)).setCell ⟨w.heap.size + 1, 3, none⟩ (.int .u64 0)).setCell ⟨w.heap.size + 1, 4, none⟩ (.int .i64 x2)).setCell ⟨w.heap.size + 1, 5, none⟩ (.bool mr)).setCell ⟨w.heap.size + 1, 6, none⟩ (.int .i64 fl)).cell? ⟨w.heap.size + 1, 2, none⟩ = some (.int .u64 H) := JF.at 2
  have F3 : (((((((W2.setCell ⟨w.heap.size + 1, 0, none⟩ (.int .i64 2)).setCell ⟨w.heap.size + 1, 1, none⟩ (.bool g)).setCell ⟨w.heap.size + 1, 2, none⟩ (.int .u64 H)).setCell ⟨w.heap.size + 1, 3, none⟩ (.int .u64 0)).setCell ⟨w.heap.size + 1, 4, none⟩ (.int .i64 x2)).setCell ⟨w.heap.size + 1, 5, none⟩ (.bool mr)).setCell ⟨w.heap.size + 1, 6, none⟩ (.int .i64 fl)).cell? ⟨w.heap.size + 1, 3, none⟩ = some (.int .u64 0) := JF.at 3
  have F4 : (((((((W2.setCell ⟨w.heap.size + 1, 0, none⟩ (.int .i64 2)).setCell ⟨w.heap.size + 1, 1, none⟩ (.bool g)).setCell ⟨w.heap.size + 1, 2, none⟩ (.int .u64 H)).setCell ⟨w.heap.size + 1, 3, none⟩ (.int .u64 0)).setCell ⟨w.heap.size + 1, 4, none⟩ (.int .i64 x2)).setCell ⟨w.heap.size + 1, 5, none⟩ (.bool mr)).setCell ⟨w.heap.size + 1, 6, none⟩ (.int .i64 fl)).cell? ⟨w.heap.size + 1, 4, none⟩ = some (.int .i64 x2) := JF.at 4
  have F5 : (((((((W2.setCell ⟨w.heap.size + 1, 0, none⟩ (.int .i64 2)).setCell ⟨w.heap.size + 1, 1, none⟩ (.bool g)).setCell ⟨w.heap.size + 1, 2, none⟩ (.int .u64 H)).setCell ⟨w.heap.size + 1, 3, none⟩ (.int .u64 0)).setCell ⟨w.heap.size + 1, 4, none⟩ (.int .i64 x2)).setCell ⟨w.heap.size + 1, 5, none⟩ (.bool mr)).setCell ⟨w.heap.size + 1, 6, none⟩ (.int .i64 fl)).cell? ⟨w.heap.size + 1, 5, none⟩ = some (.bool mr) := JF.at 5
  have F6 : (((((((W2.setCell ⟨w.heap.size + 1, 0, none⟩ (.int .i64 2)).setCell ⟨w.heap.size + 1, 1, none⟩ (.bool g)).setCell ⟨w.heap.size + 1, 2, none⟩ (.int .u64 H)).setCell ⟨w.heap.size + 1, 3, none⟩ (.int .u64 0)).setCell ⟨w.heap.size + 1, 4, none⟩ (.int .i64 x2)).setCell ⟨w.heap.size + 1, 5, none⟩ (.bool mr)).setCell ⟨w.heap.size + 1, 6, none⟩ (.int .i64 fl)).cell? ⟨w.heap.size + 1, 6, none⟩ = some (.int .i64 fl) := JF.at 6
  exact bodyPost_ret (v := .agg #[.int .i64 2, .bool g, .int .u64 H, .int .u64 0, .int .i64 x2, .bool mr, .int .i64 fl]) (by simp [results, Try.results80, go_sem, F0, F1, F2, F3, F4, F5, F6]) rfl ⟨rfl, (bel_set (bel_set (bel_set (bel_set (bel_set (bel_set (bel_set pr2 (Nat.le_succ _)) (Nat.le_succ _)) (Nat.le_succ _)) (Nat.le_succ _)) (Nat.le_succ _)) (Nat.le_succ _)) (Nat.le_succ _))⟩
end Go.Proofs.Ytfpmegfdopnnpaa
