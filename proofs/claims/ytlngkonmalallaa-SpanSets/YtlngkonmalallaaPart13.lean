import Derived.Test.YtlngkonmalallaaPart12
import Derived.Test.YtlngkonmalallaaPart06
import Derived.WalkKit
import Derived.WalkLawsBesides
import Derived.Test.YtlngkonmalallaaPart11

namespace Go.Proofs.Ytlngkonmalallaa.L
open Go.RowKit Tl

theorem mul_lt_iff {G a b : Int} (h : 0 < G) : G * a < G * b ↔ a < b := ⟨fun k => Int.lt_of_mul_lt_mul_left k (Int.le_of_lt h), fun k => Int.mul_lt_mul_of_pos_left k h⟩
/-- The same number, L times 2 to the E, by whole steps of 2 to the e. -/
theorem fl_cut {N D e m q L E : Int} {lz p : Nat} (hD : 0 < D) (h : Fl N D e m q) (hc : N * 2 ^ (-E).toNat = D * (L * 2 ^ E.toNat)) (hp : (p : Int) = e - E + lz) :
    ∃ ρ G v : Int, 0 < G ∧ 0 < v ∧ L * 2 ^ lz = m * 2 ^ p + ρ ∧ 0 ≤ ρ ∧ ρ < 2 ^ p ∧ q * v = G * ρ ∧ (D * 2 ^ e.toNat) * v = G * 2 ^ p := by
  have hv : (0 : Int) < 2 ^ ((-E).toNat + lz) := two_pow_pos _
  have hG : 0 < D * 2 ^ (E.toNat + (-e).toNat) := Int.mul_pos hD (two_pow_pos _)
  have e1 : (D * 2 ^ e.toNat) * 2 ^ ((-E).toNat + lz) = D * 2 ^ (E.toNat + (-e).toNat) * 2 ^ p := by
    rw [Int.mul_assoc, Int.mul_assoc, ← Int.pow_add, ← Int.pow_add]; congr 2; omega
  have e2 : N * 2 ^ (-e).toNat * 2 ^ ((-E).toNat + lz) = D * 2 ^ (E.toNat + (-e).toNat) * (L * 2 ^ lz) := by
    have : N * 2 ^ (-e).toNat * 2 ^ ((-E).toNat + lz) = (N * 2 ^ (-E).toNat) * 2 ^ (-e).toNat * 2 ^ lz := by rw [Int.pow_add]; grind
    rw [this, hc, Int.pow_add]; grind
  have e3 : q * 2 ^ ((-E).toNat + lz) = D * 2 ^ (E.toNat + (-e).toNat) * (L * 2 ^ lz - m * 2 ^ p) := by
    have h1 := h.eq
    have h2 : q = N * 2 ^ (-e).toNat - m * (D * 2 ^ e.toNat) := by omega
    rw [h2, Int.sub_mul, e2, Int.mul_assoc m, e1]; grind
  refine ⟨L * 2 ^ lz - m * 2 ^ p, D * 2 ^ (E.toNat + (-e).toNat), 2 ^ ((-E).toNat + lz), hG, hv, by omega, ?_, ?_, e3, e1⟩
  · have a : 0 ≤ q * 2 ^ ((-E).toNat + lz) := Int.mul_nonneg h.r0 (Int.le_of_lt hv)
    rw [e3] at a
    by_cases c : 0 ≤ L * 2 ^ lz - m * 2 ^ p
    · exact c
    · have := Int.mul_lt_mul_of_pos_left (show L * 2 ^ lz - m * 2 ^ p < 0 by omega) hG; omega
  · have a := Int.mul_lt_mul_of_pos_right h.r1 hv
    rw [e3, e1] at a
    exact (mul_lt_iff hG).1 a
theorem rnd_scale {neg : Bool} {way m q d ρ G v t : Int} (hG : 0 < G) (hv : 0 < v) (hq : q * v = G * ρ) (hd : d * v = G * t) : rnd neg way m q d = rnd neg way m ρ t := by
  have z : (q = 0) ↔ (ρ = 0) := by
    constructor
    · intro k
      rw [k, Int.zero_mul] at hq
      exact (Int.mul_eq_zero.1 hq.symm).resolve_left (by omega)
    · intro k
      rw [k, Int.mul_zero] at hq
      exact (Int.mul_eq_zero.1 hq).resolve_right (by omega)
  have s1 : v * (q * 2) = G * (ρ * 2) := by grind
  have s2 : v * d = G * t := by grind
  have l1 : (q * 2 < d) ↔ (ρ * 2 < t) := by rw [← mul_lt_iff hv, s1, s2, mul_lt_iff hG]
  have l2 : (d < q * 2) ↔ (t < ρ * 2) := by rw [← mul_lt_iff hv, s1, s2, mul_lt_iff hG]
  have c : cmp3 (q * 2) d = cmp3 (ρ * 2) t := by
    unfold cmp3
    by_cases a : q * 2 < d
    · rw [if_pos a, if_pos (l1.1 a)]
    · rw [if_neg a, if_neg (fun k => a (l1.2 k))]
      by_cases b : d < q * 2
      · rw [if_pos b, if_pos (l2.1 b)]
      · rw [if_neg b, if_neg (fun k => b (l2.2 k))]
  unfold rnd
  rw [c]
  by_cases a : q = 0
  · rw [if_neg (fun k => k.1 a), if_neg (fun k => k.1 (z.1 a))]
  · have b : ρ ≠ 0 := fun k => a (z.2 k)
    simp only [ne_eq, a, b, not_false_eq_true, true_and]
theorem pow_half {p : Nat} (hp : 1 ≤ p) : (2 : Int) ^ p = 2 * 2 ^ (p - 1) := by
  obtain ⟨k, rfl⟩ : ∃ k, p = k + 1 := ⟨p - 1, by omega⟩
  rw [Int.pow_succ, Nat.add_sub_cancel]; omega
/-- How what drops out stands to half of what stays, with nothing more behind it. -/
theorem beside_cmp {r : Int} {p : Nat} (hp : 1 ≤ p) : besideF r p false = cmp3 (r * 2) (2 ^ p) := by
  unfold besideF cmp3
  have e := pow_half hp
  generalize (2 : Int) ^ (p - 1) = h at *
  rw [e]
  by_cases a : r < h
  · rw [if_pos a, if_pos (show r * 2 < 2 * h by omega)]
  · rw [if_neg a, if_neg (show ¬ r * 2 < 2 * h by omega)]
    by_cases b : h < r
    · rw [if_pos b, if_pos (show 2 * h < r * 2 by omega)]
    · rw [if_neg b, if_neg (show ¬ 2 * h < r * 2 by omega)]; rfl
theorem cut_rnd (H : Int) {p : Nat} (hp : 1 ≤ p) (neg : Bool) (way : Int) : (cutF H p false neg way).1 = rnd neg way (H / 2 ^ p) (H % 2 ^ p) (2 ^ p) := by
  unfold cutF rnd
  rw [beside_cmp hp]
  have o : (H / 2 ^ p % 2 == 1) = (!decide (H / 2 ^ p % 2 = 0)) := by
    have := Int.emod_two_eq (H / 2 ^ p)
    rcases this with k | k <;> rw [k] <;> rfl
  rw [o]
  by_cases a : H % 2 ^ p = 0
  · rw [if_pos ⟨a, rfl⟩, if_neg (fun k => k.1 a)]
  · rw [if_neg (fun k => a k.1)]
    simp only [ne_eq, a, not_false_eq_true, true_and]
theorem div_of {H m ρ : Int} {p : Nat} (h : H = m * 2 ^ p + ρ) (r0 : 0 ≤ ρ) (r1 : ρ < 2 ^ p) : H / 2 ^ p = m ∧ H % 2 ^ p = ρ := by
  have t := two_pow_pos p
  have h1 : H / 2 ^ p = m := by
    rw [h, Int.add_comm, Int.add_mul_ediv_right _ _ (by omega), Int.ediv_eq_zero_of_lt r0 r1]; omega
  refine ⟨h1, ?_⟩
  have := Int.mul_ediv_add_emod H (2 ^ p)
  rw [h1, Int.mul_comm] at this
  omega
/-- The exponent of what is rounded. -/
def canW (L E : Int) : Int := max (E + bl L - 53) (-1074)
theorem can_w {N D e m q L E : Int} (hL : 0 < L) (hD : 0 < D) (h : Fl N D e m q) (hc : N * 2 ^ (-E).toNat = D * (L * 2 ^ E.toNat)) (m0 : 0 ≤ m) (m1 : m < 9007199254740992) (e0 : -1074 ≤ e) (st : e = -1074 ∨ 4503599627370496 ≤ m) : e = canW L E := by
  obtain ⟨lz, p, hp⟩ : ∃ lz p : Nat, (p : Int) = e - E + lz := ⟨(E - e).toNat, (e - E).toNat, by omega⟩
  obtain ⟨ρ, G, v, -, -, hH, r0, r1, -, -⟩ := fl_cut hD h hc hp
  obtain ⟨b1, b0, b2⟩ := bl_pos hL
  have u1 : L * 2 ^ lz < 2 ^ (bl L + lz) := by rw [Int.pow_add]; exact Int.mul_lt_mul_of_pos_right b1 (two_pow_pos lz)
  have u2 : (2 : Int) ^ (bl L - 1 + lz) ≤ L * 2 ^ lz := by rw [Int.pow_add]; exact Int.mul_le_mul_of_nonneg_right b2 (Int.le_of_lt (two_pow_pos lz))
  have t1 : (m + 1) * 2 ^ p ≤ 2 ^ (53 + p) := by
    rw [Int.pow_add]
    exact Int.mul_le_mul_of_nonneg_right (by have : (2 : Int) ^ 53 = 9007199254740992 := by decide
                                             omega) (Int.le_of_lt (two_pow_pos p))
  have f1 : (m + 1) * 2 ^ p = m * 2 ^ p + 2 ^ p := by rw [Int.add_mul, Int.one_mul]
  have k1 : bl L - 1 + lz < 53 + p := pow_lt (by omega)
  unfold canW
  rcases st with st | st
  · omega
  · have t2 : (2 : Int) ^ (52 + p) ≤ m * 2 ^ p := by
      rw [Int.pow_add]
      exact Int.mul_le_mul_of_nonneg_right (by have : (2 : Int) ^ 52 = 4503599627370496 := by decide
                                               omega) (Int.le_of_lt (two_pow_pos p))
    have k2 : 52 + p < bl L + lz := pow_lt (by omega)
    omega
theorem rnd_w {N D e m q L E : Int} {lz p : Nat} (neg : Bool) (way : Int) (hD : 0 < D) (h : Fl N D e m q) (hc : N * 2 ^ (-E).toNat = D * (L * 2 ^ E.toNat)) (hp : (p : Int) = e - E + lz) (p1 : 1 ≤ p) : rnd neg way m q (D * 2 ^ e.toNat) = (cutF (L * 2 ^ lz) p false neg way).1 := by
  obtain ⟨ρ, G, v, hG, hv, hH, r0, r1, hq, hd⟩ := fl_cut hD h hc hp
  obtain ⟨d1, d2⟩ := div_of hH r0 r1
  rw [cut_rnd _ p1, d1, d2]
  exact rnd_scale hG hv hq hd
/-- The exponent of what is rounded. -/
def canS (L E : Int) : Int := max (E + bl L - 24) (-149)
theorem can_s {N D e m q L E : Int} (hL : 0 < L) (hD : 0 < D) (h : Fl N D e m q) (hc : N * 2 ^ (-E).toNat = D * (L * 2 ^ E.toNat)) (m0 : 0 ≤ m) (m1 : m < 16777216) (e0 : -149 ≤ e) (st : e = -149 ∨ 8388608 ≤ m) : e = canS L E := by
  obtain ⟨lz, p, hp⟩ : ∃ lz p : Nat, (p : Int) = e - E + lz := ⟨(E - e).toNat, (e - E).toNat, by omega⟩
  obtain ⟨ρ, G, v, -, -, hH, r0, r1, -, -⟩ := fl_cut hD h hc hp
  obtain ⟨b1, b0, b2⟩ := bl_pos hL
  have u1 : L * 2 ^ lz < 2 ^ (bl L + lz) := by rw [Int.pow_add]; exact Int.mul_lt_mul_of_pos_right b1 (two_pow_pos lz)
  have u2 : (2 : Int) ^ (bl L - 1 + lz) ≤ L * 2 ^ lz := by rw [Int.pow_add]; exact Int.mul_le_mul_of_nonneg_right b2 (Int.le_of_lt (two_pow_pos lz))
  have t1 : (m + 1) * 2 ^ p ≤ 2 ^ (24 + p) := by
    rw [Int.pow_add]
    exact Int.mul_le_mul_of_nonneg_right (by have : (2 : Int) ^ 24 = 16777216 := by decide
                                             omega) (Int.le_of_lt (two_pow_pos p))
  have f1 : (m + 1) * 2 ^ p = m * 2 ^ p + 2 ^ p := by rw [Int.add_mul, Int.one_mul]
  have k1 : bl L - 1 + lz < 24 + p := pow_lt (by omega)
  unfold canS
  rcases st with st | st
  · omega
  · have t2 : (2 : Int) ^ (23 + p) ≤ m * 2 ^ p := by
      rw [Int.pow_add]
      exact Int.mul_le_mul_of_nonneg_right (by have : (2 : Int) ^ 23 = 8388608 := by decide
                                               omega) (Int.le_of_lt (two_pow_pos p))
    have k2 : 23 + p < bl L + lz := pow_lt (by omega)
    omega
theorem rnd_s {N D e m q L E : Int} {lz p : Nat} (neg : Bool) (way : Int) (hD : 0 < D) (h : Fl N D e m q) (hc : N * 2 ^ (-E).toNat = D * (L * 2 ^ E.toNat)) (hp : (p : Int) = e - E + lz) (p1 : 1 ≤ p) : rnd neg way m q (D * 2 ^ e.toNat) = (cutF (L * 2 ^ lz) p false neg way).1 := by
  obtain ⟨ρ, G, v, hG, hv, hH, r0, r1, hq, hd⟩ := fl_cut hD h hc hp
  obtain ⟨d1, d2⟩ := div_of hH r0 r1
  rw [cut_rnd _ p1, d1, d2]
  exact rnd_scale hG hv hq hd
theorem bl_le64 {L : Int} (h0 : 0 < L) (h1 : L < 18446744073709551616) : 1 ≤ bl L ∧ bl L ≤ 64 := by
  obtain ⟨b1, b0, b2⟩ := bl_pos h0
  refine ⟨b0, ?_⟩
  have : bl L - 1 < 64 := pow_lt (by have : (2 : Int) ^ 64 = 18446744073709551616 := by decide
                                     omega)
  omega
end Go.Proofs.Ytlngkonmalallaa.L

namespace Go.Proofs.Ytlngkonmalallaa.L
open Go.RowKit Tl

set_option maxRecDepth 100000 in
theorem Mode_yes (way : Int) (h1 : 1 ≤ way) (h2 : way ≤ 6) (w : World) : Calls Try.prog 66 #[.int .i64 way] w fun e w' => e = .returned (.bool true) ∧ w' = w := by
  go_enter Try.func66, Try.ntmps66
  go_wp2
  go_ret
  exact ⟨rfl, rfl⟩
set_option maxRecDepth 100000 in
theorem Mode_low (way : Int) (h1 : way < 1) (w : World) : Calls Try.prog 66 #[.int .i64 way] w fun e w' => e = .returned (.bool false) ∧ w' = w := by
  have h : ¬ 1 ≤ way := by omega
  go_enter Try.func66, Try.ntmps66
  go_wp2
  go_ret
  exact ⟨rfl, rfl⟩
set_option maxRecDepth 100000 in
theorem Mode_high (way : Int) (h1 : 6 < way) (w : World) : Calls Try.prog 66 #[.int .i64 way] w fun e w' => e = .returned (.bool false) ∧ w' = w := by
  have h : 1 ≤ way := by omega
  have h2 : ¬ way ≤ 6 := by omega
  go_enter Try.func66, Try.ntmps66
  go_wp2
  go_ret
  exact ⟨rfl, rfl⟩
set_option maxHeartbeats 1600000 in
set_option maxRecDepth 100000 in
theorem Of_pos (n : Int) (n0 : 0 ≤ n) (n1 : n < 9223372036854775808) (w : World) :
    Calls Try.prog 85 #[.int .i64 n] w fun e w' => ∃ u1 u2 ns, e = .returned (.agg #[.bool false, u1, u2]) ∧ Rd w' u1 ns ∧ Nm ns ∧ val ns = n ∧ Rd w' u2 [1] ∧ Below w.heap.size w w' := by
  have hz : ¬ n < 0 := by omega
  have K0 := Blk.new w #[.bool false, .slice none 0 0, .slice none 0 0] 104
  have pr : Below w.heap.size w (w.alloc (.cells #[.bool false, .slice none 0 0, .slice none 0 0] 104)) := (Below.refl _ _).alloc (Nat.le_refl _) _
  go_enter Try.func85, Try.ntmps85
  go_wp2_with (first
    | (go_at_call 122; (refine (NatOf_any (n) _ (by omega) (by omega)).mono ?_); (rintro x w1 ⟨u, ns, rfl, hu, nu, vu, b1⟩; have VU : Hid (val ns = n) := vu; clear vu; replace K0 := (K0.below b1 K0.lt).alloc (.cells #[.int .i64 1] 3); replace pr := (bel pr b1); have pr2 := pr.alloc pr.size (.cells #[.int .i64 1] 3); replace hu := hu.grow ((Below.refl _ _).alloc (Nat.le_refl _) (.cells #[.int .i64 1] 3)); have ho : Rd (w1.alloc (.cells #[.int .i64 1] 3)) (.slice (some ⟨w1.heap.size, 0, none⟩) 1 1) [1] := rd_one (by simp) (by decide) (by decide); have e0 : (w1.alloc (.cells #[.int .i64 1] 3)).cell? ⟨w.heap.size, 0, none⟩ = some (.bool false) := K0.at 0; have e1 : (w1.alloc (.cells #[.int .i64 1] 3)).cell? ⟨w.heap.size, 1, none⟩ = some (.slice none 0 0) := K0.at 1; have e2 : (w1.alloc (.cells #[.int .i64 1] 3)).cell? ⟨w.heap.size, 2, none⟩ = some (.slice none 0 0) := K0.at 2; have z0 := K0.free 0; have z1 := K0.free 1; have z2 := K0.free 2; obtain ⟨a1, c1, rfl⟩ : ∃ a c, u = .slice a ns.length c := (by obtain ⟨_, a, c, e, _⟩ := hu; exact ⟨a, c, e⟩)))
    | fail)
  obtain ⟨F0, F1, F2, FB⟩ := put3 (.bool false) (.slice a1 ns.length c1) (.slice (some ⟨w1.heap.size, 0, none⟩) 1 1) e0 e1 e2
  exact bodyPost_ret (v := .agg #[.bool false, .slice a1 ns.length c1, .slice (some ⟨w1.heap.size, 0, none⟩) 1 1]) (by simp [results, Try.results85, go_sem, F0, F1, F2]) rfl ⟨_, _, ns, rfl, hu.putQ K0, nu, VU.out, ho.putQ K0, FB _ _ (Nat.le_refl _) pr2⟩
set_option maxHeartbeats 1600000 in
set_option maxRecDepth 100000 in
theorem Of_neg (n : Int) (n0 : n < 0) (n1 : -9223372036854775808 ≤ n) (w : World) :
    Calls Try.prog 85 #[.int .i64 n] w fun e w' => ∃ u1 u2 ns, e = .returned (.agg #[.bool true, u1, u2]) ∧ Rd w' u1 ns ∧ Nm ns ∧ val ns = -n ∧ Rd w' u2 [1] ∧ Below w.heap.size w w' := by
  have c1 : IntKind.u64.wrap n = n + 18446744073709551616 := by rw [IntKind.wrap_u64]; omega
  have c2 : IntKind.u64.wrap (-(n + 18446744073709551616)) = -n := by rw [IntKind.wrap_u64]; omega
  have K0 := Blk.new w #[.bool false, .slice none 0 0, .slice none 0 0] 104
  have pr : Below w.heap.size w (w.alloc (.cells #[.bool false, .slice none 0 0, .slice none 0 0] 104)) := (Below.refl _ _).alloc (Nat.le_refl _) _
  go_enter Try.func85, Try.ntmps85
  go_wp2_with (first
    | (go_at_call 110; (refine (NatOf64_any (-n) _ (by omega) (by omega)).mono ?_); (rintro x w1 ⟨u, ns, rfl, hu, nu, vu, b1⟩; have VU : Hid (val ns = -n) := vu; clear vu; replace K0 := (K0.below b1 K0.lt).alloc (.cells #[.int .i64 1] 3); replace pr := (bel pr b1); have pr2 := pr.alloc pr.size (.cells #[.int .i64 1] 3); replace hu := hu.grow ((Below.refl _ _).alloc (Nat.le_refl _) (.cells #[.int .i64 1] 3)); have ho : Rd (w1.alloc (.cells #[.int .i64 1] 3)) (.slice (some ⟨w1.heap.size, 0, none⟩) 1 1) [1] := rd_one (by simp) (by decide) (by decide); have e0 : (w1.alloc (.cells #[.int .i64 1] 3)).cell? ⟨w.heap.size, 0, none⟩ = some (.bool false) := K0.at 0; have e1 : (w1.alloc (.cells #[.int .i64 1] 3)).cell? ⟨w.heap.size, 1, none⟩ = some (.slice none 0 0) := K0.at 1; have e2 : (w1.alloc (.cells #[.int .i64 1] 3)).cell? ⟨w.heap.size, 2, none⟩ = some (.slice none 0 0) := K0.at 2; have z0 := K0.free 0; have z1 := K0.free 1; have z2 := K0.free 2; obtain ⟨a1, c1, rfl⟩ : ∃ a c, u = .slice a ns.length c := (by obtain ⟨_, a, c, e, _⟩ := hu; exact ⟨a, c, e⟩)))
    | fail)
  obtain ⟨F0, F1, F2, FB⟩ := put3 (.bool true) (.slice a1 ns.length c1) (.slice (some ⟨w1.heap.size, 0, none⟩) 1 1) e0 e1 e2
  exact bodyPost_ret (v := .agg #[.bool true, .slice a1 ns.length c1, .slice (some ⟨w1.heap.size, 0, none⟩) 1 1]) (by simp [results, Try.results85, go_sem, F0, F1, F2]) rfl ⟨_, _, ns, rfl, hu.putQ K0, nu, VU.out, ho.putQ K0, FB _ _ (Nat.le_refl _) pr2⟩
end Go.Proofs.Ytlngkonmalallaa.L

namespace Go.Proofs.Ytlngkonmalallaa.L
open Go.RowKit Tl

theorem nm_len64 {ns : List Int} (h : Wd ns) (n : Nm ns) (hm : val ns < 18446744073709551616) : ns.length ≤ 3 := by
  by_cases c : ns.length ≤ 3
  · exact c
  · have := val_low h n (by intro e; rw [e] at c; simp at c)
    have := pw_mono (show 3 ≤ ns.length - 1 by omega)
    have : pw 3 = 1237940039285380274899124224 := by decide
    omega
/-- Q's Sign of nought. -/
theorem Sign_zero (neg : Bool) (a1 a2 : Option Addr) (c1 n2 c2 : Nat) (w : World) :
    Calls Try.prog 103 #[.agg #[.bool neg, .slice a1 0 c1, .slice a2 n2 c2]] w fun e w' => e = .returned (.int .i64 0) ∧ Below w.heap.size w w' := by
  go_enter Try.func103, Try.ntmps103
  go_wp2
  go_ret
  exact ⟨rfl, (Below.refl _ _).alloc (Nat.le_refl _) _⟩
set_option maxHeartbeats 1600000 in
set_option maxRecDepth 100000 in
/-- Rounded of nought. -/
theorem Rounded_zero (P Lo Hi Fr : Int) (neg : Bool) (a1 a2 : Option Addr) (c1 n2 c2 : Nat) (way : Int) (w : World) :
    Calls Try.prog 67 #[.agg #[.int .i64 P, .int .i64 Lo, .int .i64 Hi, .int .i64 Fr], .agg #[.bool neg, .slice a1 0 c1, .slice a2 n2 c2], .int .i64 way] w fun e w' => e = .returned (.tuple #[.int .u64 0, .bool false]) ∧ Below w.heap.size w w' := by
  have pr : Below w.heap.size w ((w.alloc (.cells #[.int .i64 P, .int .i64 Lo, .int .i64 Hi, .int .i64 Fr] 31)).alloc (.cells #[.bool neg, .slice a1 0 c1, .slice a2 n2 c2] 104)) := ((Below.refl _ _).alloc (Nat.le_refl _) _).alloc (by simp) _
  go_enter Try.func67, Try.ntmps67
  go_wp2_with (first
    | (go_at_call 103; refine (Sign_zero neg a1 a2 c1 n2 c2 _).mono ?_; rintro r w1 ⟨rfl, bb⟩; replace pr := bel pr bb)
    | fail)
  exact bodyPost_ret (v := .tuple #[.int .u64 0, .bool false]) (by simp [results, Try.results67, go_sem]) rfl ⟨rfl, pr⟩
set_option maxHeartbeats 1600000 in
set_option maxRecDepth 100000 in
/-- The reference's OfInt, by a way that is none. -/
theorem ROfInt_no (n way : Int) (M : ∀ w, Calls Try.prog 66 #[.int .i64 way] w fun e w' => e = .returned (.bool false) ∧ w' = w) (w : World) :
    Calls Try.prog 40 #[.int .i64 n, .int .i64 way] w fun e w' => e = .returned (.tuple #[.int .u64 0, .int .i64 1]) ∧ Below w.heap.size w w' := by
  go_enter Try.func40, Try.ntmps40
  go_wp2_with (first
    | (go_at_call 66; refine (M _).mono ?_; rintro x w1 ⟨rfl, rfl⟩)
    | fail)
  exact bodyPost_ret (v := .tuple #[.int .u64 0, .int .i64 1]) (by simp [results, Try.results40, go_sem]) rfl ⟨rfl, Below.refl _ _⟩
set_option maxHeartbeats 1600000 in
set_option maxRecDepth 100000 in
/-- The reference's OfInt: of a number that is not nought, whose size is S. -/
theorem ROfInt_some (n way S : Int) (neg : Bool) (S0 : 0 < S) (S1 : S < 18446744073709551616) (M : ∀ w, Calls Try.prog 66 #[.int .i64 way] w fun e w' => e = .returned (.bool true) ∧ w' = w)
    (O : ∀ w, Calls Try.prog 85 #[.int .i64 n] w fun e w' => ∃ u1 u2 ns, e = .returned (.agg #[.bool neg, u1, u2]) ∧ Rd w' u1 ns ∧ Nm ns ∧ val ns = S ∧ Rd w' u2 [1] ∧ Below w.heap.size w w') (w : World) :
    Calls Try.prog 40 #[.int .i64 n, .int .i64 way] w fun r w' => ∃ e m q : Int, Fl S 1 e m q ∧ 0 ≤ m ∧ m < 9007199254740992 ∧ -1074 ≤ e ∧ (e = -1074 ∨ 4503599627370496 ≤ m) ∧ r = .returned (.tuple #[.int .u64 (laidW neg (rnd neg way m q (1 * 2 ^ e.toNat)) e way).1, .int .i64 0]) ∧ Below w.heap.size w w' := by
  have pr := Below.refl w.heap.size w
  have HS0 : Hid (0 < S) := S0
  go_enter Try.func40, Try.ntmps40
  go_wp2_with (first
    | (go_at_call 66; refine (M _).mono ?_; rintro x w1 ⟨rfl, rfl⟩)
    | (go_at_call 11; refine (Wide_any _).mono ?_; rintro x w2 ⟨rfl, b2⟩; replace pr := bel pr b2; clear b2)
    | (go_at_call 85; (refine (O _).mono ?_); (rintro x w3 ⟨u1, u2, ns, rfl, h1, n1, v1, h2, b3⟩; have V1 : Hid (val ns = S) := v1; clear v1; have ll : ns.length ≤ 3 := (by have h9 := nm_len64 h1.1 n1 (by rw [V1.out]; exact S1); exact h9); replace pr := bel pr b3; clear b3))
    | (go_at_call 67; (refine (Rounded_w_any neg _ _ ns [1] way _ h1 h2 n1 nm_one (by omega) (by decide) (by rw [V1.out]; exact HS0.out) (by rw [val_one]; decide)).mono ?_); (rintro x w4 ⟨e, m, q, fl, m0, m1, e0, st, rfl, b4⟩; replace pr := bel pr b4; clear b4))
    | fail)
  rw [V1.out, val_one] at fl
  exact bodyPost_ret (v := .tuple #[.int .u64 (laidW neg (rnd neg way m q (val [1] * 2 ^ e.toNat)) e way).1, .int .i64 0]) (by simp [results, Try.results40, go_sem]) rfl ⟨e, m, q, fl, m0, m1, e0, st, by rw [val_one], pr⟩
end Go.Proofs.Ytlngkonmalallaa.L

namespace Tn
open Go

theorem fmt64 : FloatKind.f64.format = Ieee.double := rfl
/-- The sign bit, as a test. -/
def ng64 (n : Nat) : Bool := n / 9223372036854775808 % 2 == 1
/-- The bits below it. -/
def rg64 (n : Nat) : Nat := n % 9223372036854775808
theorem read64 (n : Nat) : Ieee.double.read n = if rg64 n < 4503599627370496 then .number (ng64 n) (rg64 n) (-1074)
    else if rg64 n < 9218868437227405312 then .number (ng64 n) (4503599627370496 + rg64 n % 4503599627370496) (-1074 + ((rg64 n / 4503599627370496 - 1 : Nat) : Int))
    else if rg64 n = 9218868437227405312 then .infinity (ng64 n) else .nan (ng64 n) (rg64 n - 9218868437227405312) := rfl
/-- It is none. -/
def nan64 (n : Nat) : Bool := decide (9218868437227405312 < rg64 n)
theorem order_self (n : Nat) : (FloatKind.f64.format.order n n != some .eq) = nan64 n := by
  rw [fmt64]
  unfold Ieee.Format.order nan64
  rw [read64]
  split
  · have e : decide (9218868437227405312 < rg64 n) = false := by rw [decide_eq_false_iff_not]; omega
    rw [e]; simp [Ieee.Datum.order]
  · split
    · have e : decide (9218868437227405312 < rg64 n) = false := by rw [decide_eq_false_iff_not]; omega
      rw [e]; simp [Ieee.Datum.order]
    · split
      · have e : decide (9218868437227405312 < rg64 n) = false := by rw [decide_eq_false_iff_not]; omega
        rw [e]; simp [Ieee.Datum.order]
      · have e : decide (9218868437227405312 < rg64 n) = true := by rw [decide_eq_true_eq]; omega
        rw [e]; simp [Ieee.Datum.order]
theorem cmp_int (a b : Int) : compare a b = if a < b then .lt else if a = b then .eq else .gt := rfl
theorem cmp_zero (s : Bool) (m k : Nat) : compare (Ieee.signed s m k) (Ieee.signed false 0 0) = if m = 0 then .eq else if s = true then .lt else .gt := by
  have hp : 0 < m → 0 < m <<< k := by intro h; rw [Nat.shiftLeft_eq]; exact Nat.mul_pos h (Nat.two_pow_pos k)
  unfold Ieee.signed
  by_cases hm : m = 0
  · subst hm; cases s <;> simp [Nat.zero_shiftLeft]
  · have := hp (by omega)
    generalize m <<< k = x at this
    rw [cmp_int, Nat.zero_shiftLeft]
    cases s
    · rw [if_neg (by simp), if_neg (by simp; omega), if_neg hm, if_neg (by simp)]
    · rw [if_pos (by simp; omega), if_neg hm, if_pos rfl]
theorem order_0 (n : Nat) (h : nan64 n = false) : FloatKind.f64.format.order n 0 = some (if rg64 n = 0 then .eq else if ng64 n = true then .lt else .gt) := by
  rw [fmt64]
  unfold Ieee.Format.order
  simp only [nan64, decide_eq_false_iff_not] at h
  rw [show Ieee.double.read 0 = .number false 0 (-1074) from rfl, read64 n]
  split
  · simp only [Ieee.Datum.order]
    rw [show min (-1074 : Int) (-1074) = -1074 from rfl, show ((-1074 : Int) - -1074).toNat = 0 from rfl, cmp_zero]
  · split
    · simp only [Ieee.Datum.order]
      rw [show ∀ x : Nat, min (-1074 + (x : Int)) (-1074) = -1074 from fun x => by omega, show ((-1074 : Int) - -1074).toNat = 0 from rfl, cmp_zero]
      simp only [show ¬ (4503599627370496 + rg64 n % 4503599627370496 = 0) from by omega, show ¬ (rg64 n = 0) from by omega, if_false]
    · split
      · simp only [Ieee.Datum.order, show ¬ (rg64 n = 0) from by omega, if_false]
      · exfalso; omega
theorem order_max (n : Nat) (h : nan64 n = false) : (FloatKind.f64.format.order n 9218868437227405311 == some .gt) = decide (n % 18446744073709551616 = 9218868437227405312) := by
  rw [fmt64]
  unfold Ieee.Format.order
  simp only [nan64, decide_eq_false_iff_not] at h
  rw [show Ieee.double.read 9218868437227405311 = .number false 9007199254740991 971 from rfl, read64 n]
  have key : ∀ (s : Bool) (m : Nat) (i : Int), m ≤ 9007199254740991 → i ≤ 971 → compare (Ieee.signed s m (i - min i 971).toNat) (Ieee.signed false 9007199254740991 (971 - min i 971).toNat) ≠ .gt := by
    intro s m i hm hi
    rw [show min i 971 = i from by omega, show (i - i).toNat = 0 from by omega]
    have hp : 9007199254740991 ≤ 9007199254740991 <<< (971 - i).toNat := by rw [Nat.shiftLeft_eq]; exact Nat.le_mul_of_pos_right _ (Nat.two_pow_pos _)
    unfold Ieee.signed
    generalize 9007199254740991 <<< (971 - i).toNat = y at hp
    rw [Nat.shiftLeft_zero, cmp_int, if_neg (show ¬ (false = true) by simp)]
    cases s
    · rw [if_neg (show ¬ (false = true) by simp)]
      split
      · simp
      · split
        · simp
        · exfalso; omega
    · rw [if_pos rfl]
      split
      · simp
      · split
        · simp
        · exfalso; omega
  have sn : rg64 n = n % 9223372036854775808 := rfl
  split
  · have e : decide (n % 18446744073709551616 = 9218868437227405312) = false := by rw [decide_eq_false_iff_not]; omega
    rw [e]
    have k := key (ng64 n) (rg64 n) (-1074) (by omega) (by omega)
    simpa [Ieee.Datum.order] using k
  · split
    · have e : decide (n % 18446744073709551616 = 9218868437227405312) = false := by rw [decide_eq_false_iff_not]; omega
      rw [e]
      have k := key (ng64 n) (4503599627370496 + rg64 n % 4503599627370496) (-1074 + ((rg64 n / 4503599627370496 - 1 : Nat) : Int)) (by omega) (by omega)
      simpa [Ieee.Datum.order] using k
    · split
      · simp only [Ieee.Datum.order]
        have g : ng64 n = (n / 9223372036854775808 % 2 == 1) := rfl
        cases hg : ng64 n
        · rw [hg] at g
          have e : decide (n % 18446744073709551616 = 9218868437227405312) = true := by
            rw [decide_eq_true_eq]
            have := g.symm
            simp at this
            omega
          rw [e]; rfl
        · rw [hg] at g
          have e : decide (n % 18446744073709551616 = 9218868437227405312) = false := by
            rw [decide_eq_false_iff_not]
            have := g.symm
            simp at this
            omega
          rw [e]; rfl
      · exfalso; omega
end Tn

namespace Go.Proofs.Ytlngkonmalallaa
open Go.RowKit Tn

set_option maxRecDepth 100000 in
theorem IsNaN_any (n : Nat) (w : World) : Calls Try.prog 69 #[.float .f64 n] w fun x w' => x = .returned (.bool (nan64 n)) ∧ w' = w := by
  have h := order_self n
  generalize nan64 n = t at h
  go_enter Try.func69, Try.ntmps69
  go_wp2
  go_ret
  exact ⟨rfl, rfl⟩
set_option maxRecDepth 100000 in
theorem IsInf_up (n : Nat) (h : nan64 n = false) (w : World) : Calls Try.prog 70 #[.float .f64 n, .int .i64 1] w fun x w' => x = .returned (.bool (decide (n % 18446744073709551616 = 9218868437227405312))) ∧ w' = w := by
  have h := order_max n h
  generalize decide (n % 18446744073709551616 = 9218868437227405312) = t at h
  go_enter Try.func70, Try.ntmps70
  go_wp2
  go_ret
  exact ⟨rfl, rfl⟩
theorem sign_wrap (n : Nat) (hn : n < 18446744073709551616) : decide (IntKind.i64.wrap (n : Int) < 0) = ng64 n := by
  unfold ng64
  rw [Bool.eq_iff_iff, decide_eq_true_iff, beq_iff_eq]
  simp [IntKind.wrap, IntKind.bits, IntKind.signed]
  omega
set_option maxRecDepth 100000 in
theorem Signbit_any (n : Nat) (hn : n < 18446744073709551616) (w : World) : Calls Try.prog 74 #[.float .f64 n] w fun x w' => x = .returned (.bool (ng64 n)) ∧ w' = w := by
  have h := sign_wrap n hn
  have hb := f64bits n w
  generalize ng64 n = t at h
  generalize hx : IntKind.i64.wrap (n : Int) = s at h
  go_enter Try.func74, Try.ntmps74
  go_wp2
  go_ret
  exact ⟨rfl, rfl⟩
theorem andNot_sign (n : Nat) (hn : n < 18446744073709551616) : bits .andNot .u64 (n : Int) 9223372036854775808 = (rg64 n : Int) := by
  unfold rg64
  by_cases h : 9223372036854775808 ≤ n
  · have e := bits_andNot_pow n 9223372036854775808 63 (by decide) (by decide) h (by omega)
    rw [show ((9223372036854775808 : Nat) : Int) = 9223372036854775808 from rfl] at e
    rw [e]; omega
  · have a1 : (BitVec.ofInt 64 (n : Int)).toNat = n := by
      rw [BitVec.ofInt_natCast, BitVec.toNat_ofNat]; exact Nat.mod_eq_of_lt (by omega)
    have a2 : ~~~ BitVec.ofInt 64 (9223372036854775808 : Int) = BitVec.ofNat 64 9223372036854775807 := by decide
    show IntKind.u64.wrap ((BitVec.ofInt 64 (n : Int) &&& ~~~ BitVec.ofInt 64 (9223372036854775808 : Int)).toNat : Int) = _
    rw [a2, BitVec.toNat_and, a1, show (BitVec.ofNat 64 9223372036854775807).toNat = 2 ^ 63 - 1 from by decide, Nat.and_two_pow_sub_one_eq_mod, IntKind.wrap_u64]
    omega
set_option maxRecDepth 100000 in
theorem size_any (n : Nat) (hn : n < 18446744073709551616) (w : World) : Calls Try.prog 75 #[.float .f64 n] w fun x w' => x = .returned (.int .u64 (rg64 n)) ∧ w' = w := by
  have h := andNot_sign n hn
  have hb := f64bits n w
  generalize rg64 n = t at h
  go_enter Try.func75, Try.ntmps75
  go_wp2
  go_ret
  exact ⟨rfl, rfl⟩
/-- The place in the total order. -/
def rank64 (n : Nat) : Int := if nan64 n = true then 9223372036854775807 else if ng64 n = true then -1 - (rg64 n : Int) else rg64 n
theorem rg64_lt (n : Nat) : rg64 n < 9223372036854775808 := Nat.mod_lt _ (by decide)
set_option maxRecDepth 100000 in
theorem rank_any (n : Nat) (hn : n < 18446744073709551616) (w : World) : Calls Try.prog 72 #[.float .f64 n] w fun x w' => x = .returned (.int .i64 (rank64 n)) ∧ w' = w := by
  have N := IsNaN_any n
  have S := Signbit_any n hn
  have Z := size_any n hn
  have r := rg64_lt n
  unfold rank64
  have hx : IntKind.i64.wrap (rg64 n : Int) = (rg64 n : Int) := w64 _ (by omega) (by omega)
  have hy : IntKind.i64.wrap (-1 - (rg64 n : Int)) = -1 - (rg64 n : Int) := w64 _ (by omega) (by omega)
  generalize rg64 n = z at *
  cases hn1 : nan64 n <;> cases hs1 : ng64 n <;> rw [hn1] at N <;> rw [hs1] at S <;> simp only [if_true, if_false, Bool.false_eq_true]
  all_goals
    go_enter Try.func72, Try.ntmps72
    go_wp2_with (first
      | (go_at_call 69; refine (N _).mono ?_; rintro x w1 ⟨rfl, rfl⟩)
      | (go_at_call 74; refine (S _).mono ?_; rintro x w1 ⟨rfl, rfl⟩)
      | (go_at_call 75; refine (Z _).mono ?_; rintro x w1 ⟨rfl, rfl⟩)
      | fail)
    go_ret
    exact ⟨rfl, rfl⟩
/-- What stands above. -/
def up64 (n : Nat) : Nat := if nan64 n = true then n else if n = 9218868437227405312 then n else if rg64 n = 0 then 1 else if ng64 n = true then n - 1 else n + 1
set_option maxRecDepth 100000 in
theorem Up_any (n : Nat) (hn : n < 18446744073709551616) (w : World) : Calls Try.prog 25 #[.float .f64 n] w fun x w' => x = .returned (.float .f64 (up64 n)) ∧ w' = w := by
  have N := IsNaN_any n
  unfold up64
  by_cases hn1 : nan64 n = true
  · rw [hn1] at N
    rw [if_pos hn1]
    go_enter Try.func25, Try.ntmps25
    go_wp2_with (first
      | (go_at_call 69; refine (N _).mono ?_; rintro x w1 ⟨rfl, rfl⟩)
      | fail)
    go_ret
    exact ⟨rfl, rfl⟩
  rw [if_neg hn1]
  have hn2 : nan64 n = false := by simpa using hn1
  have I := IsInf_up n hn2
  rw [hn2] at N
  by_cases i1 : n = 9218868437227405312
  · rw [if_pos i1]
    have i2 : decide (n % 18446744073709551616 = 9218868437227405312) = true := by rw [decide_eq_true_eq]; omega
    rw [i2] at I
    clear i1 i2
    go_enter Try.func25, Try.ntmps25
    go_wp2_with (first
      | (go_at_call 69; refine (N _).mono ?_; rintro x w1 ⟨rfl, rfl⟩)
      | (go_at_call 70; refine (I _).mono ?_; rintro x w1 ⟨rfl, rfl⟩)
      | fail)
    go_ret
    exact ⟨rfl, rfl⟩
  rw [if_neg i1]
  have i2 : decide (n % 18446744073709551616 = 9218868437227405312) = false := by rw [decide_eq_false_iff_not]; omega
  rw [i2] at I
  have O := order_0 n hn2
  by_cases z1 : rg64 n = 0
  · rw [if_pos z1] at O ⊢
    have o1 : (FloatKind.f64.format.order n 0 == some .eq) = true := by rw [O]; rfl
    have hb : ∀ w, (callFunc 10 #[.int .u64 1]).run Try.prog w = .ok (.value (.float .f64 1)) w := f64frombits 1
    go_enter Try.func25, Try.ntmps25
    go_wp2_with (first
      | (go_at_call 69; refine (N _).mono ?_; rintro x w1 ⟨rfl, rfl⟩)
      | (go_at_call 70; refine (I _).mono ?_; rintro x w1 ⟨rfl, rfl⟩)
      | fail)
    go_ret
    exact ⟨rfl, rfl⟩
  rw [if_neg z1] at O ⊢
  have r0 := rg64_lt n
  have rn : rg64 n = n % 9223372036854775808 := rfl
  by_cases s1 : ng64 n = true
  · rw [if_pos s1] at O ⊢
    have o1 : (FloatKind.f64.format.order n 0 == some .eq) = false := by rw [O]; rfl
    have o2 : (FloatKind.f64.format.order n 0 == some .lt) = true := by rw [O]; rfl
    have hb := f64bits n
    obtain ⟨m, hm⟩ : ∃ m, m = n - 1 := ⟨_, rfl⟩
    rw [← hm]
    have hw : IntKind.u64.wrap ((n : Int) - 1) = (m : Int) := by rw [wu64 _ (by omega) (by omega)]; omega
    have hc := f64frombits m
    clear hm
    go_enter Try.func25, Try.ntmps25
    go_wp2_with (first
      | (go_at_call 69; refine (N _).mono ?_; rintro x w1 ⟨rfl, rfl⟩)
      | (go_at_call 70; refine (I _).mono ?_; rintro x w1 ⟨rfl, rfl⟩)
      | fail)
    go_ret
    exact ⟨rfl, rfl⟩
  · rw [if_neg s1] at O ⊢
    have o1 : (FloatKind.f64.format.order n 0 == some .eq) = false := by rw [O]; rfl
    have o2 : (FloatKind.f64.format.order n 0 == some .lt) = false := by rw [O]; rfl
    have s2 : n / 9223372036854775808 % 2 ≠ 1 := by unfold ng64 at s1; simpa using s1
    have hb := f64bits n
    obtain ⟨m, hm⟩ : ∃ m, m = n + 1 := ⟨_, rfl⟩
    rw [← hm]
    have hw : IntKind.u64.wrap ((n : Int) + 1) = (m : Int) := by rw [wu64 _ (by omega) (by omega)]; omega
    have hc := f64frombits m
    clear hm
    go_enter Try.func25, Try.ntmps25
    go_wp2_with (first
      | (go_at_call 69; refine (N _).mono ?_; rintro x w1 ⟨rfl, rfl⟩)
      | (go_at_call 70; refine (I _).mono ?_; rintro x w1 ⟨rfl, rfl⟩)
      | fail)
    go_ret
    exact ⟨rfl, rfl⟩
end Go.Proofs.Ytlngkonmalallaa

namespace Go.Proofs.Ytlngkonmalallaa
open Go.RowKit Tn

/-- The sign bit turned. -/
def flip64 (n : Nat) : Nat := n ^^^ 9223372036854775808
theorem flip_lt (n : Nat) (h : n < 18446744073709551616) : flip64 n < 18446744073709551616 := Nat.xor_lt_two_pow (n := 64) (by omega) (by decide)
theorem neg_run (n : Nat) (w : World) : (Op.unary .neg (.float .f64 n)).run Try.prog w = .ok (.float .f64 (flip64 n)) w := rfl
theorem up_lt (n : Nat) (h : n < 18446744073709551616) : up64 n < 18446744073709551616 := by
  unfold up64
  repeat' split
  · omega
  · omega
  · omega
  · omega
  · rename_i a
    have : ¬ (n / 9223372036854775808 % 2 = 1) := by intro e; exact a (by unfold ng64; simp [e])
    omega
set_option maxRecDepth 100000 in
theorem Down_any (n : Nat) (hn : n < 18446744073709551616) (w : World) : Calls Try.prog 27 #[.float .f64 n] w fun x w' => x = .returned (.float .f64 (flip64 (up64 (flip64 n)))) ∧ w' = w := by
  have U := Up_any (flip64 n) (flip_lt n hn)
  have e1 := neg_run n
  have e2 := neg_run (up64 (flip64 n))
  generalize flip64 (up64 (flip64 n)) = z at *
  generalize up64 (flip64 n) = y at *
  generalize flip64 n = x at *
  go_enter Try.func27, Try.ntmps27
  go_wp2_with (first
    | (go_at_call 25; refine (U _).mono ?_; rintro x w1 ⟨rfl, rfl⟩)
    | fail)
  go_ret
  exact ⟨rfl, rfl⟩
/-- -1, 0 or 1. -/
def ord3 (a b : Int) : Int := if a < b then -1 else if b < a then 1 else 0
set_option maxRecDepth 100000 in
theorem Compare_any (a b : Int) (w : World) : Calls Try.prog 71 #[.int .i64 a, .int .i64 b] w fun x w' => x = .returned (.int .i64 (ord3 a b)) ∧ w' = w := by
  unfold ord3
  by_cases h1 : a < b
  · rw [if_pos h1]
    go_enter Try.func71, Try.ntmps71
    go_wp2
    go_ret
    exact ⟨rfl, rfl⟩
  · rw [if_neg h1]
    by_cases h2 : b < a
    · rw [if_pos h2]
      go_enter Try.func71, Try.ntmps71
      go_wp2
      go_ret
      exact ⟨rfl, rfl⟩
    · rw [if_neg h2]
      go_enter Try.func71, Try.ntmps71
      go_wp2
      go_ret
      exact ⟨rfl, rfl⟩
set_option maxRecDepth 100000 in
theorem Order_any (n m : Nat) (hn : n < 18446744073709551616) (hm : m < 18446744073709551616) (w : World) : Calls Try.prog 29 #[.float .f64 n, .float .f64 m] w fun x w' => x = .returned (.int .i64 (ord3 (rank64 n) (rank64 m))) ∧ w' = w := by
  have R1 := rank_any n hn
  have R2 := rank_any m hm
  generalize rank64 n = a at *
  generalize rank64 m = b at *
  have C := Compare_any a b
  generalize ord3 a b = c at *
  go_enter Try.func29, Try.ntmps29
  go_wp2_with (first
    | (go_at_call 72; (with_reducible refine (R1 _).mono ?_); rintro x w1 ⟨rfl, rfl⟩)
    | (go_at_call 72; (with_reducible refine (R2 _).mono ?_); rintro x w1 ⟨rfl, rfl⟩)
    | (go_at_call 71; refine (C _).mono ?_; rintro x w1 ⟨rfl, rfl⟩)
    | fail)
  go_ret
  exact ⟨rfl, rfl⟩
set_option maxRecDepth 100000 in
theorem Same_any (n m : Nat) (hn : n < 18446744073709551616) (hm : m < 18446744073709551616) (w : World) : Calls Try.prog 31 #[.float .f64 n, .float .f64 m] w fun x w' => x = .returned (.bool (ord3 (rank64 n) (rank64 m) == 0)) ∧ w' = w := by
  have C := Order_any n m hn hm
  generalize ord3 (rank64 n) (rank64 m) = c at *
  go_enter Try.func31, Try.ntmps31
  go_wp2_with (first
    | (go_at_call 29; refine (C _).mono ?_; rintro x w1 ⟨rfl, rfl⟩)
    | fail)
  go_ret
  exact ⟨rfl, rfl⟩
/-- How many steps lie between. -/
def steps64 (n m : Nat) : Int := if ng64 n = ng64 m then max (rg64 n : Int) (rg64 m) - min (rg64 n : Int) (rg64 m) else (rg64 n : Int) + rg64 m
set_option maxRecDepth 100000 in
set_option maxHeartbeats 800000 in
theorem Steps_any (n m : Nat) (hn : n < 18446744073709551616) (hm : m < 18446744073709551616) (w : World) : Calls Try.prog 33 #[.float .f64 n, .float .f64 m] w fun x w' => x = .returned (if (nan64 n || nan64 m) = true then .tuple #[.int .u64 0, .bool false] else .tuple #[.int .u64 (steps64 n m), .bool true]) ∧ w' = w := by
  have N1 := IsNaN_any n
  have N2 := IsNaN_any m
  have S1 := Signbit_any n hn
  have S2 := Signbit_any m hm
  have Z1 := size_any n hn
  have Z2 := size_any m hm
  have r1 := rg64_lt n
  have r2 := rg64_lt m
  unfold steps64
  generalize ez1 : rg64 n = z1 at *
  generalize ez2 : rg64 m = z2 at *
  clear ez1 ez2
  have hx : IntKind.u64.wrap ((z1 : Int) + z2) = (z1 : Int) + z2 := wu64 _ (by omega) (by omega)
  have hy : IntKind.u64.wrap (max (z1 : Int) z2 - min (z1 : Int) z2) = max (z1 : Int) z2 - min (z1 : Int) z2 := wu64 _ (by omega) (by omega)
  cases hn1 : nan64 n <;> cases hn2 : nan64 m <;> rw [hn1] at N1 <;> rw [hn2] at N2 <;> cases hs1 : ng64 n <;> cases hs2 : ng64 m <;> rw [hs1] at S1 <;> rw [hs2] at S2 <;> simp only [if_true, if_false, Bool.false_eq_true, Bool.true_eq_false, Bool.or_true, Bool.or_false]
  all_goals
    go_enter Try.func33, Try.ntmps33
    go_wp2_with (first
      | (go_at_call 69; (with_reducible refine (N1 _).mono ?_); rintro x w1 ⟨rfl, rfl⟩)
      | (go_at_call 69; (with_reducible refine (N2 _).mono ?_); rintro x w1 ⟨rfl, rfl⟩)
      | (go_at_call 74; (with_reducible refine (S1 _).mono ?_); rintro x w1 ⟨rfl, rfl⟩)
      | (go_at_call 74; (with_reducible refine (S2 _).mono ?_); rintro x w1 ⟨rfl, rfl⟩)
      | (go_at_call 75; (with_reducible refine (Z1 _).mono ?_); rintro x w1 ⟨rfl, rfl⟩)
      | (go_at_call 75; (with_reducible refine (Z2 _).mono ?_); rintro x w1 ⟨rfl, rfl⟩)
      | fail)
  all_goals
    first
    | exact bodyPost_ret (v := .tuple #[.int .u64 0, .bool false]) (by simp [results, Try.results33, go_sem]) rfl ⟨rfl, rfl⟩
    | exact bodyPost_ret (v := .tuple #[.int .u64 ((z1 : Int) + z2), .bool true]) (by simp [results, Try.results33, go_sem]) rfl ⟨rfl, rfl⟩
    | exact bodyPost_ret (v := .tuple #[.int .u64 0, .bool true]) (by simp [results, Try.results33, go_sem]) rfl ⟨by rw [show max (z1 : Int) z2 - min (z1 : Int) z2 = 0 from by omega], rfl⟩
    | exact bodyPost_ret (v := .tuple #[.int .u64 ((z2 : Int) - z1), .bool true]) (by simp [results, Try.results33, go_sem]) rfl ⟨by rw [show max (z1 : Int) z2 - min (z1 : Int) z2 = (z2 : Int) - z1 from by omega], rfl⟩
    | exact bodyPost_ret (v := .tuple #[.int .u64 ((z1 : Int) - z2), .bool true]) (by simp [results, Try.results33, go_sem]) rfl ⟨by rw [show max (z1 : Int) z2 - min (z1 : Int) z2 = (z1 : Int) - z2 from by omega], rfl⟩
end Go.Proofs.Ytlngkonmalallaa

namespace Go.Proofs.Ytlngkonmalallaa
open Go.RowKit Tn

set_option maxRecDepth 100000 in
set_option maxHeartbeats 1600000 in
theorem Finite_w (n d : Int) (t : Bool) (hd : bits .and .u64 (n / 4503599627370496) 2047 = d) (ht : (d != 2047) = t) (w : World) : Calls Try.prog 77 #[szW, .int .u64 n] w fun e w' => e = .returned (.bool t) ∧ Below w.heap.size w w' := by
  go_enter Try.func77, Try.ntmps77
  go_wp2_with fail
  have K0 := Blk.new w #[.int .i64 53, .int .i64 (-1074), .int .i64 971, .int .i64 52] 31
  have pr : Below w.heap.size w (w.alloc (.cells #[.int .i64 53, .int .i64 (-1074), .int .i64 971, .int .i64 52] 31)) := (Below.refl _ _).alloc (Nat.le_refl _) _
  generalize w.alloc (.cells #[.int .i64 53, .int .i64 (-1074), .int .i64 971, .int .i64 52] 31) = W at *
  have e0 : W.cell? ⟨w.heap.size, 0, none⟩ = some (.int .i64 53) := K0.at 0
  have e1 : W.cell? ⟨w.heap.size, 1, none⟩ = some (.int .i64 (-1074)) := K0.at 1
  have e2 : W.cell? ⟨w.heap.size, 2, none⟩ = some (.int .i64 971) := K0.at 2
  have e3 : W.cell? ⟨w.heap.size, 3, none⟩ = some (.int .i64 52) := K0.at 3
  go_region_held3 (fun x => x.cell? ⟨w.heap.size, 0, none⟩ = some (.int .i64 53) ∧ x.cell? ⟨w.heap.size, 1, none⟩ = some (.int .i64 (-1074)) ∧ x.cell? ⟨w.heap.size, 2, none⟩ = some (.int .i64 971) ∧ x.cell? ⟨w.heap.size, 3, none⟩ = some (.int .i64 52)) (go_keep) (first
    | (go_at_call 54; refine (top_w _).mono ?_; rintro e w1 ⟨rfl, b1⟩; replace K0 := K0.below b1 K0.lt; replace pr := bel pr b1; clear b1; have e0 : w1.cell? ⟨w.heap.size, 0, none⟩ = some (.int .i64 53) := K0.at 0; have e1 : w1.cell? ⟨w.heap.size, 1, none⟩ = some (.int .i64 (-1074)) := K0.at 1; have e2 : w1.cell? ⟨w.heap.size, 2, none⟩ = some (.int .i64 971) := K0.at 2; have e3 : w1.cell? ⟨w.heap.size, 3, none⟩ = some (.int .i64 52) := K0.at 3)
    | (go_at_call 54; refine (top_w _).mono ?_; rintro e w1 ⟨rfl, b1⟩; replace K0 := K0.below (below_undrew b1) K0.lt; replace pr := bel pr (below_undrew b1); clear b1; have e0 : w1.cell? ⟨w.heap.size, 0, none⟩ = some (.int .i64 53) := K0.at 0; have e1 : w1.cell? ⟨w.heap.size, 1, none⟩ = some (.int .i64 (-1074)) := K0.at 1; have e2 : w1.cell? ⟨w.heap.size, 2, none⟩ = some (.int .i64 971) := K0.at 2; have e3 : w1.cell? ⟨w.heap.size, 3, none⟩ = some (.int .i64 52) := K0.at 3)
    | fail)
  go_wp2
  go_ret
  exact ⟨rfl, pr⟩
set_option maxRecDepth 100000 in
set_option maxHeartbeats 1600000 in
theorem IsNone_w (n : Nat) (hn : n < 18446744073709551616) (w : World) : Calls Try.prog 62 #[szW, .int .u64 n] w fun e w' => e = .returned (.bool (decide (fdW n = 2047) && decide (frW n ≠ 0))) ∧ Below w.heap.size w w' := by
  have hf := hfW n hn
  have F := Finite_w n (fdW n) (decide (fdW n ≠ 2047)) (hdW n hn) (by rw [Bool.eq_iff_iff, decide_eq_true_iff, bne_iff_ne]; omega)
  have g1 : ((frW n : Int) != 0) = decide (frW n ≠ 0) := by rw [Bool.eq_iff_iff, decide_eq_true_iff, bne_iff_ne]; omega
  by_cases h : fdW n = 2047
  · rw [decide_eq_true h, Bool.true_and]
    rw [decide_eq_false (show ¬ (fdW n ≠ 2047) from fun x => x h)] at F
    clear h
    generalize decide (frW n ≠ 0) = t at g1 ⊢
    generalize frW n = z at *
    go_enter Try.func62, Try.ntmps62
    have K0 := Blk.new w #[.int .i64 53, .int .i64 (-1074), .int .i64 971, .int .i64 52] 31
    have pr : Below w.heap.size w (w.alloc (.cells #[.int .i64 53, .int .i64 (-1074), .int .i64 971, .int .i64 52] 31)) := (Below.refl _ _).alloc (Nat.le_refl _) _
    have h1 : IntKind.u64.wrap 4503599627370495 = 4503599627370495 := by decide
    go_wp2_with (first
      | (go_at_call 77; refine (F _).mono ?_; rintro e w1 ⟨rfl, b1⟩; replace K0 := K0.below b1 K0.lt; replace pr := bel pr b1; clear b1; have e0 : w1.cell? ⟨w.heap.size, 0, none⟩ = some (.int .i64 53) := K0.at 0; have e1 : w1.cell? ⟨w.heap.size, 1, none⟩ = some (.int .i64 (-1074)) := K0.at 1; have e2 : w1.cell? ⟨w.heap.size, 2, none⟩ = some (.int .i64 971) := K0.at 2; have e3 : w1.cell? ⟨w.heap.size, 3, none⟩ = some (.int .i64 52) := K0.at 3)
      | fail)
    go_ret
    exact ⟨rfl, pr⟩
  · rw [decide_eq_false h, Bool.false_and]
    rw [decide_eq_true (show fdW n ≠ 2047 from h)] at F
    clear h
    clear g1
    generalize frW n = z at *
    go_enter Try.func62, Try.ntmps62
    have K0 := Blk.new w #[.int .i64 53, .int .i64 (-1074), .int .i64 971, .int .i64 52] 31
    have pr : Below w.heap.size w (w.alloc (.cells #[.int .i64 53, .int .i64 (-1074), .int .i64 971, .int .i64 52] 31)) := (Below.refl _ _).alloc (Nat.le_refl _) _
    have h1 : IntKind.u64.wrap 4503599627370495 = 4503599627370495 := by decide
    go_wp2_with (first
      | (go_at_call 77; refine (F _).mono ?_; rintro e w1 ⟨rfl, b1⟩; replace K0 := K0.below b1 K0.lt; replace pr := bel pr b1; clear b1; have e0 : w1.cell? ⟨w.heap.size, 0, none⟩ = some (.int .i64 53) := K0.at 0; have e1 : w1.cell? ⟨w.heap.size, 1, none⟩ = some (.int .i64 (-1074)) := K0.at 1; have e2 : w1.cell? ⟨w.heap.size, 2, none⟩ = some (.int .i64 971) := K0.at 2; have e3 : w1.cell? ⟨w.heap.size, 3, none⟩ = some (.int .i64 52) := K0.at 3)
      | fail)
    go_ret
    exact ⟨rfl, pr⟩
set_option maxRecDepth 100000 in
set_option maxHeartbeats 1600000 in
theorem Finite_s (n d : Int) (t : Bool) (hd : bits .and .u64 (n / 8388608) 255 = d) (ht : (d != 255) = t) (w : World) : Calls Try.prog 77 #[szS, .int .u64 n] w fun e w' => e = .returned (.bool t) ∧ Below w.heap.size w w' := by
  go_enter Try.func77, Try.ntmps77
  go_wp2_with fail
  have K0 := Blk.new w #[.int .i64 24, .int .i64 (-149), .int .i64 104, .int .i64 23] 31
  have pr : Below w.heap.size w (w.alloc (.cells #[.int .i64 24, .int .i64 (-149), .int .i64 104, .int .i64 23] 31)) := (Below.refl _ _).alloc (Nat.le_refl _) _
  generalize w.alloc (.cells #[.int .i64 24, .int .i64 (-149), .int .i64 104, .int .i64 23] 31) = W at *
  have e0 : W.cell? ⟨w.heap.size, 0, none⟩ = some (.int .i64 24) := K0.at 0
  have e1 : W.cell? ⟨w.heap.size, 1, none⟩ = some (.int .i64 (-149)) := K0.at 1
  have e2 : W.cell? ⟨w.heap.size, 2, none⟩ = some (.int .i64 104) := K0.at 2
  have e3 : W.cell? ⟨w.heap.size, 3, none⟩ = some (.int .i64 23) := K0.at 3
  go_region_held3 (fun x => x.cell? ⟨w.heap.size, 0, none⟩ = some (.int .i64 24) ∧ x.cell? ⟨w.heap.size, 1, none⟩ = some (.int .i64 (-149)) ∧ x.cell? ⟨w.heap.size, 2, none⟩ = some (.int .i64 104) ∧ x.cell? ⟨w.heap.size, 3, none⟩ = some (.int .i64 23)) (go_keep) (first
    | (go_at_call 54; refine (top_s _).mono ?_; rintro e w1 ⟨rfl, b1⟩; replace K0 := K0.below b1 K0.lt; replace pr := bel pr b1; clear b1; have e0 : w1.cell? ⟨w.heap.size, 0, none⟩ = some (.int .i64 24) := K0.at 0; have e1 : w1.cell? ⟨w.heap.size, 1, none⟩ = some (.int .i64 (-149)) := K0.at 1; have e2 : w1.cell? ⟨w.heap.size, 2, none⟩ = some (.int .i64 104) := K0.at 2; have e3 : w1.cell? ⟨w.heap.size, 3, none⟩ = some (.int .i64 23) := K0.at 3)
    | (go_at_call 54; refine (top_s _).mono ?_; rintro e w1 ⟨rfl, b1⟩; replace K0 := K0.below (below_undrew b1) K0.lt; replace pr := bel pr (below_undrew b1); clear b1; have e0 : w1.cell? ⟨w.heap.size, 0, none⟩ = some (.int .i64 24) := K0.at 0; have e1 : w1.cell? ⟨w.heap.size, 1, none⟩ = some (.int .i64 (-149)) := K0.at 1; have e2 : w1.cell? ⟨w.heap.size, 2, none⟩ = some (.int .i64 104) := K0.at 2; have e3 : w1.cell? ⟨w.heap.size, 3, none⟩ = some (.int .i64 23) := K0.at 3)
    | fail)
  go_wp2
  go_ret
  exact ⟨rfl, pr⟩
set_option maxRecDepth 100000 in
set_option maxHeartbeats 1600000 in
theorem IsNone_s (n : Nat) (hn : n < 18446744073709551616) (w : World) : Calls Try.prog 62 #[szS, .int .u64 n] w fun e w' => e = .returned (.bool (decide (fdS n = 255) && decide (frS n ≠ 0))) ∧ Below w.heap.size w w' := by
  have hf := hfS n hn
  have F := Finite_s n (fdS n) (decide (fdS n ≠ 255)) (hdS n hn) (by rw [Bool.eq_iff_iff, decide_eq_true_iff, bne_iff_ne]; omega)
  have g1 : ((frS n : Int) != 0) = decide (frS n ≠ 0) := by rw [Bool.eq_iff_iff, decide_eq_true_iff, bne_iff_ne]; omega
  by_cases h : fdS n = 255
  · rw [decide_eq_true h, Bool.true_and]
    rw [decide_eq_false (show ¬ (fdS n ≠ 255) from fun x => x h)] at F
    clear h
    generalize decide (frS n ≠ 0) = t at g1 ⊢
    generalize frS n = z at *
    go_enter Try.func62, Try.ntmps62
    have K0 := Blk.new w #[.int .i64 24, .int .i64 (-149), .int .i64 104, .int .i64 23] 31
    have pr : Below w.heap.size w (w.alloc (.cells #[.int .i64 24, .int .i64 (-149), .int .i64 104, .int .i64 23] 31)) := (Below.refl _ _).alloc (Nat.le_refl _) _
    have h1 : IntKind.u64.wrap 8388607 = 8388607 := by decide
    go_wp2_with (first
      | (go_at_call 77; refine (F _).mono ?_; rintro e w1 ⟨rfl, b1⟩; replace K0 := K0.below b1 K0.lt; replace pr := bel pr b1; clear b1; have e0 : w1.cell? ⟨w.heap.size, 0, none⟩ = some (.int .i64 24) := K0.at 0; have e1 : w1.cell? ⟨w.heap.size, 1, none⟩ = some (.int .i64 (-149)) := K0.at 1; have e2 : w1.cell? ⟨w.heap.size, 2, none⟩ = some (.int .i64 104) := K0.at 2; have e3 : w1.cell? ⟨w.heap.size, 3, none⟩ = some (.int .i64 23) := K0.at 3)
      | fail)
    go_ret
    exact ⟨rfl, pr⟩
  · rw [decide_eq_false h, Bool.false_and]
    rw [decide_eq_true (show fdS n ≠ 255 from h)] at F
    clear h
    clear g1
    generalize frS n = z at *
    go_enter Try.func62, Try.ntmps62
    have K0 := Blk.new w #[.int .i64 24, .int .i64 (-149), .int .i64 104, .int .i64 23] 31
    have pr : Below w.heap.size w (w.alloc (.cells #[.int .i64 24, .int .i64 (-149), .int .i64 104, .int .i64 23] 31)) := (Below.refl _ _).alloc (Nat.le_refl _) _
    have h1 : IntKind.u64.wrap 8388607 = 8388607 := by decide
    go_wp2_with (first
      | (go_at_call 77; refine (F _).mono ?_; rintro e w1 ⟨rfl, b1⟩; replace K0 := K0.below b1 K0.lt; replace pr := bel pr b1; clear b1; have e0 : w1.cell? ⟨w.heap.size, 0, none⟩ = some (.int .i64 24) := K0.at 0; have e1 : w1.cell? ⟨w.heap.size, 1, none⟩ = some (.int .i64 (-149)) := K0.at 1; have e2 : w1.cell? ⟨w.heap.size, 2, none⟩ = some (.int .i64 104) := K0.at 2; have e3 : w1.cell? ⟨w.heap.size, 3, none⟩ = some (.int .i64 23) := K0.at 3)
      | fail)
    go_ret
    exact ⟨rfl, pr⟩
theorem none_nan (n : Nat) : (decide (fdW n = 2047) && decide (frW n ≠ 0)) = nan64 n := by
  unfold nan64 fdW frW rg64
  rw [Bool.eq_iff_iff, Bool.and_eq_true, decide_eq_true_iff, decide_eq_true_iff, decide_eq_true_iff]
  omega
theorem IsNone64 (n : Nat) (hn : n < 18446744073709551616) (w : World) : Calls Try.prog 62 #[szW, .int .u64 n] w fun e w' => e = .returned (.bool (nan64 n)) ∧ Below w.heap.size w w' := by
  have H := IsNone_w n hn w
  rw [none_nan] at H
  exact H
/-- The place as the reference tells it. -/
def place64 (n : Nat) : Int := if ng64 n = true then -(rg64 n : Int) else rg64 n
set_option maxRecDepth 100000 in
set_option maxHeartbeats 1600000 in
theorem place_any (n : Nat) (hn : n < 18446744073709551616) (w : World) : Calls Try.prog 73 #[.int .u64 n] w fun e w' => e = .returned (.int .i64 (place64 n)) ∧ w' = w := by
  have h := andNot_sign n hn
  have r := rg64_lt n
  have hx : IntKind.i64.wrap (rg64 n : Int) = (rg64 n : Int) := w64 _ (by omega) (by omega)
  have hy : IntKind.i64.wrap (-(rg64 n : Int)) = -(rg64 n : Int) := w64 _ (by omega) (by omega)
  unfold place64
  have s : ng64 n = (n / 9223372036854775808 % 2 == 1) := rfl
  by_cases c : 9223372036854775808 ≤ n
  · have s1 : ng64 n = true := by rw [s, beq_iff_eq]; omega
    rw [if_pos s1]
    have c1 : decide ((9223372036854775808 : Int) ≤ (n : Int)) = true := by rw [decide_eq_true_eq]; omega
    clear s s1
    generalize rg64 n = z at *
    go_enter Try.func73, Try.ntmps73
    go_wp2
    go_ret
    exact ⟨rfl, rfl⟩
  · have s1 : ¬ (ng64 n = true) := by rw [s, beq_iff_eq]; omega
    rw [if_neg s1]
    have c1 : decide ((9223372036854775808 : Int) ≤ (n : Int)) = false := by rw [decide_eq_false_iff_not]; omega
    clear s s1
    generalize rg64 n = z at *
    go_enter Try.func73, Try.ntmps73
    go_wp2
    go_ret
    exact ⟨rfl, rfl⟩
set_option maxRecDepth 100000 in
set_option maxHeartbeats 1600000 in
theorem RUp_any (n : Nat) (hn : n < 18446744073709551616) (w : World) : Calls Try.prog 26 #[.int .u64 n] w fun e w' => e = .returned (.int .u64 (up64 n)) ∧ Below w.heap.size w w' := by
  have N := IsNone64 n hn
  have G := Neg_w n (ng64 n) (hg2W n hn)
  have I := Infinite_w_pos
  have s : ng64 n = (n / 9223372036854775808 % 2 == 1) := rfl
  have rn : rg64 n = n % 9223372036854775808 := rfl
  unfold up64
  by_cases h1 : nan64 n = true
  · rw [h1] at N
    rw [if_pos h1]
    clear h1 s rn
    go_enter Try.func26, Try.ntmps26
    go_wp2_with (first
      | (go_at_call 11; refine (Wide_any _).mono ?_; rintro x w1 ⟨rfl, b1⟩; have pr := b1; clear b1; have m0 := Blk.new w1 #[.int .i64 53, .int .i64 (-1074), .int .i64 971, .int .i64 52] 31; have q0 : (w1.alloc (.cells #[.int .i64 53, .int .i64 (-1074), .int .i64 971, .int .i64 52] 31)).cell? ⟨w1.heap.size, 0, none⟩ = some (.int .i64 53) := m0.at 0; have q1 : (w1.alloc (.cells #[.int .i64 53, .int .i64 (-1074), .int .i64 971, .int .i64 52] 31)).cell? ⟨w1.heap.size, 1, none⟩ = some (.int .i64 (-1074)) := m0.at 1; have q2 : (w1.alloc (.cells #[.int .i64 53, .int .i64 (-1074), .int .i64 971, .int .i64 52] 31)).cell? ⟨w1.heap.size, 2, none⟩ = some (.int .i64 971) := m0.at 2; have q3 : (w1.alloc (.cells #[.int .i64 53, .int .i64 (-1074), .int .i64 971, .int .i64 52] 31)).cell? ⟨w1.heap.size, 3, none⟩ = some (.int .i64 52) := m0.at 3; clear m0)
      | (go_at_call 62; (with_reducible refine (N _).mono ?_); rintro x w4 ⟨rfl, b4⟩; replace K2 := K2.below b4 K2.lt; replace pr := bel pr b4; clear b4; have q0 : w4.cell? ⟨w1.heap.size, 0, none⟩ = some (.int .i64 53) := K2.at 0; have q1 : w4.cell? ⟨w1.heap.size, 1, none⟩ = some (.int .i64 (-1074)) := K2.at 1; have q2 : w4.cell? ⟨w1.heap.size, 2, none⟩ = some (.int .i64 971) := K2.at 2; have q3 : w4.cell? ⟨w1.heap.size, 3, none⟩ = some (.int .i64 52) := K2.at 3)
      | (go_at_call 62; (with_reducible refine (N _).mono ?_); rintro x w4 ⟨rfl, b4⟩; obtain ⟨b5, K2⟩ := var4 b4; clear b4; replace pr := bel pr b5; clear b5; have q0 : w4.cell? ⟨w1.heap.size, 0, none⟩ = some (.int .i64 53) := K2.at 0; have q1 : w4.cell? ⟨w1.heap.size, 1, none⟩ = some (.int .i64 (-1074)) := K2.at 1; have q2 : w4.cell? ⟨w1.heap.size, 2, none⟩ = some (.int .i64 971) := K2.at 2; have q3 : w4.cell? ⟨w1.heap.size, 3, none⟩ = some (.int .i64 52) := K2.at 3)
      | fail)
    go_ret
    exact ⟨rfl, pr⟩
  rw [if_neg h1]
  have h2 : nan64 n = false := by simpa using h1
  rw [h2] at N
  by_cases i1 : n = 9218868437227405312
  · rw [if_pos i1]
    have i2 : ((n : Int) == 9218868437227405312) = true := by rw [beq_iff_eq]; omega
    clear i1 h1 h2 s rn
    go_enter Try.func26, Try.ntmps26
    go_wp2_with (first
      | (go_at_call 11; refine (Wide_any _).mono ?_; rintro x w1 ⟨rfl, b1⟩; have pr := b1; clear b1; have m0 := Blk.new w1 #[.int .i64 53, .int .i64 (-1074), .int .i64 971, .int .i64 52] 31; have q0 : (w1.alloc (.cells #[.int .i64 53, .int .i64 (-1074), .int .i64 971, .int .i64 52] 31)).cell? ⟨w1.heap.size, 0, none⟩ = some (.int .i64 53) := m0.at 0; have q1 : (w1.alloc (.cells #[.int .i64 53, .int .i64 (-1074), .int .i64 971, .int .i64 52] 31)).cell? ⟨w1.heap.size, 1, none⟩ = some (.int .i64 (-1074)) := m0.at 1; have q2 : (w1.alloc (.cells #[.int .i64 53, .int .i64 (-1074), .int .i64 971, .int .i64 52] 31)).cell? ⟨w1.heap.size, 2, none⟩ = some (.int .i64 971) := m0.at 2; have q3 : (w1.alloc (.cells #[.int .i64 53, .int .i64 (-1074), .int .i64 971, .int .i64 52] 31)).cell? ⟨w1.heap.size, 3, none⟩ = some (.int .i64 52) := m0.at 3; clear m0)
      | (go_at_call 62; (with_reducible refine (N _).mono ?_); rintro x w4 ⟨rfl, b4⟩; replace K2 := K2.below b4 K2.lt; replace pr := bel pr b4; clear b4; have q0 : w4.cell? ⟨w1.heap.size, 0, none⟩ = some (.int .i64 53) := K2.at 0; have q1 : w4.cell? ⟨w1.heap.size, 1, none⟩ = some (.int .i64 (-1074)) := K2.at 1; have q2 : w4.cell? ⟨w1.heap.size, 2, none⟩ = some (.int .i64 971) := K2.at 2; have q3 : w4.cell? ⟨w1.heap.size, 3, none⟩ = some (.int .i64 52) := K2.at 3)
      | (go_at_call 62; (with_reducible refine (N _).mono ?_); rintro x w4 ⟨rfl, b4⟩; obtain ⟨b5, K2⟩ := var4 b4; clear b4; replace pr := bel pr b5; clear b5; have q0 : w4.cell? ⟨w1.heap.size, 0, none⟩ = some (.int .i64 53) := K2.at 0; have q1 : w4.cell? ⟨w1.heap.size, 1, none⟩ = some (.int .i64 (-1074)) := K2.at 1; have q2 : w4.cell? ⟨w1.heap.size, 2, none⟩ = some (.int .i64 971) := K2.at 2; have q3 : w4.cell? ⟨w1.heap.size, 3, none⟩ = some (.int .i64 52) := K2.at 3)
      | (go_at_call 60; (with_reducible refine (I _).mono ?_); rintro x w4 ⟨rfl, b4⟩; replace K2 := K2.below b4 K2.lt; replace pr := bel pr b4; clear b4; have q0 : w4.cell? ⟨w1.heap.size, 0, none⟩ = some (.int .i64 53) := K2.at 0; have q1 : w4.cell? ⟨w1.heap.size, 1, none⟩ = some (.int .i64 (-1074)) := K2.at 1; have q2 : w4.cell? ⟨w1.heap.size, 2, none⟩ = some (.int .i64 971) := K2.at 2; have q3 : w4.cell? ⟨w1.heap.size, 3, none⟩ = some (.int .i64 52) := K2.at 3)
      | (go_at_call 60; (with_reducible refine (I _).mono ?_); rintro x w4 ⟨rfl, b4⟩; obtain ⟨b5, K2⟩ := var4 b4; clear b4; replace pr := bel pr b5; clear b5; have q0 : w4.cell? ⟨w1.heap.size, 0, none⟩ = some (.int .i64 53) := K2.at 0; have q1 : w4.cell? ⟨w1.heap.size, 1, none⟩ = some (.int .i64 (-1074)) := K2.at 1; have q2 : w4.cell? ⟨w1.heap.size, 2, none⟩ = some (.int .i64 971) := K2.at 2; have q3 : w4.cell? ⟨w1.heap.size, 3, none⟩ = some (.int .i64 52) := K2.at 3)
      | fail)
    go_ret
    exact ⟨rfl, pr⟩
  rw [if_neg i1]
  have i2 : ((n : Int) == 9218868437227405312) = false := by rw [beq_eq_false_iff_ne]; omega
  by_cases z1 : rg64 n = 0
  · rw [if_pos z1]
    by_cases c : n = 0
    · subst c
      clear i1 i2 h1 h2 s rn z1
      have N0 : ∀ w : World, Calls Try.prog 62 #[szW, .int .u64 0] w fun e w' => e = .returned (.bool false) ∧ Below w.heap.size w w' := N
      go_enter Try.func26, Try.ntmps26
      go_wp2_with (first
        | (go_at_call 11; refine (Wide_any _).mono ?_; rintro x w1 ⟨rfl, b1⟩; have pr := b1; clear b1; have m0 := Blk.new w1 #[.int .i64 53, .int .i64 (-1074), .int .i64 971, .int .i64 52] 31; have q0 : (w1.alloc (.cells #[.int .i64 53, .int .i64 (-1074), .int .i64 971, .int .i64 52] 31)).cell? ⟨w1.heap.size, 0, none⟩ = some (.int .i64 53) := m0.at 0; have q1 : (w1.alloc (.cells #[.int .i64 53, .int .i64 (-1074), .int .i64 971, .int .i64 52] 31)).cell? ⟨w1.heap.size, 1, none⟩ = some (.int .i64 (-1074)) := m0.at 1; have q2 : (w1.alloc (.cells #[.int .i64 53, .int .i64 (-1074), .int .i64 971, .int .i64 52] 31)).cell? ⟨w1.heap.size, 2, none⟩ = some (.int .i64 971) := m0.at 2; have q3 : (w1.alloc (.cells #[.int .i64 53, .int .i64 (-1074), .int .i64 971, .int .i64 52] 31)).cell? ⟨w1.heap.size, 3, none⟩ = some (.int .i64 52) := m0.at 3; clear m0)
        | (go_at_call 62; (with_reducible refine (N0 _).mono ?_); rintro x w4 ⟨rfl, b4⟩; replace K2 := K2.below b4 K2.lt; replace pr := bel pr b4; clear b4; have q0 : w4.cell? ⟨w1.heap.size, 0, none⟩ = some (.int .i64 53) := K2.at 0; have q1 : w4.cell? ⟨w1.heap.size, 1, none⟩ = some (.int .i64 (-1074)) := K2.at 1; have q2 : w4.cell? ⟨w1.heap.size, 2, none⟩ = some (.int .i64 971) := K2.at 2; have q3 : w4.cell? ⟨w1.heap.size, 3, none⟩ = some (.int .i64 52) := K2.at 3)
        | (go_at_call 62; (with_reducible refine (N0 _).mono ?_); rintro x w4 ⟨rfl, b4⟩; obtain ⟨b5, K2⟩ := var4 b4; clear b4; replace pr := bel pr b5; clear b5; have q0 : w4.cell? ⟨w1.heap.size, 0, none⟩ = some (.int .i64 53) := K2.at 0; have q1 : w4.cell? ⟨w1.heap.size, 1, none⟩ = some (.int .i64 (-1074)) := K2.at 1; have q2 : w4.cell? ⟨w1.heap.size, 2, none⟩ = some (.int .i64 971) := K2.at 2; have q3 : w4.cell? ⟨w1.heap.size, 3, none⟩ = some (.int .i64 52) := K2.at 3)
        | (go_at_call 60; (with_reducible refine (I _).mono ?_); rintro x w4 ⟨rfl, b4⟩; replace K2 := K2.below b4 K2.lt; replace pr := bel pr b4; clear b4; have q0 : w4.cell? ⟨w1.heap.size, 0, none⟩ = some (.int .i64 53) := K2.at 0; have q1 : w4.cell? ⟨w1.heap.size, 1, none⟩ = some (.int .i64 (-1074)) := K2.at 1; have q2 : w4.cell? ⟨w1.heap.size, 2, none⟩ = some (.int .i64 971) := K2.at 2; have q3 : w4.cell? ⟨w1.heap.size, 3, none⟩ = some (.int .i64 52) := K2.at 3)
        | (go_at_call 60; (with_reducible refine (I _).mono ?_); rintro x w4 ⟨rfl, b4⟩; obtain ⟨b5, K2⟩ := var4 b4; clear b4; replace pr := bel pr b5; clear b5; have q0 : w4.cell? ⟨w1.heap.size, 0, none⟩ = some (.int .i64 53) := K2.at 0; have q1 : w4.cell? ⟨w1.heap.size, 1, none⟩ = some (.int .i64 (-1074)) := K2.at 1; have q2 : w4.cell? ⟨w1.heap.size, 2, none⟩ = some (.int .i64 971) := K2.at 2; have q3 : w4.cell? ⟨w1.heap.size, 3, none⟩ = some (.int .i64 52) := K2.at 3)
        | fail)
      go_ret
      exact ⟨rfl, pr⟩
    · have c1 : ((n : Int) == 9223372036854775808) = true := by rw [beq_iff_eq]; omega
      clear c i1 h1 h2 s rn z1
      go_enter Try.func26, Try.ntmps26
      go_wp2_with (first
        | (go_at_call 11; refine (Wide_any _).mono ?_; rintro x w1 ⟨rfl, b1⟩; have pr := b1; clear b1; have m0 := Blk.new w1 #[.int .i64 53, .int .i64 (-1074), .int .i64 971, .int .i64 52] 31; have q0 : (w1.alloc (.cells #[.int .i64 53, .int .i64 (-1074), .int .i64 971, .int .i64 52] 31)).cell? ⟨w1.heap.size, 0, none⟩ = some (.int .i64 53) := m0.at 0; have q1 : (w1.alloc (.cells #[.int .i64 53, .int .i64 (-1074), .int .i64 971, .int .i64 52] 31)).cell? ⟨w1.heap.size, 1, none⟩ = some (.int .i64 (-1074)) := m0.at 1; have q2 : (w1.alloc (.cells #[.int .i64 53, .int .i64 (-1074), .int .i64 971, .int .i64 52] 31)).cell? ⟨w1.heap.size, 2, none⟩ = some (.int .i64 971) := m0.at 2; have q3 : (w1.alloc (.cells #[.int .i64 53, .int .i64 (-1074), .int .i64 971, .int .i64 52] 31)).cell? ⟨w1.heap.size, 3, none⟩ = some (.int .i64 52) := m0.at 3; clear m0)
        | (go_at_call 62; (with_reducible refine (N _).mono ?_); rintro x w4 ⟨rfl, b4⟩; replace K2 := K2.below b4 K2.lt; replace pr := bel pr b4; clear b4; have q0 : w4.cell? ⟨w1.heap.size, 0, none⟩ = some (.int .i64 53) := K2.at 0; have q1 : w4.cell? ⟨w1.heap.size, 1, none⟩ = some (.int .i64 (-1074)) := K2.at 1; have q2 : w4.cell? ⟨w1.heap.size, 2, none⟩ = some (.int .i64 971) := K2.at 2; have q3 : w4.cell? ⟨w1.heap.size, 3, none⟩ = some (.int .i64 52) := K2.at 3)
        | (go_at_call 62; (with_reducible refine (N _).mono ?_); rintro x w4 ⟨rfl, b4⟩; obtain ⟨b5, K2⟩ := var4 b4; clear b4; replace pr := bel pr b5; clear b5; have q0 : w4.cell? ⟨w1.heap.size, 0, none⟩ = some (.int .i64 53) := K2.at 0; have q1 : w4.cell? ⟨w1.heap.size, 1, none⟩ = some (.int .i64 (-1074)) := K2.at 1; have q2 : w4.cell? ⟨w1.heap.size, 2, none⟩ = some (.int .i64 971) := K2.at 2; have q3 : w4.cell? ⟨w1.heap.size, 3, none⟩ = some (.int .i64 52) := K2.at 3)
        | (go_at_call 60; (with_reducible refine (I _).mono ?_); rintro x w4 ⟨rfl, b4⟩; replace K2 := K2.below b4 K2.lt; replace pr := bel pr b4; clear b4; have q0 : w4.cell? ⟨w1.heap.size, 0, none⟩ = some (.int .i64 53) := K2.at 0; have q1 : w4.cell? ⟨w1.heap.size, 1, none⟩ = some (.int .i64 (-1074)) := K2.at 1; have q2 : w4.cell? ⟨w1.heap.size, 2, none⟩ = some (.int .i64 971) := K2.at 2; have q3 : w4.cell? ⟨w1.heap.size, 3, none⟩ = some (.int .i64 52) := K2.at 3)
        | (go_at_call 60; (with_reducible refine (I _).mono ?_); rintro x w4 ⟨rfl, b4⟩; obtain ⟨b5, K2⟩ := var4 b4; clear b4; replace pr := bel pr b5; clear b5; have q0 : w4.cell? ⟨w1.heap.size, 0, none⟩ = some (.int .i64 53) := K2.at 0; have q1 : w4.cell? ⟨w1.heap.size, 1, none⟩ = some (.int .i64 (-1074)) := K2.at 1; have q2 : w4.cell? ⟨w1.heap.size, 2, none⟩ = some (.int .i64 971) := K2.at 2; have q3 : w4.cell? ⟨w1.heap.size, 3, none⟩ = some (.int .i64 52) := K2.at 3)
        | fail)
      go_ret
      exact ⟨rfl, pr⟩
  rw [if_neg z1]
  have c1 : ((n : Int) == 9223372036854775808) = false := by rw [beq_eq_false_iff_ne]; omega
  have c2 : ((n : Int) == 0) = false := by rw [beq_eq_false_iff_ne]; omega
  cases g : ng64 n
  · rw [g] at G s
    rw [if_neg (by simp)]
    have s2 : n / 9223372036854775808 % 2 ≠ 1 := by have := s.symm; simpa using this
    obtain ⟨m, hm⟩ : ∃ m, m = n + 1 := ⟨_, rfl⟩
    rw [← hm]
    have hw : IntKind.u64.wrap ((n : Int) + 1) = (m : Int) := by rw [wu64 _ (by omega) (by omega)]; omega
    clear hm s s2 rn i1 z1 h1 h2 g
    go_enter Try.func26, Try.ntmps26
    go_wp2_with (first
      | (go_at_call 11; refine (Wide_any _).mono ?_; rintro x w1 ⟨rfl, b1⟩; have pr := b1; clear b1; have m0 := Blk.new w1 #[.int .i64 53, .int .i64 (-1074), .int .i64 971, .int .i64 52] 31; have q0 : (w1.alloc (.cells #[.int .i64 53, .int .i64 (-1074), .int .i64 971, .int .i64 52] 31)).cell? ⟨w1.heap.size, 0, none⟩ = some (.int .i64 53) := m0.at 0; have q1 : (w1.alloc (.cells #[.int .i64 53, .int .i64 (-1074), .int .i64 971, .int .i64 52] 31)).cell? ⟨w1.heap.size, 1, none⟩ = some (.int .i64 (-1074)) := m0.at 1; have q2 : (w1.alloc (.cells #[.int .i64 53, .int .i64 (-1074), .int .i64 971, .int .i64 52] 31)).cell? ⟨w1.heap.size, 2, none⟩ = some (.int .i64 971) := m0.at 2; have q3 : (w1.alloc (.cells #[.int .i64 53, .int .i64 (-1074), .int .i64 971, .int .i64 52] 31)).cell? ⟨w1.heap.size, 3, none⟩ = some (.int .i64 52) := m0.at 3; clear m0)
      | (go_at_call 62; (with_reducible refine (N _).mono ?_); rintro x w4 ⟨rfl, b4⟩; replace K2 := K2.below b4 K2.lt; replace pr := bel pr b4; clear b4; have q0 : w4.cell? ⟨w1.heap.size, 0, none⟩ = some (.int .i64 53) := K2.at 0; have q1 : w4.cell? ⟨w1.heap.size, 1, none⟩ = some (.int .i64 (-1074)) := K2.at 1; have q2 : w4.cell? ⟨w1.heap.size, 2, none⟩ = some (.int .i64 971) := K2.at 2; have q3 : w4.cell? ⟨w1.heap.size, 3, none⟩ = some (.int .i64 52) := K2.at 3)
      | (go_at_call 62; (with_reducible refine (N _).mono ?_); rintro x w4 ⟨rfl, b4⟩; obtain ⟨b5, K2⟩ := var4 b4; clear b4; replace pr := bel pr b5; clear b5; have q0 : w4.cell? ⟨w1.heap.size, 0, none⟩ = some (.int .i64 53) := K2.at 0; have q1 : w4.cell? ⟨w1.heap.size, 1, none⟩ = some (.int .i64 (-1074)) := K2.at 1; have q2 : w4.cell? ⟨w1.heap.size, 2, none⟩ = some (.int .i64 971) := K2.at 2; have q3 : w4.cell? ⟨w1.heap.size, 3, none⟩ = some (.int .i64 52) := K2.at 3)
      | (go_at_call 60; (with_reducible refine (I _).mono ?_); rintro x w4 ⟨rfl, b4⟩; replace K2 := K2.below b4 K2.lt; replace pr := bel pr b4; clear b4; have q0 : w4.cell? ⟨w1.heap.size, 0, none⟩ = some (.int .i64 53) := K2.at 0; have q1 : w4.cell? ⟨w1.heap.size, 1, none⟩ = some (.int .i64 (-1074)) := K2.at 1; have q2 : w4.cell? ⟨w1.heap.size, 2, none⟩ = some (.int .i64 971) := K2.at 2; have q3 : w4.cell? ⟨w1.heap.size, 3, none⟩ = some (.int .i64 52) := K2.at 3)
      | (go_at_call 60; (with_reducible refine (I _).mono ?_); rintro x w4 ⟨rfl, b4⟩; obtain ⟨b5, K2⟩ := var4 b4; clear b4; replace pr := bel pr b5; clear b5; have q0 : w4.cell? ⟨w1.heap.size, 0, none⟩ = some (.int .i64 53) := K2.at 0; have q1 : w4.cell? ⟨w1.heap.size, 1, none⟩ = some (.int .i64 (-1074)) := K2.at 1; have q2 : w4.cell? ⟨w1.heap.size, 2, none⟩ = some (.int .i64 971) := K2.at 2; have q3 : w4.cell? ⟨w1.heap.size, 3, none⟩ = some (.int .i64 52) := K2.at 3)
      | (go_at_call 55; (with_reducible refine (G _).mono ?_); rintro x w4 ⟨rfl, b4⟩; replace K2 := K2.below b4 K2.lt; replace pr := bel pr b4; clear b4; have q0 : w4.cell? ⟨w1.heap.size, 0, none⟩ = some (.int .i64 53) := K2.at 0; have q1 : w4.cell? ⟨w1.heap.size, 1, none⟩ = some (.int .i64 (-1074)) := K2.at 1; have q2 : w4.cell? ⟨w1.heap.size, 2, none⟩ = some (.int .i64 971) := K2.at 2; have q3 : w4.cell? ⟨w1.heap.size, 3, none⟩ = some (.int .i64 52) := K2.at 3)
      | (go_at_call 55; (with_reducible refine (G _).mono ?_); rintro x w4 ⟨rfl, b4⟩; obtain ⟨b5, K2⟩ := var4 b4; clear b4; replace pr := bel pr b5; clear b5; have q0 : w4.cell? ⟨w1.heap.size, 0, none⟩ = some (.int .i64 53) := K2.at 0; have q1 : w4.cell? ⟨w1.heap.size, 1, none⟩ = some (.int .i64 (-1074)) := K2.at 1; have q2 : w4.cell? ⟨w1.heap.size, 2, none⟩ = some (.int .i64 971) := K2.at 2; have q3 : w4.cell? ⟨w1.heap.size, 3, none⟩ = some (.int .i64 52) := K2.at 3)
      | fail)
    go_ret
    exact ⟨rfl, pr⟩
  · rw [g] at G s
    rw [if_pos rfl]
    obtain ⟨m, hm⟩ : ∃ m, m = n - 1 := ⟨_, rfl⟩
    rw [← hm]
    have hw : IntKind.u64.wrap ((n : Int) - 1) = (m : Int) := by rw [wu64 _ (by omega) (by omega)]; omega
    clear hm s rn i1 z1 h1 h2 g
    go_enter Try.func26, Try.ntmps26
    go_wp2_with (first
      | (go_at_call 11; refine (Wide_any _).mono ?_; rintro x w1 ⟨rfl, b1⟩; have pr := b1; clear b1; have m0 := Blk.new w1 #[.int .i64 53, .int .i64 (-1074), .int .i64 971, .int .i64 52] 31; have q0 : (w1.alloc (.cells #[.int .i64 53, .int .i64 (-1074), .int .i64 971, .int .i64 52] 31)).cell? ⟨w1.heap.size, 0, none⟩ = some (.int .i64 53) := m0.at 0; have q1 : (w1.alloc (.cells #[.int .i64 53, .int .i64 (-1074), .int .i64 971, .int .i64 52] 31)).cell? ⟨w1.heap.size, 1, none⟩ = some (.int .i64 (-1074)) := m0.at 1; have q2 : (w1.alloc (.cells #[.int .i64 53, .int .i64 (-1074), .int .i64 971, .int .i64 52] 31)).cell? ⟨w1.heap.size, 2, none⟩ = some (.int .i64 971) := m0.at 2; have q3 : (w1.alloc (.cells #[.int .i64 53, .int .i64 (-1074), .int .i64 971, .int .i64 52] 31)).cell? ⟨w1.heap.size, 3, none⟩ = some (.int .i64 52) := m0.at 3; clear m0)
      | (go_at_call 62; (with_reducible refine (N _).mono ?_); rintro x w4 ⟨rfl, b4⟩; replace K2 := K2.below b4 K2.lt; replace pr := bel pr b4; clear b4; have q0 : w4.cell? ⟨w1.heap.size, 0, none⟩ = some (.int .i64 53) := K2.at 0; have q1 : w4.cell? ⟨w1.heap.size, 1, none⟩ = some (.int .i64 (-1074)) := K2.at 1; have q2 : w4.cell? ⟨w1.heap.size, 2, none⟩ = some (.int .i64 971) := K2.at 2; have q3 : w4.cell? ⟨w1.heap.size, 3, none⟩ = some (.int .i64 52) := K2.at 3)
      | (go_at_call 62; (with_reducible refine (N _).mono ?_); rintro x w4 ⟨rfl, b4⟩; obtain ⟨b5, K2⟩ := var4 b4; clear b4; replace pr := bel pr b5; clear b5; have q0 : w4.cell? ⟨w1.heap.size, 0, none⟩ = some (.int .i64 53) := K2.at 0; have q1 : w4.cell? ⟨w1.heap.size, 1, none⟩ = some (.int .i64 (-1074)) := K2.at 1; have q2 : w4.cell? ⟨w1.heap.size, 2, none⟩ = some (.int .i64 971) := K2.at 2; have q3 : w4.cell? ⟨w1.heap.size, 3, none⟩ = some (.int .i64 52) := K2.at 3)
      | (go_at_call 60; (with_reducible refine (I _).mono ?_); rintro x w4 ⟨rfl, b4⟩; replace K2 := K2.below b4 K2.lt; replace pr := bel pr b4; clear b4; have q0 : w4.cell? ⟨w1.heap.size, 0, none⟩ = some (.int .i64 53) := K2.at 0; have q1 : w4.cell? ⟨w1.heap.size, 1, none⟩ = some (.int .i64 (-1074)) := K2.at 1; have q2 : w4.cell? ⟨w1.heap.size, 2, none⟩ = some (.int .i64 971) := K2.at 2; have q3 : w4.cell? ⟨w1.heap.size, 3, none⟩ = some (.int .i64 52) := K2.at 3)
      | (go_at_call 60; (with_reducible refine (I _).mono ?_); rintro x w4 ⟨rfl, b4⟩; obtain ⟨b5, K2⟩ := var4 b4; clear b4; replace pr := bel pr b5; clear b5; have q0 : w4.cell? ⟨w1.heap.size, 0, none⟩ = some (.int .i64 53) := K2.at 0; have q1 : w4.cell? ⟨w1.heap.size, 1, none⟩ = some (.int .i64 (-1074)) := K2.at 1; have q2 : w4.cell? ⟨w1.heap.size, 2, none⟩ = some (.int .i64 971) := K2.at 2; have q3 : w4.cell? ⟨w1.heap.size, 3, none⟩ = some (.int .i64 52) := K2.at 3)
      | (go_at_call 55; (with_reducible refine (G _).mono ?_); rintro x w4 ⟨rfl, b4⟩; replace K2 := K2.below b4 K2.lt; replace pr := bel pr b4; clear b4; have q0 : w4.cell? ⟨w1.heap.size, 0, none⟩ = some (.int .i64 53) := K2.at 0; have q1 : w4.cell? ⟨w1.heap.size, 1, none⟩ = some (.int .i64 (-1074)) := K2.at 1; have q2 : w4.cell? ⟨w1.heap.size, 2, none⟩ = some (.int .i64 971) := K2.at 2; have q3 : w4.cell? ⟨w1.heap.size, 3, none⟩ = some (.int .i64 52) := K2.at 3)
      | (go_at_call 55; (with_reducible refine (G _).mono ?_); rintro x w4 ⟨rfl, b4⟩; obtain ⟨b5, K2⟩ := var4 b4; clear b4; replace pr := bel pr b5; clear b5; have q0 : w4.cell? ⟨w1.heap.size, 0, none⟩ = some (.int .i64 53) := K2.at 0; have q1 : w4.cell? ⟨w1.heap.size, 1, none⟩ = some (.int .i64 (-1074)) := K2.at 1; have q2 : w4.cell? ⟨w1.heap.size, 2, none⟩ = some (.int .i64 971) := K2.at 2; have q3 : w4.cell? ⟨w1.heap.size, 3, none⟩ = some (.int .i64 52) := K2.at 3)
      | fail)
    go_ret
    exact ⟨rfl, pr⟩
end Go.Proofs.Ytlngkonmalallaa

namespace Go.Proofs.Ytlngkonmalallaa.L
open Go.RowKit Tl
theorem field_kind (k m e : Int) (g : Bool) (w : World) : (Instr.field 25 (.agg #[.int .i64 k, .bool g, .int .u64 m, .int .i64 e]) 0).run Try.prog w = .ok (.int .i64 k) w := by
  simp [Instr.field, run_underlying Try.underlying25, asAgg, part, Try.sizeOf3, go_sem]
theorem field_exp (k m e : Int) (g : Bool) (w : World) : (Instr.field 25 (.agg #[.int .i64 k, .bool g, .int .u64 m, .int .i64 e]) 3).run Try.prog w = .ok (.int .i64 e) w := by
  simp [Instr.field, run_underlying Try.underlying25, asAgg, part, Try.sizeOf3, go_sem]
end Go.Proofs.Ytlngkonmalallaa.L
