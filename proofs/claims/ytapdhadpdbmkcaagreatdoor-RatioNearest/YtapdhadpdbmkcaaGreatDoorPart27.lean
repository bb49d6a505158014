import Derived.Test.YtapdhadpdbmkcaaGreatDoorPart01

namespace Go.Proofs.YtapdhadpdbmkcaaGreatDoor.Mo

theorem rsub_mul (a b c : Rat) : (a - b) * c = a * c - b * c := by grind
/-- Between two neighbours lies no fraction with so small a denominator. -/
theorem sb_gap {a b c d P Q : Int} (h : c * b = a * d + 1) (b0 : 0 < b) (d0 : 0 < d) (hQ : Q < b + d) : P * b ≤ a * Q ∨ c * Q ≤ P * d := by
 by_cases h1 : P * b ≤ a * Q
 ·exact Or.inl h1
 ·by_cases h2 : c * Q ≤ P * d
  ·exact Or.inr h2
  ·exfalso
   have e1 := Int.mul_le_mul_of_nonneg_left (show a * Q + 1 ≤ P * b by omega) (Int.le_of_lt d0)
   have e2 := Int.mul_le_mul_of_nonneg_left (show P * d + 1 ≤ c * Q by omega) (Int.le_of_lt b0)
   have e3 : c * b * Q = (a * d + 1) * Q := by rw [h]
   grind
theorem sb_left {a b c d N D P Q : Int} (h : c * b = a * d + 1) (b0 : 0 < b) (D0 : 0 < D) (Q0 : 0 < Q) (lo : a * D < N * b) (l : P * b ≤ a * Q) :
  P * D < N * Q ∧ (N * b - a * D) * Q ≤ (N * Q - P * D) * b ∧ ((N * b - a * D) * Q = (N * Q - P * D) * b → b ≤ Q) := by
 have e1 := Int.mul_le_mul_of_nonneg_right l (Int.le_of_lt D0)
 have e2 := Int.mul_lt_mul_of_pos_right lo Q0
 refine ⟨?_, by grind, ?_⟩
 ·have : P * D * b < N * Q * b := by grind
  exact Int.lt_of_mul_lt_mul_right this (Int.le_of_lt b0)
 ·intro e
  have e3 : P * b * D = a * Q * D := by grind
  have e4 : P * b = a * Q := Int.eq_of_mul_eq_mul_right (by omega) e3
  have e5 : Q = b * (c * Q - d * P) := by
   have : c * b * Q = (a * d + 1) * Q := by rw [h]
   grind
  have e6 : 0 < c * Q - d * P := by
   refine Int.pos_of_mul_pos_right (a := b) ?_ b0
   rw [← e5]; exact Q0
  have := Int.mul_le_mul_of_nonneg_left (show 1 ≤ c * Q - d * P by omega) (Int.le_of_lt b0)
  omega
theorem sb_right {a b c d N D P Q : Int} (h : c * b = a * d + 1) (d0 : 0 < d) (D0 : 0 < D) (Q0 : 0 < Q) (hi : N * d < c * D) (l : c * Q ≤ P * d) :
  N * Q < P * D ∧ (c * D - N * d) * Q ≤ (P * D - N * Q) * d ∧ ((c * D - N * d) * Q = (P * D - N * Q) * d → d ≤ Q) := by
 obtain ⟨h1, h2, h3⟩ := sb_left (a := -c) (b := d) (c := -a) (d := b) (N := -N) (D := D) (P := -P) (Q := Q) (by grind) d0 D0 Q0 (by grind) (by grind)
 exact ⟨by grind, by grind, fun e => h3 (by grind)⟩
theorem sb_sq {u v z b d Q : Int} (m1 : v * b * Q ≤ u * d * Q) (m2 : u * Q * d ≤ z * b * d) (k1 : v * Q * b = z * d * b) : u * Q * d = z * b * d ∧ v * b * Q = u * d * Q := by
 rw [Int.mul_right_comm v b Q, Int.mul_right_comm u d Q] at *
 rw [Int.mul_right_comm z d b] at k1
 omega
/-- Of both neighbours the nearer one, of two as near the one with the lesser denominator, is the nearest. -/
theorem sb_best {a b c d N D P Q : Int} (h : c * b = a * d + 1) (b0 : 0 < b) (d0 : 0 < d) (D0 : 0 < D) (Q0 : 0 < Q) (lo : a * D < N * b) (hi : N * d < c * D) (hQ : Q < b + d) :
  ((N * (2 * b * d) < (a * d + c * b) * D ∨ N * (2 * b * d) = (a * d + c * b) * D ∧ b ≤ d) → ((N * b - a * D) * Q < (if P * D < N * Q then N * Q - P * D else P * D - N * Q) * b ∨ (N * b - a * D) * Q = (if P * D < N * Q then N * Q - P * D else P * D - N * Q) * b ∧ b ≤ Q)) ∧
  (¬ (N * (2 * b * d) < (a * d + c * b) * D ∨ N * (2 * b * d) = (a * d + c * b) * D ∧ b ≤ d) → ((c * D - N * d) * Q < (if P * D < N * Q then N * Q - P * D else P * D - N * Q) * d ∨ (c * D - N * d) * Q = (if P * D < N * Q then N * Q - P * D else P * D - N * Q) * d ∧ d ≤ Q)) := by
 rcases sb_gap (P := P) h b0 d0 hQ with l | l
 ·obtain ⟨l1, l2, l3⟩ := sb_left h b0 D0 Q0 lo l
  rw [if_pos l1]
  obtain ⟨u, hu⟩ : ∃ u, N * b - a * D = u := ⟨_, rfl⟩
  obtain ⟨v, hv⟩ : ∃ v, c * D - N * d = v := ⟨_, rfl⟩
  obtain ⟨z, hz⟩ : ∃ z, N * Q - P * D = z := ⟨_, rfl⟩
  rw [hu, hz] at l2 l3
  rw [hu, hv, hz]
  refine ⟨fun _ => (Int.lt_or_eq_of_le l2).imp id (fun k => ⟨k, l3 k⟩), fun n => ?_⟩
  have ud : u * d - v * b = N * (2 * b * d) - (a * d + c * b) * D := by grind
  have le : v * b ≤ u * d := by omega
  have m1 := Int.mul_le_mul_of_nonneg_right le (Int.le_of_lt Q0)
  have m2 := Int.mul_le_mul_of_nonneg_right l2 (Int.le_of_lt d0)
  have m3 : v * Q * b ≤ z * d * b := by grind
  have m4 := Int.le_of_mul_le_mul_right m3 b0
  rcases Int.lt_or_eq_of_le m4 with k | k
  ·exact Or.inl k
  ·refine Or.inr ⟨k, ?_⟩
   have k1 : v * Q * b = z * d * b := by rw [k]
   obtain ⟨k2, k4⟩ := sb_sq m1 m2 k1
   have k3 : u * Q = z * b := Int.eq_of_mul_eq_mul_right (by omega) k2
   have k5 : v * b = u * d := Int.eq_of_mul_eq_mul_right (by omega) k4
   have := l3 k3
   omega
 ·obtain ⟨l1, l2, l3⟩ := sb_right h d0 D0 Q0 hi l
  rw [if_neg (by omega)]
  obtain ⟨u, hu⟩ : ∃ u, N * b - a * D = u := ⟨_, rfl⟩
  obtain ⟨v, hv⟩ : ∃ v, c * D - N * d = v := ⟨_, rfl⟩
  obtain ⟨z, hz⟩ : ∃ z, P * D - N * Q = z := ⟨_, rfl⟩
  rw [hv, hz] at l2 l3
  rw [hu, hv, hz]
  refine ⟨fun n => ?_, fun _ => (Int.lt_or_eq_of_le l2).imp id (fun k => ⟨k, l3 k⟩)⟩
  have ud : u * d - v * b = N * (2 * b * d) - (a * d + c * b) * D := by grind
  have le : u * d ≤ v * b := by omega
  have m1 := Int.mul_le_mul_of_nonneg_right le (Int.le_of_lt Q0)
  have m2 := Int.mul_le_mul_of_nonneg_right l2 (Int.le_of_lt b0)
  have m3 : u * Q * d ≤ z * b * d := by grind
  have m4 := Int.le_of_mul_le_mul_right m3 d0
  rcases Int.lt_or_eq_of_le m4 with k | k
  ·exact Or.inl k
  ·refine Or.inr ⟨k, ?_⟩
   have k1 : u * Q * d = z * b * d := by rw [k]
   obtain ⟨k2, k4⟩ := sb_sq m1 m2 k1
   have k3 : v * Q = z * d := Int.eq_of_mul_eq_mul_right (by omega) k2
   have k5 : u * d = v * b := Int.eq_of_mul_eq_mul_right (by omega) k4
   have := l3 k3
   omega
/-- Stern's and Brocot's tree, gone down towards N by D as long as denominators are at most M. -/
def sb (N D M : Nat) : Nat → Nat → Nat → Nat → Nat → (Nat × Nat) × (Nat × Nat)
 | 0, a, b, c, d => ((a, b), (c, d))
 | k + 1, a, b, c, d => if b + d ≤ M then (if (a + c) * D < N * (b + d) then sb N D M k (a + c) (b + d) c d else sb N D M k a b (a + c) (b + d)) else ((a, b), (c, d))
/-- Two neighbours, what is looked for between them. -/
structure SB (N D M a b c d : Nat) : Prop where
 h : c * b = a * d + 1
 lo : a * D < N * b
 hi : N * d < c * D
 b0 : 0 < b
 d0 : 0 < d
 bM : b ≤ M
 dM : d ≤ M
theorem SB.low {N D M a b c d : Nat} (s : SB N D M a b c d) (hM : b + d ≤ M) (l : (a + c) * D < N * (b + d)) : SB N D M (a + c) (b + d) c d :=
 ⟨by have := s.h; grind, l, s.hi, by have := s.b0; omega, s.d0, hM, s.dM⟩
theorem SB.high {N D M a b c d : Nat} (s : SB N D M a b c d) (cp : N.Coprime D) (hD : M < D) (hM : b + d ≤ M) (l : ¬ (a + c) * D < N * (b + d)) : SB N D M a b (a + c) (b + d) := by
 refine ⟨by have := s.h; grind, s.lo, ?_, s.b0, by have := s.b0; omega, s.bM, hM⟩
 rcases Nat.lt_or_eq_of_le (Nat.le_of_not_lt l) with k | k
 ·exact k
 ·exfalso
  have : D ∣ b + d := Nat.Coprime.dvd_of_dvd_mul_left cp.symm ⟨a + c, by rw [k, Nat.mul_comm]⟩
  have := Nat.le_of_dvd (by have := s.b0; omega) this
  omega
theorem sb_end {N D M : Nat} (cp : N.Coprime D) (hD : M < D) : ∀ k a b c d, SB N D M a b c d → M + 1 ≤ k + b + d → SB N D M (sb N D M k a b c d).1.1 (sb N D M k a b c d).1.2 (sb N D M k a b c d).2.1 (sb N D M k a b c d).2.2 ∧ M < (sb N D M k a b c d).1.2 + (sb N D M k a b c d).2.2 := by
 intro k
 induction k with
 | zero => intro a b c d s h; exact ⟨s, by show M < b + d; omega⟩
 | succ k ih =>
  intro a b c d s h
  unfold sb
  by_cases c1 : b + d ≤ M
  ·rw [if_pos c1]
   by_cases c2 : (a + c) * D < N * (b + d)
   ·rw [if_pos c2]
    exact ih _ _ _ _ (s.low c1 c2) (by have := s.d0; omega)
   ·rw [if_neg c2]
    exact ih _ _ _ _ (s.high cp hD c1 c2) (by have := s.b0; omega)
  ·rw [if_neg c1]
   exact ⟨s, by show M < b + d; omega⟩
/-- The nearer one of two neighbours. -/
def pk (N D : Nat) (s : (Nat × Nat) × (Nat × Nat)) : Nat × Nat :=
 if N * (2 * s.1.2 * s.2.2) < (s.1.1 * s.2.2 + s.2.1 * s.1.2) * D ∨ N * (2 * s.1.2 * s.2.2) = (s.1.1 * s.2.2 + s.2.1 * s.1.2) * D ∧ s.1.2 ≤ s.2.2 then s.1 else s.2
/-- The fraction nearest to r whose denominator is at most M. -/
def nr (r : Rat) (M : Nat) : Rat := if r.den ≤ M then r else (r.floor : Rat) + mkRat (pk (r.num % r.den).toNat r.den (sb (r.num % r.den).toNat r.den M M 0 1 1 1)).1 (pk (r.num % r.den).toNat r.den (sb (r.num % r.den).toNat r.den M M 0 1 1 1)).2
/-- A number's size. -/
def ab (z : Rat) : Rat := if z < 0 then -z else z
theorem ab_mul {x K : Rat} {z : Int} (K0 : 0 < K) (h : x * K = (z : Rat)) : ab x * K = ((if z < 0 then -z else z : Int) : Rat) := by
 unfold ab
 by_cases c : z < 0
 ·have hz : (z : Rat) < 0 := by exact_mod_cast c
  have : x < 0 := by
   refine Rat.lt_of_mul_lt_mul_right (c := K) ?_ (Rat.le_of_lt K0)
   rw [h, Rat.zero_mul]; exact hz
  rw [if_pos c, if_pos this, Rat.neg_mul, h]
  simp
 ·have : ¬ x < 0 := fun g => c (by
   have := Rat.mul_lt_mul_of_pos_right g K0
   rw [h, Rat.zero_mul] at this
   exact_mod_cast this)
  rw [if_neg c, if_neg this, h]
theorem ab_far {x y A B Q : Rat} {u v q b : Int} (hq : Q = (q : Rat)) (hb : B = (b : Rat)) (A0 : 0 < A) (Q0 : 0 < Q) (B0 : 0 < B) (h1 : x * (B * A) = (u : Rat)) (h2 : y * (Q * A) = (v : Rat)) :
  ((if u < 0 then -u else u) * q < (if v < 0 then -v else v) * b → ab x < ab y) ∧ ((if u < 0 then -u else u) * q = (if v < 0 then -v else v) * b → ab x = ab y) := by
 have K1 : 0 < B * A := Rat.mul_pos B0 A0
 have K2 : 0 < Q * A := Rat.mul_pos Q0 A0
 have K3 : 0 < B * A * Q := Rat.mul_pos K1 Q0
 have e1 := ab_mul K1 h1
 have e2 := ab_mul K2 h2
 have f1 : ab x * (B * A * Q) = (((if u < 0 then -u else u) * q : Int) : Rat) := by
  rw [← Rat.mul_assoc, e1, hq, Rat.intCast_mul]
 have f2 : ab y * (B * A * Q) = (((if v < 0 then -v else v) * b : Int) : Rat) := by
  rw [Rat.intCast_mul, ← e2, ← hb]; grind
 constructor
 ·intro l
  refine Rat.lt_of_mul_lt_mul_right (c := B * A * Q) ?_ (Rat.le_of_lt K3)
  rw [f1, f2]
  exact_mod_cast l
 ·intro l
  rw [← f2.trans (congrArg _ l.symm)] at f1
  have z : (ab x - ab y) * (B * A * Q) = 0 := by grind
  rcases Rat.mul_eq_zero.1 z with k | k <;> grind
theorem den_le {x : Rat} {k : Nat} {z : Int} (k0 : 0 < k) (h : x * (k : Rat) = (z : Rat)) : x.den ≤ k := by
 have : x = mkRat z k := by
  have hk : (k : Rat) ≠ 0 := by exact_mod_cast (show (k : Nat) ≠ 0 by omega)
  rw [Rat.mkRat_eq_div]
  grind
 rw [this]
 rw [Rat.den_mkRat, if_neg (by omega)]
 exact Nat.div_le_self _ _
theorem rat_mul_den (x : Rat) : x * (x.den : Rat) = (x.num : Rat) := by
 have hk : (x.den : Rat) ≠ 0 := by exact_mod_cast x.den_nz
 have := Rat.mkRat_self x
 rw [Rat.mkRat_eq_div] at this
 grind
/-- What is left above the whole part. -/
theorem rest_parts (r : Rat) : (r - (r.floor : Rat)) * (r.den : Rat) = ((r.num % r.den : Int) : Rat) ∧ ((r.num % r.den).toNat : Int) = r.num % r.den ∧ (r.num % r.den).toNat < r.den ∧ (r.num % r.den).toNat.Coprime r.den := by
 have d0 := Nat.pos_of_ne_zero r.den_nz
 have m0 := Int.emod_nonneg r.num (show (r.den : Int) ≠ 0 by omega)
 have m1 := Int.emod_lt_of_pos r.num (show (0 : Int) < (r.den : Int) by omega)
 refine ⟨?_, by omega, by omega, ?_⟩
 ·have e := rat_mul_den r
  have f : r.floor = r.num / (r.den : Int) := by rw [Rat.floor_def]
  have g := Int.emod_def r.num r.den
  rw [g, rsub_mul, e, f, Rat.intCast_sub, Rat.intCast_mul]
  congr 1
  rw [Rat.mul_comm]
  rfl
 ·have c := r.reduced
  unfold Nat.Coprime at *
  have h1 : Int.gcd (r.num % r.den) r.den = Int.gcd r.num r.den := by
   have e := Int.emod_add_mul_ediv r.num r.den
   rw [← Int.gcd_add_mul_left_left r.den (r.num % r.den) (r.num / r.den), e]
  have h2 : Int.gcd (r.num % r.den) r.den = (r.num % r.den).toNat.gcd r.den := by
   unfold Int.gcd
   rw [show (r.num % (r.den : Int)).natAbs = (r.num % (r.den : Int)).toNat by omega]
   rfl
  rw [← h2, h1]
  exact c
theorem ab_zero : ab 0 = 0 := by unfold ab; simp
theorem ab_pos {x : Rat} (h : x ≠ 0) : 0 < ab x := by unfold ab; split <;> grind
theorem near_best (r : Rat) (M : Nat) (hM : 1 ≤ M) (c : Rat) (hc : c.den ≤ M) :
  (nr r M).den ≤ M ∧ (ab (nr r M - r) < ab (c - r) ∨ ab (nr r M - r) = ab (c - r) ∧ (nr r M).den ≤ c.den) := by
 unfold nr
 by_cases c1 : r.den ≤ M
 ·rw [if_pos c1]
  refine ⟨c1, ?_⟩
  rw [Rat.sub_self, ab_zero]
  by_cases e : c = r
  ·subst e
   exact Or.inr ⟨by rw [Rat.sub_self, ab_zero], Nat.le_refl _⟩
  ·exact Or.inl (ab_pos (by grind))
 ·rw [if_neg c1]
  obtain ⟨p1, p2, p3, p4⟩ := rest_parts r
  have hD : M < r.den := by omega
  have N0 : 0 < (r.num % r.den).toNat := by
   rcases Nat.eq_zero_or_pos (r.num % r.den).toNat with z | z
   ·rw [z, Nat.coprime_zero_left] at p4; omega
   ·exact z
  have s0 : SB (r.num % r.den).toNat r.den M 0 1 1 1 := ⟨rfl, by omega, by omega, by omega, by omega, hM, hM⟩
  obtain ⟨s1, s2⟩ := sb_end p4 hD M 0 1 1 1 s0 (by omega)
  generalize sb (r.num % r.den).toNat r.den M M 0 1 1 1 = s at *
  obtain ⟨⟨a, b⟩, ⟨e, d⟩⟩ := s
  simp only at s1 s2
  obtain ⟨F, hF⟩ : ∃ F : Rat, (r.floor : Rat) = F := ⟨_, rfl⟩
  obtain ⟨N, hN⟩ : ∃ N, (r.num % r.den).toNat = N := ⟨_, rfl⟩
  rw [hF] at p1
  rw [← p2] at p1
  rw [hF, hN]
  rw [hN] at p1 p3 p4 s1 N0
  have q1 := rat_mul_den c
  have d0 := Nat.pos_of_ne_zero r.den_nz
  have Q0 := Nat.pos_of_ne_zero c.den_nz
  obtain ⟨P, hP⟩ : ∃ P : Int, c.num - r.floor * c.den = P := ⟨_, rfl⟩
  have q2 : (c - F) * (c.den : Rat) = (P : Rat) := by
   rw [← hP, rsub_mul, q1, ← hF, Rat.intCast_sub, Rat.intCast_mul]
   rfl
  have B := sb_best (a := a) (b := b) (c := e) (d := d) (N := N) (D := r.den) (P := P) (Q := c.den) (by exact_mod_cast s1.h) (by have := s1.b0; omega) (by have := s1.d0; omega) (by omega) (by omega) (by exact_mod_cast s1.lo) (by exact_mod_cast s1.hi) (by omega)
  have D0 : (0 : Rat) < (r.den : Rat) := by exact_mod_cast d0
  have Q0' : (0 : Rat) < (c.den : Rat) := by exact_mod_cast Q0
  have both : ∀ t1 t2 : Nat, 0 < t2 → t2 ≤ M → (((if (t1 * r.den - N * t2 : Int) < 0 then -(t1 * r.den - N * t2 : Int) else (t1 * r.den - N * t2 : Int)) * c.den < (if P * r.den < N * c.den then N * c.den - P * r.den else P * r.den - N * c.den) * t2) ∨ ((if (t1 * r.den - N * t2 : Int) < 0 then -(t1 * r.den - N * t2 : Int) else (t1 * r.den - N * t2 : Int)) * c.den = (if P * r.den < N * c.den then N * c.den - P * r.den else P * r.den - N * c.den) * t2) ∧ (t2 : Int) ≤ c.den) →
    (F + mkRat t1 t2).den ≤ M ∧ (ab (F + mkRat t1 t2 - r) < ab (c - r) ∨ ab (F + mkRat t1 t2 - r) = ab (c - r) ∧ (F + mkRat t1 t2).den ≤ c.den) := by
   intro t1 t2 t0 tM h
   have T0 : (0 : Rat) < (t2 : Rat) := by exact_mod_cast t0
   have m1 : mkRat t1 t2 * (t2 : Rat) = ((t1 : Int) : Rat) := by
    rw [Rat.mkRat_eq_div]
    grind
   have den : (F + mkRat t1 t2).den ≤ t2 := by
    refine den_le (z := r.floor * t2 + t1) t0 ?_
    rw [Rat.add_mul, m1, ← hF, Rat.intCast_add, Rat.intCast_mul]
    rfl
   have h1 : (F + mkRat t1 t2 - r) * ((t2 : Rat) * (r.den : Rat)) = ((t1 * r.den - N * t2 : Int) : Rat) := by
    rw [Rat.intCast_sub, Rat.intCast_mul, Rat.intCast_mul, ← m1, ← p1]
    show _ = mkRat t1 t2 * (t2 : Rat) * (r.den : Rat) - (r - F) * (r.den : Rat) * (t2 : Rat)
    grind
   have h2 : (c - r) * ((c.den : Rat) * (r.den : Rat)) = ((P * r.den - N * c.den : Int) : Rat) := by
    rw [Rat.intCast_sub, Rat.intCast_mul, Rat.intCast_mul, ← q2, ← p1]
    show _ = (c - F) * (c.den : Rat) * (r.den : Rat) - (r - F) * (r.den : Rat) * (c.den : Rat)
    grind
   obtain ⟨k1, k2⟩ := ab_far (q := c.den) (b := t2) rfl rfl D0 Q0' T0 h1 h2
   have e3 : (if (P * r.den - N * c.den : Int) < 0 then -(P * r.den - N * c.den : Int) else (P * r.den - N * c.den : Int)) = (if P * r.den < N * c.den then N * c.den - P * r.den else P * r.den - N * c.den) := by split <;> split <;> omega
   rw [e3] at k1 k2
   refine ⟨by omega, ?_⟩
   rcases h with h | ⟨h, h'⟩
   ·exact Or.inl (k1 h)
   ·exact Or.inr ⟨k2 h, by omega⟩
  unfold pk
  simp only
  have lo : (a : Int) * r.den < N * b := by exact_mod_cast s1.lo
  have hi : (N : Int) * d < e * r.den := by exact_mod_cast s1.hi
  by_cases g : N * (2 * b * d) < (a * d + e * b) * r.den ∨ N * (2 * b * d) = (a * d + e * b) * r.den ∧ b ≤ d
  ·rw [if_pos g]
   have B1 := B.1 (by exact_mod_cast g)
   refine both a b s1.b0 s1.bM ?_
   rw [if_pos (by omega)]
   rcases B1 with k | ⟨k, k'⟩
   ·left; rw [show -((a : Int) * r.den - N * b) = N * b - a * r.den by omega]; exact k
   ·right; rw [show -((a : Int) * r.den - N * b) = N * b - a * r.den by omega]; exact ⟨k, k'⟩
  ·rw [if_neg g]
   have B2 := B.2 (fun q => g (by exact_mod_cast q))
   refine both e d s1.d0 s1.dM ?_
   rw [if_neg (by omega)]
   exact B2
end Go.Proofs.YtapdhadpdbmkcaaGreatDoor.Mo
