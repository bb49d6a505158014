import Derived.Test.YtebilgnmnambnaaGreatDoorPart28

namespace Go.Proofs.YtebilgnmnambnaaGreatDoor.Mo
open Go.RowKit Tn
theorem mul_num (r s : Rat) : (r * s).num = r.num / ((r.num.natAbs.gcd s.den : Nat) : Int) * (s.num / ((s.num.natAbs.gcd r.den : Nat) : Int)) := by
 show (Rat.mul r s).num = _
 unfold Rat.mul
 simp [Int.divExact_eq_ediv]
theorem mul_den (r s : Rat) : (r * s).den = r.den / (s.num.natAbs.gcd r.den) * (s.den / (r.num.natAbs.gcd s.den)) := by
 show (Rat.mul r s).den = _
 unfold Rat.mul
 simp [Nat.divExact_eq_div]
theorem abs_div {n : Int} {g : Nat} (h : g ∣ n.natAbs) : ((n / (g : Int)).natAbs : Int) = (n.natAbs : Int) / (g : Int) := by
 obtain ⟨k, hk⟩ := h
 by_cases g0 : g = 0
 ·subst g0; simp
 ·have : n = (g : Int) * k ∨ n = -((g : Int) * k) := by
   have := Int.natAbs_eq n
   rw [hk] at this
   simpa using this
  have gn : (g : Int) ≠ 0 := by omega
  rw [hk]
  rcases this with e | e
  ·rw [e, Int.mul_ediv_cancel_left _ gn]
   simp [Int.mul_ediv_cancel_left _ gn]
  ·rw [e, ← Int.mul_neg, Int.mul_ediv_cancel_left _ gn]
   simp [Int.mul_ediv_cancel_left _ gn]
theorem div_neg_iff {n : Int} {g : Nat} (h : g ∣ n.natAbs) (g0 : 0 < g) : n / (g : Int) < 0 ↔ n < 0 := by
 obtain ⟨k, hk⟩ := h
 have gn : (g : Int) ≠ 0 := by omega
 have : n = (g : Int) * k ∨ n = -((g : Int) * k) := by
  have := Int.natAbs_eq n
  rw [hk] at this
  simpa using this
 rcases this with e | e
 ·rw [e, Int.mul_ediv_cancel_left _ gn]
  constructor
  ·intro h; omega
  ·intro h
   have := Int.mul_nonneg (show (0 : Int) ≤ (g : Int) by omega) (show (0 : Int) ≤ (k : Int) by omega)
   omega
 ·rw [e, ← Int.mul_neg, Int.mul_ediv_cancel_left _ gn]
  constructor
  ·intro h
   have := Int.mul_pos (show (0 : Int) < (g : Int) by omega) (show (0 : Int) < (k : Int) by omega)
   rw [Int.mul_neg]; omega
  ·intro h
   by_cases k0 : k = 0
   ·subst k0; simp at h
   ·omega
theorem times_low (r s : Rat) (P Q : Int) (hP : (r.num.natAbs : Int) / (Int.gcd r.num.natAbs s.den : Int) * ((s.num.natAbs : Int) / (Int.gcd s.num.natAbs r.den : Int)) = P)
  (hQ : (r.den : Int) / (Int.gcd s.num.natAbs r.den : Int) * ((s.den : Int) / (Int.gcd r.num.natAbs s.den : Int)) = Q) :
  ((r * s).num.natAbs : Int) = P ∧ ((r * s).den : Int) = Q ∧ decide ((r * s).num < 0) = ((decide (r.num < 0) != decide (s.num < 0)) && !decide (P = 0)) := by
 have e1 : (Int.gcd r.num.natAbs s.den : Nat) = r.num.natAbs.gcd s.den := by simp [Int.gcd]
 have e2 : (Int.gcd s.num.natAbs r.den : Nat) = s.num.natAbs.gcd r.den := by simp [Int.gcd]
 rw [e1, e2] at hP hQ
 have d1 := Nat.gcd_dvd_left r.num.natAbs s.den
 have d2 := Nat.gcd_dvd_left s.num.natAbs r.den
 have p1 : 0 < r.num.natAbs.gcd s.den := Nat.gcd_pos_of_pos_right _ (Nat.pos_of_ne_zero s.den_nz)
 have p2 : 0 < s.num.natAbs.gcd r.den := Nat.gcd_pos_of_pos_right _ (Nat.pos_of_ne_zero r.den_nz)
 have hn : ((r * s).num.natAbs : Int) = P := by
  rw [mul_num, Int.natAbs_mul, Int.natCast_mul, abs_div d1, abs_div d2]
  exact hP
 refine ⟨hn, ?_, ?_⟩
 ·rw [mul_den, Int.natCast_mul, Int.natCast_ediv, Int.natCast_ediv]
  exact hQ
 ·have z : (P = 0) ↔ (r * s).num = 0 := by rw [← hn]; omega
  have n1 := div_neg_iff d1 p1
  have n2 := div_neg_iff d2 p2
  rw [Bool.eq_iff_iff]
  simp only [Bool.and_eq_true, Bool.not_eq_true', decide_eq_true_eq, decide_eq_false_iff_not, bne_iff_ne, ne_eq]
  rw [z]
  rw [mul_num] at z ⊢
  generalize r.num / ((r.num.natAbs.gcd s.den : Nat) : Int) = x at *
  generalize s.num / ((s.num.natAbs.gcd r.den : Nat) : Int) = y at *
  rw [decide_eq_decide, ← n1, ← n2]
  constructor
  ·intro h
   refine ⟨fun c => ?_, by omega⟩
   by_cases x0 : x < 0
   ·have := Int.mul_nonneg_of_nonpos_of_nonpos (Int.le_of_lt x0) (Int.le_of_lt (c.1 x0))
    omega
   ·have y0 : ¬ y < 0 := fun h => x0 (c.2 h)
    have := Int.mul_nonneg (show 0 ≤ x by omega) (show 0 ≤ y by omega)
    omega
  ·rintro ⟨h1, h2⟩
   have hx : x ≠ 0 := fun e => h2 (by rw [e]; simp)
   have hy : y ≠ 0 := fun e => h2 (by rw [e]; simp)
   by_cases x0 : x < 0
   ·have y0 : 0 < y := by
     by_cases c : y < 0
     ·exact absurd ⟨fun _ => c, fun _ => x0⟩ h1
     ·omega
    exact Int.mul_neg_of_neg_of_pos x0 y0
   ·have y0 : y < 0 := by
     by_cases c : y < 0
     ·exact c
     ·exact absurd ⟨fun h => absurd h x0, fun h => absurd h c⟩ h1
    exact Int.mul_neg_of_pos_of_neg (by omega) y0
def PF (x : World) (v : Value) (r : Rat) : Prop := ∃ a l c a' l' c', v = .agg #[.bool (decide (r.num < 0)), .slice a l c, .slice a' l' c'] ∧ Nn x a l c (r.num.natAbs : Int) ∧ Nn x a' l' c' (r.den : Int)
theorem PF.grow {x x' : World} {v : Value} {r : Rat} (h : PF x v r) (b : Below x.heap.size x x') : PF x' v r := by
 obtain ⟨a, l, c, a', l', c', e, h1, h2⟩ := h
 exact ⟨a, l, c, a', l', c', e, h1.grow b, h2.grow b⟩
def PS (r : Rat) (K : Nat) : Prop := (r.num.natAbs : Int) < pw K ∧ (r.den : Int) < pw K
theorem PS.mono {r : Rat} {m n : Nat} (h : PS r m) (hm : m ≤ n) : PS r n := by
 have := pw_mono hm
 exact ⟨by have := h.1; omega, by have := h.2; omega⟩
theorem den_p (r : Rat) : (0 : Int) < (r.den : Int) := by have := r.den_nz; omega
theorem div_lt {A G : Int} {m : Nat} (h : A < pw m) (h0 : 0 ≤ A) (_ : 0 < G) : A / G < pw m := by
 have := Int.ediv_le_self G h0
 omega
theorem Times_p (v1 v2 : Value) (r s : Rat) (m n : Nat) (w : World) (h1 : PF w v1 r) (h2 : PF w v2 s) (s1 : PS r m) (s2 : PS s n) (hk : MulOK m n) :
  Calls Tryz.prog 42 #[v1, v2] w fun e w' => ∃ v, e = .returned v ∧ PF w' v (r * s) ∧ Below w.heap.size w w' := by
 obtain ⟨a1, l1, c1, a2, l2, c2, rfl, k1, k2⟩ := h1
 obtain ⟨a3, l3, c3, a4, l4, c4, rfl, k3, k4⟩ := h2
 obtain ⟨P, hP⟩ : ∃ P, (r.num.natAbs : Int) / (Int.gcd r.num.natAbs s.den : Int) * ((s.num.natAbs : Int) / (Int.gcd s.num.natAbs r.den : Int)) = P := ⟨_, rfl⟩
 obtain ⟨Q, hQ⟩ : ∃ Q, (r.den : Int) / (Int.gcd s.num.natAbs r.den : Int) * ((s.den : Int) / (Int.gcd r.num.natAbs s.den : Int)) = Q := ⟨_, rfl⟩
 obtain ⟨t1, t2, t3⟩ := times_low r s P Q hP hQ
 have g1 : (0 : Int) < (Int.gcd r.num.natAbs s.den : Int) := by
  have : 0 < Int.gcd (r.num.natAbs : Int) (s.den : Int) := Int.gcd_pos_of_ne_zero_right _ (by have := den_p s; omega)
  omega
 have g2 : (0 : Int) < (Int.gcd s.num.natAbs r.den : Int) := by
  have : 0 < Int.gcd (s.num.natAbs : Int) (r.den : Int) := Int.gcd_pos_of_ne_zero_right _ (by have := den_p r; omega)
  omega
 have q1 : PS r (max m n) := s1.mono (by omega)
 have q2 : PS s (max m n) := s2.mono (by omega)
 have hmm : max m n ≤ 1000000 := by have := hk.2; omega
 have M1 : ∀ x a l c a' l' c', Nn x a l c ((r.num.natAbs : Int) / (Int.gcd r.num.natAbs s.den : Int)) → Nn x a' l' c' ((s.num.natAbs : Int) / (Int.gcd s.num.natAbs r.den : Int)) → Calls Tryz.prog 64 #[.agg #[.slice a l c], .agg #[.slice a' l' c']] x fun e w' => ∃ a l c, e = .returned (.agg #[.slice a l c]) ∧ Nn w' a l c P ∧ Below x.heap.size x w' := fun x a l c a' l' c' u v => by
  have := Mul_n u v (div_lt s1.1 (by omega) g1) (div_lt s2.1 (by omega) g2) hk
  rw [hP] at this
  exact this
 have M2 : ∀ x a l c a' l' c', Nn x a l c ((r.den : Int) / (Int.gcd s.num.natAbs r.den : Int)) → Nn x a' l' c' ((s.den : Int) / (Int.gcd r.num.natAbs s.den : Int)) → Calls Tryz.prog 64 #[.agg #[.slice a l c], .agg #[.slice a' l' c']] x fun e w' => ∃ a l c, e = .returned (.agg #[.slice a l c]) ∧ Nn w' a l c Q ∧ Below x.heap.size x w' := fun x a l c a' l' c' u v => by
  have := Mul_n u v (div_lt s1.2 (by omega) g2) (div_lt s2.2 (by omega) g1) hk
  rw [hQ] at this
  exact this
 refine (FTimes_raw _ _ a1 a2 a3 a4 l1 c1 l2 c2 l3 c3 l4 c4 _ _ _ _ _ _ P Q w k1 k2 k3 k4 (max m n) q1.1 q1.2 q2.1 q2.2 hmm rfl rfl g1 g2 M1 M2 (decide (P = 0)) _ rfl rfl).mono ?_
 rintro e w' ⟨a, l, c, a', l', c', rfl, n1, n2, b⟩
 refine ⟨_, rfl, ⟨a, l, c, a', l', c', ?_, by rw [t1]; exact n1, by rw [t2]; exact n2⟩, b⟩
 rw [t3]
theorem inv_num (r : Rat) (h : r ≠ 0) : decide ((r⁻¹).num < 0) = decide (r.num < 0) ∧ (r⁻¹).num.natAbs = r.den ∧ (r⁻¹).den = r.num.natAbs := by
 show decide ((Rat.inv r).num < 0) = _ ∧ (Rat.inv r).num.natAbs = _ ∧ (Rat.inv r).den = _
 unfold Rat.inv
 have hd := den_p r
 by_cases c : r.num < 0
 ·rw [dif_pos c]
  refine ⟨?_, by simp, rfl⟩
  simp [c]; omega
 ·rw [dif_neg c]
  by_cases c' : r.num > 0
  ·rw [dif_pos c']
   refine ⟨?_, by simp, rfl⟩
   simp [c]
  ·exact absurd (Rat.num_eq_zero.1 (show r.num = 0 by omega)) h
theorem Inverse_p (v : Value) (r : Rat) (w : World) (h : PF w v r) (h0 : r ≠ 0) :
  Calls Tryz.prog 43 #[v] w fun e w' => ∃ v', e = .returned v' ∧ PF w' v' r⁻¹ ∧ Below w.heap.size w w' := by
 obtain ⟨a, l, c, a', l', c', rfl, k1, k2⟩ := h
 refine (Inverse_any _ a a' l c l' c' w).mono ?_
 rintro e w' ⟨rfl, b⟩
 obtain ⟨i1, i2, i3⟩ := inv_num r h0
 exact ⟨_, rfl, ⟨a', l', c', a, l, c, by rw [i1], by rw [i2]; exact k2.grow b, by rw [i3]; exact k1.grow b⟩, b⟩
end Go.Proofs.YtebilgnmnambnaaGreatDoor.Mo

namespace Go.Proofs.YtebilgnmnambnaaGreatDoor.Mo
open Go.RowKit Tn
def Fa (r : Rat) (x : World) (e : Ending) (w' : World) : Prop := ∃ g a l c a' l' c', e = .returned (.agg #[.bool g, .slice a l c, .slice a' l' c']) ∧ PF w' (.agg #[.bool g, .slice a l c, .slice a' l' c']) r ∧ Below x.heap.size x w'
def Fr (r : Rat) (x : World) (e : Ending) (w' : World) : Prop := ∃ g a l c a' l' c', e = .returned (.tuple #[.agg #[.bool g, .slice a l c, .slice a' l' c'], .int .i64 0]) ∧ PF w' (.agg #[.bool g, .slice a l c, .slice a' l' c']) r ∧ Below x.heap.size x w'
theorem fa_of {P : Program} {f : Nat} {args : Array Value} {r : Rat} {x : World} (h : Calls P f args x fun e w' => ∃ v, e = .returned v ∧ PF w' v r ∧ Below x.heap.size x w') : Calls P f args x (Fa r x) := by
  refine h.mono ?_
  rintro e w' ⟨v, rfl, hp, b⟩
  obtain ⟨a, l, c, a', l', c', rfl, k1, k2⟩ := hp
  exact ⟨_, a, l, c, a', l', c', rfl, ⟨a, l, c, a', l', c', rfl, k1, k2⟩, b⟩
end Go.Proofs.YtebilgnmnambnaaGreatDoor.Mo

namespace Go.Proofs.YtebilgnmnambnaaGreatDoor.Mo
open Go.RowKit Tn Dc
end Go.Proofs.YtebilgnmnambnaaGreatDoor.Mo
