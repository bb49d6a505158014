import Derived.Test.YtmopfnhjooopkaaGreatDoorPart30
import Derived.Test.YtmopfnhjooopkaaGreatDoorPart06
import Derived.Deep.DeepCutAuto

namespace Go.Proofs.YtmopfnhjooopkaaGreatDoor.Mo
open Go.RowKit Tn

theorem mul_num (r s : Rat) : (r * s).num = r.num / ((r.num.natAbs.gcd s.den : Nat) : Int) * (s.num / ((s.num.natAbs.gcd r.den : Nat) : Int)) := by
  show (Rat.mul r s).num = _
  unfold Rat.mul
  simp [Int.divExact_eq_ediv]
theorem mul_den (r s : Rat) : (r * s).den = r.den / (s.num.natAbs.gcd r.den) * (s.den / (r.num.natAbs.gcd s.den)) := by
  show (Rat.mul r s).den = _
  unfold Rat.mul
  simp [Nat.divExact_eq_div]
theorem abs_div {n : Int} {g : Nat} (h : g ∣ n.natAbs) : ((n / (g : Int)).natAbs : Int) = (n.natAbs : Int) / (g : Int) := by
  obtain ⟨k, hk⟩ := h
  by_cases g0 : g = 0
  · subst g0; simp
  · have : n = (g : Int) * k ∨ n = -((g : Int) * k) := by
      have := Int.natAbs_eq n
      rw [hk] at this
      simpa using this
    have gn : (g : Int) ≠ 0 := by omega
    rw [hk]
    rcases this with e | e
    · rw [e, Int.mul_ediv_cancel_left _ gn]
      simp [Int.mul_ediv_cancel_left _ gn]
    · rw [e, ← Int.mul_neg, Int.mul_ediv_cancel_left _ gn]
      simp [Int.mul_ediv_cancel_left _ gn]
theorem div_neg_iff {n : Int} {g : Nat} (h : g ∣ n.natAbs) (g0 : 0 < g) : n / (g : Int) < 0 ↔ n < 0 := by
  obtain ⟨k, hk⟩ := h
  have gn : (g : Int) ≠ 0 := by omega
  have : n = (g : Int) * k ∨ n = -((g : Int) * k) := by
    have := Int.natAbs_eq n
    rw [hk] at this
    simpa using this
  rcases this with e | e
  · rw [e, Int.mul_ediv_cancel_left _ gn]
    constructor
    · intro h; omega
    · intro h
      have := Int.mul_nonneg (show (0 : Int) ≤ (g : Int) by omega) (show (0 : Int) ≤ (k : Int) by omega)
      omega
  · rw [e, ← Int.mul_neg, Int.mul_ediv_cancel_left _ gn]
    constructor
    · intro h
      have := Int.mul_pos (show (0 : Int) < (g : Int) by omega) (show (0 : Int) < (k : Int) by omega)
      rw [Int.mul_neg]; omega
    · intro h
      by_cases k0 : k = 0
      · subst k0; simp at h
      · omega
/-- The parts of a product. -/
theorem times_low (r s : Rat) (P Q : Int) (hP : (r.num.natAbs : Int) / (Int.gcd r.num.natAbs s.den : Int) * ((s.num.natAbs : Int) / (Int.gcd s.num.natAbs r.den : Int)) = P)
    (hQ : (r.den : Int) / (Int.gcd s.num.natAbs r.den : Int) * ((s.den : Int) / (Int.gcd r.num.natAbs s.den : Int)) = Q) :
    ((r * s).num.natAbs : Int) = P ∧ ((r * s).den : Int) = Q ∧ decide ((r * s).num < 0) = ((decide (r.num < 0) != decide (s.num < 0)) && !decide (P = 0)) := by
  have e1 : (Int.gcd r.num.natAbs s.den : Nat) = r.num.natAbs.gcd s.den := by simp [Int.gcd]
  have e2 : (Int.gcd s.num.natAbs r.den : Nat) = s.num.natAbs.gcd r.den := by simp [Int.gcd]
  rw [e1, e2] at hP hQ
  have d1 := Nat.gcd_dvd_left r.num.natAbs s.den
  have d2 := Nat.gcd_dvd_left s.num.natAbs r.den
  have p1 : 0 < r.num.natAbs.gcd s.den := Nat.gcd_pos_of_pos_right _ (Nat.pos_of_ne_zero s.den_nz)
  have p2 : 0 < s.num.natAbs.gcd r.den := Nat.gcd_pos_of_pos_right _ (Nat.pos_of_ne_zero r.den_nz)
  have hn : ((r * s).num.natAbs : Int) = P := by
    rw [mul_num, Int.natAbs_mul, Int.natCast_mul, abs_div d1, abs_div d2]
    exact hP
  refine ⟨hn, ?_, ?_⟩
  · rw [mul_den, Int.natCast_mul, Int.natCast_ediv, Int.natCast_ediv]
    exact hQ
  · have z : (P = 0) ↔ (r * s).num = 0 := by rw [← hn]; omega
    have n1 := div_neg_iff d1 p1
    have n2 := div_neg_iff d2 p2
    rw [Bool.eq_iff_iff]
    simp only [Bool.and_eq_true, Bool.not_eq_true', decide_eq_true_eq, decide_eq_false_iff_not, bne_iff_ne, ne_eq]
    rw [z]
    rw [mul_num] at z ⊢
    generalize r.num / ((r.num.natAbs.gcd s.den : Nat) : Int) = x at *
    generalize s.num / ((s.num.natAbs.gcd r.den : Nat) : Int) = y at *
    rw [decide_eq_decide, ← n1, ← n2]
    constructor
    · intro h
      refine ⟨fun c => ?_, by omega⟩
      by_cases x0 : x < 0
      · have := Int.mul_nonneg_of_nonpos_of_nonpos (Int.le_of_lt x0) (Int.le_of_lt (c.1 x0))
        omega
      · have y0 : ¬ y < 0 := fun h => x0 (c.2 h)
        have := Int.mul_nonneg (show 0 ≤ x by omega) (show 0 ≤ y by omega)
        omega
    · rintro ⟨h1, h2⟩
      have hx : x ≠ 0 := fun e => h2 (by rw [e]; simp)
      have hy : y ≠ 0 := fun e => h2 (by rw [e]; simp)
      by_cases x0 : x < 0
      · have y0 : 0 < y := by
          by_cases c : y < 0
          · exact absurd ⟨fun _ => c, fun _ => x0⟩ h1
          · omega
        exact Int.mul_neg_of_neg_of_pos x0 y0
      · have y0 : y < 0 := by
          by_cases c : y < 0
          · exact c
          · exact absurd ⟨fun h => absurd h x0, fun h => absurd h c⟩ h1
        exact Int.mul_neg_of_pos_of_neg (by omega) y0
/-- The value v of the program's is the exact number r. -/
def PF (x : World) (v : Value) (r : Rat) : Prop := ∃ a l c a' l' c', v = .agg #[.bool (decide (r.num < 0)), .slice a l c, .slice a' l' c'] ∧ Nn x a l c (r.num.natAbs : Int) ∧ Nn x a' l' c' (r.den : Int)
theorem PF.grow {x x' : World} {v : Value} {r : Rat} (h : PF x v r) (b : Below x.heap.size x x') : PF x' v r := by
  obtain ⟨a, l, c, a', l', c', e, h1, h2⟩ := h
  exact ⟨a, l, c, a', l', c', e, h1.grow b, h2.grow b⟩
/-- Neither part has more than K words. -/
def PS (r : Rat) (K : Nat) : Prop := (r.num.natAbs : Int) < pw K ∧ (r.den : Int) < pw K
theorem PS.mono {r : Rat} {m n : Nat} (h : PS r m) (hm : m ≤ n) : PS r n := by
  have := pw_mono hm
  exact ⟨by have := h.1; omega, by have := h.2; omega⟩
theorem den_p (r : Rat) : (0 : Int) < (r.den : Int) := by have := r.den_nz; omega
theorem div_lt {A G : Int} {m : Nat} (h : A < pw m) (h0 : 0 ≤ A) (_ : 0 < G) : A / G < pw m := by
  have := Int.ediv_le_self G h0
  omega
theorem Times_p (v1 v2 : Value) (r s : Rat) (m n : Nat) (w : World) (h1 : PF w v1 r) (h2 : PF w v2 s) (s1 : PS r m) (s2 : PS s n) (hk : MulOK m n) :
    Calls Tryz.prog 30 #[v1, v2] w fun e w' => ∃ v, e = .returned v ∧ PF w' v (r * s) ∧ Below w.heap.size w w' := by
  obtain ⟨a1, l1, c1, a2, l2, c2, rfl, k1, k2⟩ := h1
  obtain ⟨a3, l3, c3, a4, l4, c4, rfl, k3, k4⟩ := h2
  obtain ⟨P, hP⟩ : ∃ P, (r.num.natAbs : Int) / (Int.gcd r.num.natAbs s.den : Int) * ((s.num.natAbs : Int) / (Int.gcd s.num.natAbs r.den : Int)) = P := ⟨_, rfl⟩
  obtain ⟨Q, hQ⟩ : ∃ Q, (r.den : Int) / (Int.gcd s.num.natAbs r.den : Int) * ((s.den : Int) / (Int.gcd r.num.natAbs s.den : Int)) = Q := ⟨_, rfl⟩
  obtain ⟨t1, t2, t3⟩ := times_low r s P Q hP hQ
  have g1 : (0 : Int) < (Int.gcd r.num.natAbs s.den : Int) := by
    have : 0 < Int.gcd (r.num.natAbs : Int) (s.den : Int) := Int.gcd_pos_of_ne_zero_right _ (by have := den_p s; omega)
    omega
  have g2 : (0 : Int) < (Int.gcd s.num.natAbs r.den : Int) := by
    have : 0 < Int.gcd (s.num.natAbs : Int) (r.den : Int) := Int.gcd_pos_of_ne_zero_right _ (by have := den_p r; omega)
    omega
  have q1 : PS r (max m n) := s1.mono (by omega)
  have q2 : PS s (max m n) := s2.mono (by omega)
  have hmm : max m n ≤ 1000000 := by have := hk.2; omega
  have M1 : ∀ x a l c a' l' c', Nn x a l c ((r.num.natAbs : Int) / (Int.gcd r.num.natAbs s.den : Int)) → Nn x a' l' c' ((s.num.natAbs : Int) / (Int.gcd s.num.natAbs r.den : Int)) → Calls Tryz.prog 53 #[.agg #[.slice a l c], .agg #[.slice a' l' c']] x fun e w' => ∃ a l c, e = .returned (.agg #[.slice a l c]) ∧ Nn w' a l c P ∧ Below x.heap.size x w' := fun x a l c a' l' c' u v => by
    have := Mul_n u v (div_lt s1.1 (by omega) g1) (div_lt s2.1 (by omega) g2) hk
    rw [hP] at this
    exact this
  have M2 : ∀ x a l c a' l' c', Nn x a l c ((r.den : Int) / (Int.gcd s.num.natAbs r.den : Int)) → Nn x a' l' c' ((s.den : Int) / (Int.gcd r.num.natAbs s.den : Int)) → Calls Tryz.prog 53 #[.agg #[.slice a l c], .agg #[.slice a' l' c']] x fun e w' => ∃ a l c, e = .returned (.agg #[.slice a l c]) ∧ Nn w' a l c Q ∧ Below x.heap.size x w' := fun x a l c a' l' c' u v => by
    have := Mul_n u v (div_lt s1.2 (by omega) g2) (div_lt s2.2 (by omega) g1) hk
    rw [hQ] at this
    exact this
  refine (FTimes_raw _ _ a1 a2 a3 a4 l1 c1 l2 c2 l3 c3 l4 c4 _ _ _ _ _ _ P Q w k1 k2 k3 k4 (max m n) q1.1 q1.2 q2.1 q2.2 hmm rfl rfl g1 g2 M1 M2 (decide (P = 0)) _ rfl rfl).mono ?_
  rintro e w' ⟨a, l, c, a', l', c', rfl, n1, n2, b⟩
  refine ⟨_, rfl, ⟨a, l, c, a', l', c', ?_, by rw [t1]; exact n1, by rw [t2]; exact n2⟩, b⟩
  rw [t3]
theorem OfInt_p (k : Int) (w : World) (h0 : -9223372036854775807 ≤ k) (h1 : k ≤ 9223372036854775807) :
    Calls Tryz.prog 29 #[.int .i64 k] w fun e w' => ∃ v, e = .returned v ∧ PF w' v (k : Rat) ∧ Below w.heap.size w w' := by
  refine (OfInt_any k w h0 h1).mono ?_
  rintro e w' ⟨v1, v2, xs, ys, rfl, r1, n1, q1, r2, n2, q2, b⟩
  obtain ⟨a, l, c, rfl⟩ := r1.shape
  obtain ⟨a', l', c', rfl⟩ := r2.shape
  exact ⟨_, rfl, ⟨a, l, c, a', l', c', rfl, ⟨xs, r1, n1, q1⟩, ⟨ys, r2, n2, q2⟩⟩, b⟩
theorem inv_num (r : Rat) (h : r ≠ 0) : decide ((r⁻¹).num < 0) = decide (r.num < 0) ∧ (r⁻¹).num.natAbs = r.den ∧ (r⁻¹).den = r.num.natAbs := by
  show decide ((Rat.inv r).num < 0) = _ ∧ (Rat.inv r).num.natAbs = _ ∧ (Rat.inv r).den = _
  unfold Rat.inv
  have hd := den_p r
  by_cases c : r.num < 0
  · rw [dif_pos c]
    refine ⟨?_, by simp, rfl⟩
    simp [c]; omega
  · rw [dif_neg c]
    by_cases c' : r.num > 0
    · rw [dif_pos c']
      refine ⟨?_, by simp, rfl⟩
      simp [c]
    · exact absurd (Rat.num_eq_zero.1 (show r.num = 0 by omega)) h
theorem Inverse_p (v : Value) (r : Rat) (w : World) (h : PF w v r) (h0 : r ≠ 0) :
    Calls Tryz.prog 31 #[v] w fun e w' => ∃ v', e = .returned v' ∧ PF w' v' r⁻¹ ∧ Below w.heap.size w w' := by
  obtain ⟨a, l, c, a', l', c', rfl, k1, k2⟩ := h
  refine (Inverse_any _ a a' l c l' c' w).mono ?_
  rintro e w' ⟨rfl, b⟩
  obtain ⟨i1, i2, i3⟩ := inv_num r h0
  exact ⟨_, rfl, ⟨a', l', c', a, l, c, by rw [i1], by rw [i2]; exact k2.grow b, by rw [i3]; exact k1.grow b⟩, b⟩
end Go.Proofs.YtmopfnhjooopkaaGreatDoor.Mo

namespace Go.Proofs.YtmopfnhjooopkaaGreatDoor.Mo
open Go.RowKit Tn Dc

end Go.Proofs.YtmopfnhjooopkaaGreatDoor.Mo

namespace Go.Proofs.YtmopfnhjooopkaaGreatDoor.Mo
open Go.RowKit Tn

/-- A fraction is answered, as its parts. -/
def Fa (r : Rat) (x : World) (e : Ending) (w' : World) : Prop := ∃ g a l c a' l' c', e = .returned (.agg #[.bool g, .slice a l c, .slice a' l' c']) ∧ PF w' (.agg #[.bool g, .slice a l c, .slice a' l' c']) r ∧ Below x.heap.size x w'
theorem fa_of {P : Program} {f : Nat} {args : Array Value} {r : Rat} {x : World} (h : Calls P f args x fun e w' => ∃ v, e = .returned v ∧ PF w' v r ∧ Below x.heap.size x w') : Calls P f args x (Fa r x) := by
  refine h.mono ?_
  rintro e w' ⟨v, rfl, hp, b⟩
  obtain ⟨a, l, c, a', l', c', rfl, k1, k2⟩ := hp
  exact ⟨_, a, l, c, a', l', c', rfl, ⟨a, l, c, a', l', c', rfl, k1, k2⟩, b⟩
end Go.Proofs.YtmopfnhjooopkaaGreatDoor.Mo

namespace Go.Proofs.YtmopfnhjooopkaaGreatDoor.Mo
open Go.RowKit Tn

structure LO1 (W x : World) (V0 V1 V5 V6 V7 V9 V10 : Value) (N8 N11 : Int) (y0 y1 y2 y3 y4 y5 y6 y7 y8 y9 y10 y11 : Bool) (t11 t12 t13 t14 t15 t16 t17 t18 t19 t20 t21 t22 : Value) : Prop where
  bel : Below W.heap.size W x
  o0 : y0 = true → t11 = V0
  o1 : y1 = true → t12 = V1
  o5 : y5 = true → t16 = V5
  o6 : y6 = true → t17 = V6
  o7 : y7 = true → t18 = V7
  o9 : y9 = true → t20 = V9
  o10 : y10 = true → t21 = V10
  o8 : y8 = true → NV N8 t19 x
  o11 : y11 = true → NV N11 t22 x
  o2 : y2 = true → t13 = undef
  o3 : y3 = true → t14 = undef
  o4 : y4 = true → t15 = undef
  d1_0 : y1 = true → y0 = true
  d3_2 : y3 = true → y2 = true
  d5_1 : y5 = true → y1 = true
  d5_4 : y5 = true → y4 = true
  d8_3 : y8 = true → y3 = true
  d8_6 : y8 = true → y6 = true
  d8_7 : y8 = true → y7 = true
  d11_9 : y11 = true → y9 = true
  d11_10 : y11 = true → y10 = true
theorem LO1.grow {W x x' : World} {V0 V1 V5 V6 V7 V9 V10 : Value} {N8 N11 : Int} {y0 y1 y2 y3 y4 y5 y6 y7 y8 y9 y10 y11 : Bool} {t11 t12 t13 t14 t15 t16 t17 t18 t19 t20 t21 t22 : Value} (h : LO1 W x V0 V1 V5 V6 V7 V9 V10 N8 N11 y0 y1 y2 y3 y4 y5 y6 y7 y8 y9 y10 y11 t11 t12 t13 t14 t15 t16 t17 t18 t19 t20 t21 t22) (b : Below x.heap.size x x') : LO1 W x' V0 V1 V5 V6 V7 V9 V10 N8 N11 y0 y1 y2 y3 y4 y5 y6 y7 y8 y9 y10 y11 t11 t12 t13 t14 t15 t16 t17 t18 t19 t20 t21 t22 where
  bel := bel' h.bel b
  o0 := h.o0
  o1 := h.o1
  o5 := h.o5
  o6 := h.o6
  o7 := h.o7
  o9 := h.o9
  o10 := h.o10
  o2 := h.o2
  o3 := h.o3
  o4 := h.o4
  o8 := fun u => (h.o8 u).grow b
  o11 := fun u => (h.o11 u).grow b
  d1_0 := h.d1_0
  d3_2 := h.d3_2
  d5_1 := h.d5_1
  d5_4 := h.d5_4
  d8_3 := h.d8_3
  d8_6 := h.d8_6
  d8_7 := h.d8_7
  d11_9 := h.d11_9
  d11_10 := h.d11_10
set_option maxHeartbeats 3200000 in
set_option maxRecDepth 100000 in
theorem Lowest_raw (A1 A2 : Option Addr) (M1 C1 M2 C2 : Nat) (G P Q : Int) (w : World)
    (U0 : ∀ x, Below w.heap.size w x → Calls Tryz.prog 91 #[.agg #[.slice A1 M1 C1], .agg #[.slice A2 M2 C2]] x fun e w' => ∃ a l c, e = .returned (.agg #[.slice a l c]) ∧ Nn w' a l c G ∧ Below x.heap.size x w') (U1' : ∀ x a l c, Below w.heap.size w x → Nn x a l c G → Calls Tryz.prog 92 #[.agg #[.slice A1 M1 C1], .agg #[.slice a l c]] x fun e w' => ∃ a l c, e = .returned (.agg #[.slice a l c]) ∧ Nn w' a l c P ∧ Below x.heap.size x w') (U2' : ∀ x a l c, Below w.heap.size w x → Nn x a l c G → Calls Tryz.prog 92 #[.agg #[.slice A2 M2 C2], .agg #[.slice a l c]] x fun e w' => ∃ a l c, e = .returned (.agg #[.slice a l c]) ∧ Nn w' a l c Q ∧ Below x.heap.size x w') :
    Calls Tryz.prog 173 #[.bool false, .agg #[.slice A1 M1 C1], .agg #[.slice A2 M2 C2]] w fun e w' => ∃ a l c a' l' c', e = .returned (.agg #[.bool false, .slice a l c, .slice a' l' c']) ∧ Nn w' a l c P ∧ Nn w' a' l' c' Q ∧ Below w.heap.size w w' := by
  have K1 := ((Bx.new w (.slice A1 M1 C1) 55).alloc (.cells #[.slice A2 M2 C2] 55)).alloc (.cells #[.bool false, .slice none 0 0, .slice none 0 0] 57)
  have K2 := (Bx.new (w.alloc (.cells #[.slice A1 M1 C1] 55)) (.slice A2 M2 C2) 55).alloc (.cells #[.bool false, .slice none 0 0, .slice none 0 0] 57)
  have KR := Rb.new ((w.alloc (.cells #[.slice A1 M1 C1] 55)).alloc (.cells #[.slice A2 M2 C2] 55)) (.bool false) (.slice none 0 0) (.slice none 0 0) 57
  have pr : Below w.heap.size w (((w.alloc (.cells #[.slice A1 M1 C1] 55)).alloc (.cells #[.slice A2 M2 C2] 55)).alloc (.cells #[.bool false, .slice none 0 0, .slice none 0 0] 57)) := (((Below.refl _ _).alloc (Nat.le_refl _) _).alloc (by simp) _).alloc (by simp; omega) _
  simp only [World.size_alloc] at K2 KR
  have k1 := K1.1
  have k2 := K2.1
  go_enter Tryz.func173, Tryz.ntmps173
  go_wp2_with (first
    | (go_at_call 91; refine (U0 _ pr).mono ?_; rintro e w1 ⟨A3, M3, C3, rfl, n3, b1⟩; have al := (Below.refl w1.heap.size w1).alloc (Nat.le_refl _) (.cells #[.slice A3 M3 C3] 55); have KZ := Bx.new w1 (.slice A3 M3 C3) 55; have bb := bel' b1 al; have pW := bel' pr bb)
    | fail)
  replace K1 := K1.below bb
  replace K2 := K2.below bb
  replace KR := KR.grow bb
  have n3' := n3.grow al
  have U1 := fun x b => U1' x A3 M3 C3 (bel' pW b) (n3'.grow b)
  have U2 := fun x b => U2' x A3 M3 C3 (bel' pW b) (n3'.grow b)
  generalize w1.heap.size = Z at *
  generalize w1.alloc (.cells #[.slice A3 M3 C3] 55) = W at *
  clear U0 U1' U2' bb al n3 b1 k1 k2 pr
  go_cut [] from 11 to 23 (fun wd => ∃ x0 a1 l1 c1 a2 l2 c2, wd = ((x0.setCell ⟨w.heap.size + 1 + 1, 0, none⟩ (.bool false)).setCell ⟨w.heap.size + 1 + 1, 1, none⟩ (.slice a1 l1 c1)).setCell ⟨w.heap.size + 1 + 1, 2, none⟩ (.slice a2 l2 c2) ∧ Nn x0 a1 l1 c1 P ∧ Nn x0 a2 l2 c2 Q ∧ Below W.heap.size W x0)
  case first =>
    rename_i hm hJ
    refine wp_region_held (S := fun _ => True) (by kernel_rfl) (any_inv (fun listed a x => ∃ (y0 y1 y2 y3 y4 y5 y6 y7 y8 y9 y10 y11 : Bool) (t11 t12 t13 t14 t15 t16 t17 t18 t19 t20 t21 t22 : Value) (z23 : Value), a = ⟨#[.bool false, .agg #[.slice A1 M1 C1], .agg #[.slice A2 M2 C2], undef, .pointer (some ⟨w.heap.size, 0, none⟩), .pointer (some ⟨w.heap.size + 1, 0, none⟩), .pointer (some ⟨w.heap.size + 1 + 1, 0, none⟩), .pointer (some ⟨Z, 0, none⟩), .agg #[.slice A1 M1 C1], .agg #[.slice A2 M2 C2], .agg #[.slice A3 M3 C3], t11, t12, t13, t14, t15, t16, t17, t18, t19, t20, t21, t22, z23], []⟩ ∧ ((listed = #[y0, y1, y2, y3, y4, y5, y6, y7, y8, y9, y10, y11, false, false] ∧ LO1 W x (.bool false) (.bool false) (.bool false) (.agg #[.slice A1 M1 C1]) (.agg #[.slice A3 M3 C3]) (.agg #[.slice A2 M2 C2]) (.agg #[.slice A3 M3 C3]) (P) (Q) y0 y1 y2 y3 y4 y5 y6 y7 y8 y9 y10 y11 t11 t12 t13 t14 t15 t16 t17 t18 t19 t20 t21 t22 ∧ z23 = undef) ∨ (listed = #[true, true, true, true, true, true, true, true, true, true, true, true, true, false] ∧ ∃ a1 l1 c1 a2 l2 c2, z23 = .agg #[.bool false, .slice a1 l1 c1, .slice a2 l2 c2] ∧ Nn x a1 l1 c1 P ∧ Nn x a2 l2 c2 Q ∧ Below W.heap.size W x) ∨ (listed = #[true, true, true, true, true, true, true, true, true, true, true, true, true, true] ∧ ∃ x0 a1 l1 c1 a2 l2 c2, x = ((x0.setCell ⟨w.heap.size + 1 + 1, 0, none⟩ (.bool false)).setCell ⟨w.heap.size + 1 + 1, 1, none⟩ (.slice a1 l1 c1)).setCell ⟨w.heap.size + 1 + 1, 2, none⟩ (.slice a2 l2 c2) ∧ Nn x0 a1 l1 c1 P ∧ Nn x0 a2 l2 c2 Q ∧ Below W.heap.size W x0))) ?_ ?_ _ _ _ _ (by decide) ?_)
    · rintro listed a x i ⟨y0, y1, y2, y3, y4, y5, y6, y7, y8, y9, y10, y11, t11, t12, t13, t14, t15, t16, t17, t18, t19, t20, t21, t22, z23, rfl, h⟩ hi
      have hr : i < 14 := List.mem_range.1 (List.mem_filter.1 hi).1
      have hc := (List.mem_filter.1 hi).2
      rcases h with ⟨rfl, h⟩ | ⟨rfl, h⟩ | ⟨rfl, h⟩
      · rcases (show i = 0 ∨ i = 1 ∨ i = 2 ∨ i = 3 ∨ i = 4 ∨ i = 5 ∨ i = 6 ∨ i = 7 ∨ i = 8 ∨ i = 9 ∨ i = 10 ∨ i = 11 ∨ i = 12 ∨ i = 13 by omega) with rfl | rfl | rfl | rfl | rfl | rfl | rfl | rfl | rfl | rfl | rfl | rfl | rfl | rfl
        · obtain ⟨h, rfl⟩ := h
          clear hc hi
          refine wpOp_go rfl rfl (fun K hK => ?_)
          go_wp2_with fail
          exact hK.out _ _ ⟨true,_,_,_,_,_,_,_,_,_,_,_,.bool false,_,_,_,_,_,_,_,_,_,_,_,undef,rfl,Or.inl ⟨rfl, ⟨{ h with o0 := fun _ => rfl, d1_0 := fun _ => rfl }, rfl⟩⟩⟩
        · obtain ⟨h, rfl⟩ := h
          have e0 : y0 = true := by revert hc; cases y0 <;> simp [Region.binds]
          have r0 := h.o0 e0; subst r0
          clear hc hi
          refine wpOp_go rfl rfl (fun K hK => ?_)
          go_wp2_with fail
          exact hK.out _ _ ⟨_,true,_,_,_,_,_,_,_,_,_,_,_,.bool false,_,_,_,_,_,_,_,_,_,_,undef,rfl,Or.inl ⟨rfl, ⟨{ h with o1 := fun _ => rfl, d1_0 := fun _ => e0, d5_1 := fun _ => rfl }, rfl⟩⟩⟩
        · obtain ⟨h, rfl⟩ := h
          have e1 : y1 = true := by revert hc; cases y1 <;> simp [Region.binds]
          have r1 := h.o1 e1; subst r1
          clear hc hi
          exact wpOp_skip rfl rfl ⟨y0, y1, true, y3, y4, y5, y6, y7, y8, y9, y10, y11, t11, _, _, t14, t15, t16, t17, t18, t19, t20, t21, t22, undef, rfl, Or.inl ⟨rfl, ⟨{ h with o2 := fun _ => rfl, d3_2 := fun _ => rfl }, rfl⟩⟩⟩
        · obtain ⟨h, rfl⟩ := h
          have e2 : y2 = true := by revert hc; cases y2 <;> simp [Region.binds]
          have e1 : y1 = true := by revert hc; cases y1 <;> simp [Region.binds]
          have r1 := h.o1 e1; subst r1
          clear hc hi
          exact wpOp_skip rfl rfl ⟨y0, y1, y2, true, y4, y5, y6, y7, y8, y9, y10, y11, t11, _, t13, _, t15, t16, t17, t18, t19, t20, t21, t22, undef, rfl, Or.inl ⟨rfl, ⟨{ h with o3 := fun _ => rfl, d3_2 := fun _ => e2, d8_3 := fun _ => rfl }, rfl⟩⟩⟩
        · obtain ⟨h, rfl⟩ := h
          have e1 : y1 = true := by revert hc; cases y1 <;> simp [Region.binds]
          have r1 := h.o1 e1; subst r1
          clear hc hi
          exact wpOp_skip rfl rfl ⟨y0, y1, y2, y3, true, y5, y6, y7, y8, y9, y10, y11, t11, _, t13, t14, _, t16, t17, t18, t19, t20, t21, t22, undef, rfl, Or.inl ⟨rfl, ⟨{ h with o4 := fun _ => rfl, d5_4 := fun _ => rfl }, rfl⟩⟩⟩
        · obtain ⟨h, rfl⟩ := h
          have e1 : y1 = true := by revert hc; cases y1 <;> simp [Region.binds]
          have e4 : y4 = true := by revert hc; cases y4 <;> simp [Region.binds]
          have r1 := h.o1 e1; subst r1
          have r4 := h.o4 e4; subst r4
          clear hc hi
          refine wpOp_go rfl rfl (fun K hK => ?_)
          go_wp2_with fail
          exact hK.out _ _ ⟨_,_,_,_,_,true,_,_,_,_,_,_,_,_,_,_,_,.bool false,_,_,_,_,_,_,undef,rfl,Or.inl ⟨rfl, ⟨{ h with o5 := fun _ => rfl, d5_1 := fun _ => e1, d5_4 := fun _ => e4 }, rfl⟩⟩⟩
        · obtain ⟨h, rfl⟩ := h
          clear hc hi
          have kd := (K1.below h.bel).1
          refine wpOp_go rfl rfl (fun K hK => ?_)
          go_wp2_with fail
          exact hK.out _ _ ⟨_,_,_,_,_,_,true,_,_,_,_,_,_,_,_,_,_,_,.agg #[.slice A1 M1 C1],_,_,_,_,_,undef,rfl,Or.inl ⟨rfl, ⟨{ h with o6 := fun _ => rfl, d8_6 := fun _ => rfl }, rfl⟩⟩⟩
        · obtain ⟨h, rfl⟩ := h
          clear hc hi
          have kd := (KZ.below h.bel).1
          refine wpOp_go rfl rfl (fun K hK => ?_)
          go_wp2_with fail
          exact hK.out _ _ ⟨_,_,_,_,_,_,_,true,_,_,_,_,_,_,_,_,_,_,_,.agg #[.slice A3 M3 C3],_,_,_,_,undef,rfl,Or.inl ⟨rfl, ⟨{ h with o7 := fun _ => rfl, d8_7 := fun _ => rfl }, rfl⟩⟩⟩
        · obtain ⟨h, rfl⟩ := h
          have e3 : y3 = true := by revert hc; cases y3 <;> simp [Region.binds]
          have e6 : y6 = true := by revert hc; cases y6 <;> simp [Region.binds]
          have e7 : y7 = true := by revert hc; cases y7 <;> simp [Region.binds]
          have r6 := h.o6 e6; subst r6
          have r7 := h.o7 e7; subst r7
          clear hc hi
          refine wpOp_go rfl rfl (fun K hK => ?_)
          go_wp2_with (first | (go_at_call 92; go_must (refine (U1 x h.bel).mono ?_; rintro e x2 ⟨a9, l9, c9, rfl, H9, bb⟩)) | fail)
          exact hK.out _ _ ⟨_,_,_,_,_,_,_,_,true,_,_,_,_,_,_,_,_,_,_,_,_,_,_,_,undef,rfl,Or.inl ⟨rfl, ⟨{ h.grow bb with o8 := fun _ => ⟨a9, l9, c9, rfl, H9⟩, d8_3 := fun _ => e3, d8_6 := fun _ => e6, d8_7 := fun _ => e7 }, rfl⟩⟩⟩
        · obtain ⟨h, rfl⟩ := h
          clear hc hi
          have kd := (K2.below h.bel).1
          refine wpOp_go rfl rfl (fun K hK => ?_)
          go_wp2_with fail
          exact hK.out _ _ ⟨_,_,_,_,_,_,_,_,_,true,_,_,_,_,_,_,_,_,_,_,_,.agg #[.slice A2 M2 C2],_,_,undef,rfl,Or.inl ⟨rfl, ⟨{ h with o9 := fun _ => rfl, d11_9 := fun _ => rfl }, rfl⟩⟩⟩
        · obtain ⟨h, rfl⟩ := h
          clear hc hi
          have kd := (KZ.below h.bel).1
          refine wpOp_go rfl rfl (fun K hK => ?_)
          go_wp2_with fail
          exact hK.out _ _ ⟨_,_,_,_,_,_,_,_,_,_,true,_,_,_,_,_,_,_,_,_,_,_,.agg #[.slice A3 M3 C3],_,undef,rfl,Or.inl ⟨rfl, ⟨{ h with o10 := fun _ => rfl, d11_10 := fun _ => rfl }, rfl⟩⟩⟩
        · obtain ⟨h, rfl⟩ := h
          have e9 : y9 = true := by revert hc; cases y9 <;> simp [Region.binds]
          have e10 : y10 = true := by revert hc; cases y10 <;> simp [Region.binds]
          have r9 := h.o9 e9; subst r9
          have r10 := h.o10 e10; subst r10
          clear hc hi
          refine wpOp_go rfl rfl (fun K hK => ?_)
          go_wp2_with (first | (go_at_call 92; go_must (refine (U2 x h.bel).mono ?_; rintro e x2 ⟨a9, l9, c9, rfl, H9, bb⟩)) | fail)
          exact hK.out _ _ ⟨_,_,_,_,_,_,_,_,_,_,_,true,_,_,_,_,_,_,_,_,_,_,_,_,undef,rfl,Or.inl ⟨rfl, ⟨{ h.grow bb with o11 := fun _ => ⟨a9, l9, c9, rfl, H9⟩, d11_9 := fun _ => e9, d11_10 := fun _ => e10 }, rfl⟩⟩⟩
        · obtain ⟨h, rfl⟩ := h
          have e5 : y5 = true := by revert hc; cases y5 <;> simp [Region.binds]
          have e8 : y8 = true := by revert hc; cases y8 <;> simp [Region.binds]
          have e11 : y11 = true := by revert hc; cases y11 <;> simp [Region.binds]
          have e1 := h.d5_1 e5
          have e3 := h.d8_3 e8
          have e4 := h.d5_4 e5
          have e6 := h.d8_6 e8
          have e7 := h.d8_7 e8
          have e9 := h.d11_9 e11
          have e10 := h.d11_10 e11
          have e0 := h.d1_0 e1
          have e2 := h.d3_2 e3
          have r5 := h.o5 e5; subst r5
          obtain ⟨a8, l8, c8, rfl, H8⟩ := h.o8 e8
          obtain ⟨a11, l11, c11, rfl, H11⟩ := h.o11 e11
          clear hc hi
          subst e0 e1 e2 e3 e4 e5 e6 e7 e8 e9 e10 e11
          have bl := h.bel
          clear h
          refine wpOp_go rfl rfl (fun K hK => ?_)
          go_wp2_with fail
          exact hK.out _ _ ⟨true,true,true,true,true,true,true,true,true,true,true,true,_,_,_,_,_,_,_,_,_,_,_,_,_,rfl,Or.inr (Or.inl ⟨rfl, a8, l8, c8, a11, l11, c11, rfl, H8, H11, bl⟩)⟩
        · simp [Region.binds] at hc
      · rcases (show i = 0 ∨ i = 1 ∨ i = 2 ∨ i = 3 ∨ i = 4 ∨ i = 5 ∨ i = 6 ∨ i = 7 ∨ i = 8 ∨ i = 9 ∨ i = 10 ∨ i = 11 ∨ i = 12 ∨ i = 13 by omega) with rfl | rfl | rfl | rfl | rfl | rfl | rfl | rfl | rfl | rfl | rfl | rfl | rfl | rfl
        · simp at hc
        · simp at hc
        · simp at hc
        · simp at hc
        · simp at hc
        · simp at hc
        · simp at hc
        · simp at hc
        · simp at hc
        · simp at hc
        · simp at hc
        · simp at hc
        · simp at hc
        · clear hc hi
          obtain ⟨a1, l1, c1, a2, l2, c2, rfl, H1, H2, bl⟩ := h
          have kr := KR.grow bl
          have kr0 := kr.c0
          have kr1 := kr.c1
          have kr2 := kr.c2
          have kf0 := kr.f0
          have kf1 := kr.f1
          have kf2 := kr.f2
          clear kr
          refine wpOp_go rfl rfl (fun K hK => ?_)
          go_wp2_with fail
          exact hK.out _ _ ⟨true,true,true,true,true,true,true,true,true,true,true,true,_,_,_,_,_,_,_,_,_,_,_,_,_,rfl,Or.inr (Or.inr (⟨rfl, x, a1, l1, c1, a2, l2, c2, rfl, H1, H2, bl⟩))⟩
      · rcases (show i = 0 ∨ i = 1 ∨ i = 2 ∨ i = 3 ∨ i = 4 ∨ i = 5 ∨ i = 6 ∨ i = 7 ∨ i = 8 ∨ i = 9 ∨ i = 10 ∨ i = 11 ∨ i = 12 ∨ i = 13 by omega) with rfl | rfl | rfl | rfl | rfl | rfl | rfl | rfl | rfl | rfl | rfl | rfl | rfl | rfl <;> simp at hc
    · rintro listed a x ⟨y0, y1, y2, y3, y4, y5, y6, y7, y8, y9, y10, y11, t11, t12, t13, t14, t15, t16, t17, t18, t19, t20, t21, t22, z23, rfl, h⟩ hn
      have al := all_listed (by decide +kernel) hn
      rcases h with ⟨rfl, h⟩ | ⟨rfl, h⟩ | ⟨rfl, h⟩
      · have z := al 12 (by decide)
        simp at z
      · have z := al 13 (by decide)
        simp at z
      · obtain ⟨x0, a1, l1, c1, a2, l2, c2, rfl, H1, H2, bl⟩ := h
        refine hJ _ _ ?_
        go_meet
        case rel => exact ⟨x0, a1, l1, c1, a2, l2, c2, rfl, H1, H2, bl⟩
    · exact ⟨false, false, false, false, false, false, false, false, false, false, false, false, undef, undef, undef, undef, undef, undef, undef, undef, undef, undef, undef, undef, undef, rfl, Or.inl ⟨rfl, ⟨{ bel := (Below.refl _ _).drew, o0 := (by intro q; cases q), o1 := (by intro q; cases q), o2 := (by intro q; cases q), o3 := (by intro q; cases q), o4 := (by intro q; cases q), o5 := (by intro q; cases q), o6 := (by intro q; cases q), o7 := (by intro q; cases q), o8 := (by intro q; cases q), o9 := (by intro q; cases q), o10 := (by intro q; cases q), o11 := (by intro q; cases q), d1_0 := (by intro q; cases q), d3_2 := (by intro q; cases q), d5_1 := (by intro q; cases q), d5_4 := (by intro q; cases q), d8_3 := (by intro q; cases q), d8_6 := (by intro q; cases q), d8_7 := (by intro q; cases q), d11_9 := (by intro q; cases q), d11_10 := (by intro q; cases q) }, rfl⟩⟩⟩
  case rest =>
    obtain ⟨x0, a1, l1, c1, a2, l2, c2, rfl, H1, H2, bl⟩ := hcut
    have kr := KR.grow bl
    have q7 := H1.putF (x := .bool false) (y := .slice a1 l1 c1) (z := .slice a2 l2 c2) kr
    have q8 := H2.putF (x := .bool false) (y := .slice a1 l1 c1) (z := .slice a2 l2 c2) kr
    obtain ⟨z0, z1, z2⟩ := kr.put (.bool false) (.slice a1 l1 c1) (.slice a2 l2 c2)
    have bE := bset3 (n := w.heap.size + 1 + 1) (x := .bool false) (y := .slice a1 l1 c1) (z := .slice a2 l2 c2) (bel' pW bl) (by omega)
    go_wp2_with fail
    generalize ((x0.setCell ⟨w.heap.size + 1 + 1, 0, none⟩ (.bool false)).setCell ⟨w.heap.size + 1 + 1, 1, none⟩ (.slice a1 l1 c1)).setCell ⟨w.heap.size + 1 + 1, 2, none⟩ (.slice a2 l2 c2) = WE at *
    exact bodyPost_ret (v := .agg #[.bool false, .slice a1 l1 c1, .slice a2 l2 c2]) (by simp [results, Tryz.results173, go_sem, z0, z1, z2]) rfl ⟨a1, l1, c1, a2, l2, c2, rfl, q7, q8, bE⟩
theorem mk_num (N D : Nat) (h : D ≠ 0) : (mkRat (N : Int) D).num = ((N / Nat.gcd N D : Nat) : Int) ∧ (mkRat (N : Int) D).den = D / Nat.gcd N D := by
  rw [Rat.num_mkRat, Rat.den_mkRat, if_neg h, if_neg h, Nat.gcd_comm]
  simp
/-- Lowest of two whole numbers. -/
theorem Lowest_p (A1 A2 : Option Addr) (M1 C1 M2 C2 N D : Nat) (m : Nat) (w : World) (h1 : Nn w A1 M1 C1 (N : Int)) (h2 : Nn w A2 M2 C2 (D : Int)) (hD : D ≠ 0) (b1 : (N : Int) < pw m) (b2 : (D : Int) < pw m) (hm : m ≤ 1000000) :
    Calls Tryz.prog 173 #[.bool false, .agg #[.slice A1 M1 C1], .agg #[.slice A2 M2 C2]] w fun e w' => ∃ v, e = .returned v ∧ PF w' v (mkRat (N : Int) D) ∧ Below w.heap.size w w' := by
  obtain ⟨e1, e2⟩ := mk_num N D hD
  have g0 : 0 < Nat.gcd N D := Nat.gcd_pos_of_pos_right _ (by omega)
  have eg : (Int.gcd (N : Int) (D : Int) : Int) = ((Nat.gcd N D : Nat) : Int) := by simp [Int.gcd]
  refine (Lowest_raw A1 A2 M1 C1 M2 C2 ((Nat.gcd N D : Nat) : Int) ((N / Nat.gcd N D : Nat) : Int) ((D / Nat.gcd N D : Nat) : Int) w (fun x b => ?_) (fun x a l c b k => ?_) (fun x a l c b k => ?_)).mono ?_
  · have := GCD_n (h1.grow b) (h2.grow b) b1 b2 hm
    rw [eg] at this
    exact this
  · have := by_n (h1.grow b) k b1 (by omega) hm
    rw [← Int.natCast_ediv] at this
    exact this
  · have := by_n (h2.grow b) k b2 (by omega) hm
    rw [← Int.natCast_ediv] at this
    exact this
  · rintro e w' ⟨a, l, c, a', l', c', rfl, n1, n2, b⟩
    exact ⟨_, rfl, ⟨a, l, c, a', l', c', by rw [e1, decide_eq_false (Int.not_lt.2 (Int.natCast_nonneg _))], by rw [e1]; exact n1, by rw [e2]; exact n2⟩, b⟩
end Go.Proofs.YtmopfnhjooopkaaGreatDoor.Mo
