import Derived.Test.YtfalncbcomlelaaGreatDoorPart42
import Derived.Test.YtfalncbcomlelaaGreatDoorPart12
import Derived.Test.YtfalncbcomlelaaGreatDoorPart34
import Derived.Test.YtfalncbcomlelaaGreatDoorPart13
import Derived.Test.YtfalncbcomlelaaGreatDoorPart06
import Derived.Deep.RegionHeld3
import Derived.Deep.DeepCutAuto

namespace Go.Proofs.YtfalncbcomlelaaGreatDoor.Mo
open Go.RowKit Ip

/-- The slice is the whole number N of the reference's. -/
def Nl (x : World) (a : Option Addr) (l c : Nat) (N : Int) : Prop := ∃ xs : List Int, L.Rd x (.slice a l c) xs ∧ Tl.Nm xs ∧ Tl.val xs = N
theorem Nl.grow {x x' : World} {a : Option Addr} {l c : Nat} {N : Int} (h : Nl x a l c N) (b : Below x.heap.size x x') : Nl x' a l c N := by
 obtain ⟨xs, r, n, v⟩ := h
 exact ⟨xs, r.grow b, n, v⟩
theorem Nl.putF {w : World} {n : Nat} {a : Option Addr} {l c : Nat} {N : Int} {x y z : Value} {g : Bool} {a1 a2 : Option Addr} {n1 c1 n2 c2 : Nat} (h : Nl w a l c N) (R : Rb w n (.bool g) (.slice a1 n1 c1) (.slice a2 n2 c2)) : Nl (((w.setCell ⟨n, 0, none⟩ x).setCell ⟨n, 1, none⟩ y).setCell ⟨n, 2, none⟩ z) a l c N := by
 obtain ⟨t, K⟩ := R.bk
 obtain ⟨xs, r, n, v⟩ := h
 exact ⟨xs, r.putQ K, n, v⟩
theorem isq_nl {x : World} {r : Rat} {a a' : Option Addr} {l c l' c' : Nat} (h1 : Nl x a l c (r.num.natAbs : Int)) (h2 : Nl x a' l' c' (r.den : Int)) : L.IsQ x (.agg #[.bool (decide (r.num < 0)), .slice a l c, .slice a' l' c']) r := by
 obtain ⟨xs, r1, n1, v1⟩ := h1
 obtain ⟨ys, r2, n2, v2⟩ := h2
 have e1 : l = xs.length := by obtain ⟨_, _, _, e, _⟩ := r1; cases e; rfl
 have e2 : l' = ys.length := by obtain ⟨_, _, _, e, _⟩ := r2; cases e; rfl
 subst e1 e2
 exact ⟨xs, ys, a, a', c, c', rfl, r1, n1, v1, r2, n2, v2⟩
theorem nl_isq {x : World} {v : Value} {r : Rat} (h : L.IsQ x v r) : ∃ a l c a' l' c', v = .agg #[.bool (decide (r.num < 0)), .slice a l c, .slice a' l' c'] ∧ Nl x a l c (r.num.natAbs : Int) ∧ Nl x a' l' c' (r.den : Int) ∧ (l = 0 ↔ r.num = 0) := by
 obtain ⟨ns, ds, a1, a2, c1, c2, e, h1, n1, v1, h2, n2, v2⟩ := h
 refine ⟨a1, _, c1, a2, _, c2, e, ⟨ns, h1, n1, v1⟩, ⟨ds, h2, n2, v2⟩, ?_⟩
 constructor
 ·intro z
  have : ns = [] := List.length_eq_zero_iff.1 z
  subst this
  simp [Tl.val] at v1
  omega
 ·intro z
  rw [z] at v1
  by_cases e : ns = []
  ·subst e; rfl
  ·have := Tl.val_low h1.1 n1 e
   have := Tl.pw_pos (ns.length - 1)
   simp at v1
   omega
theorem qput {w : World} {n : Nat} {v : Value} {r : Rat} {x y z : Value} {g : Bool} {a1 a2 : Option Addr} {n1 c1 n2 c2 : Nat} (h : L.IsQ w v r) (R : Rb w n (.bool g) (.slice a1 n1 c1) (.slice a2 n2 c2)) : L.IsQ (((w.setCell ⟨n, 0, none⟩ x).setCell ⟨n, 1, none⟩ y).setCell ⟨n, 2, none⟩ z) v r := by
 obtain ⟨t, K⟩ := R.bk
 obtain ⟨ns, ds, a1, a2, c1, c2, e, h1, m1, v1, h2, m2, v2⟩ := h
 exact ⟨ns, ds, a1, a2, c1, c2, e, h1.putQ K, m1, v1, h2.putQ K, m2, v2⟩
def NLV (N : Int) (t : Value) (x : World) : Prop := ∃ a l c, t = .slice a l c ∧ Nl x a l c N
theorem NLV.grow {x x' : World} {N : Int} {t : Value} (h : NLV N t x) (b : Below x.heap.size x x') : NLV N t x' := by
 obtain ⟨a, l, c, e, h⟩ := h
 exact ⟨a, l, c, e, h.grow b⟩
structure IPQ (W x : World) (V0 V1 V2 V6 V7 V8 V9 V11 V12 V13 : Value) (N10 N14 : Int) (y0 y1 y2 y3 y4 y5 y6 y7 y8 y9 y10 y11 y12 y13 y14 : Bool) (t5 t6 t7 t8 t9 t10 t11 t12 t13 t14 t15 t16 t17 t18 t19 : Value) : Prop where
 bel : Below W.heap.size W x
 o0 : y0 = true → t5 = V0
 o1 : y1 = true → t6 = V1
 o2 : y2 = true → t7 = V2
 o6 : y6 = true → t11 = V6
 o7 : y7 = true → t12 = V7
 o8 : y8 = true → t13 = V8
 o9 : y9 = true → t14 = V9
 o11 : y11 = true → t16 = V11
 o12 : y12 = true → t17 = V12
 o13 : y13 = true → t18 = V13
 o10 : y10 = true → NLV N10 t15 x
 o14 : y14 = true → NLV N14 t19 x
 o3 : y3 = true → t8 = undef
 o4 : y4 = true → t9 = undef
 o5 : y5 = true → t10 = undef
 d1_0 : y1 = true → y0 = true
 d2_1 : y2 = true → y1 = true
 d4_3 : y4 = true → y3 = true
 d5_4 : y5 = true → y4 = true
 d6_2 : y6 = true → y2 = true
 d6_5 : y6 = true → y5 = true
 d8_7 : y8 = true → y7 = true
 d10_8 : y10 = true → y8 = true
 d10_9 : y10 = true → y9 = true
 d12_11 : y12 = true → y11 = true
 d14_12 : y14 = true → y12 = true
 d14_13 : y14 = true → y13 = true
theorem IPQ.grow {W x x' : World} {V0 V1 V2 V6 V7 V8 V9 V11 V12 V13 : Value} {N10 N14 : Int} {y0 y1 y2 y3 y4 y5 y6 y7 y8 y9 y10 y11 y12 y13 y14 : Bool} {t5 t6 t7 t8 t9 t10 t11 t12 t13 t14 t15 t16 t17 t18 t19 : Value} (h : IPQ W x V0 V1 V2 V6 V7 V8 V9 V11 V12 V13 N10 N14 y0 y1 y2 y3 y4 y5 y6 y7 y8 y9 y10 y11 y12 y13 y14 t5 t6 t7 t8 t9 t10 t11 t12 t13 t14 t15 t16 t17 t18 t19) (b : Below x.heap.size x x') : IPQ W x' V0 V1 V2 V6 V7 V8 V9 V11 V12 V13 N10 N14 y0 y1 y2 y3 y4 y5 y6 y7 y8 y9 y10 y11 y12 y13 y14 t5 t6 t7 t8 t9 t10 t11 t12 t13 t14 t15 t16 t17 t18 t19 where
 bel := bel' h.bel b
 o0 := h.o0
 o1 := h.o1
 o2 := h.o2
 o6 := h.o6
 o7 := h.o7
 o8 := h.o8
 o9 := h.o9
 o11 := h.o11
 o12 := h.o12
 o13 := h.o13
 o3 := h.o3
 o4 := h.o4
 o5 := h.o5
 o10 := fun u => (h.o10 u).grow b
 o14 := fun u => (h.o14 u).grow b
 d1_0 := h.d1_0
 d2_1 := h.d2_1
 d4_3 := h.d4_3
 d5_4 := h.d5_4
 d6_2 := h.d6_2
 d6_5 := h.d6_5
 d8_7 := h.d8_7
 d10_8 := h.d10_8
 d10_9 := h.d10_9
 d12_11 := h.d12_11
 d14_12 := h.d14_12
 d14_13 := h.d14_13
set_option maxHeartbeats 3200000 in
set_option maxRecDepth 100000 in
theorem Minus_r (g : Bool) (a a' : Option Addr) (l c l' c' : Nat) (w : World) :
  Calls Tryz.prog 28 #[.agg #[.bool g, .slice a l c, .slice a' l' c']] w fun e w' => e = .returned (.agg #[.bool (if l = 0 then g else !g), .slice a l c, .slice a' l' c']) ∧ Below w.heap.size w w' := by
 by_cases z : l = 0
 ·subst z
  rw [if_pos rfl]
  go_enter Tryz.func28, Tryz.ntmps28
  go_wp2
  exact bodyPost_ret (v := .agg #[.bool g, .slice a 0 c, .slice a' l' c']) (by simp [results, Tryz.results28, go_sem]) rfl ⟨rfl, ((Below.refl _ _).alloc (Nat.le_refl _) _).alloc (by simp) _⟩
 ·rw [if_neg z]
  have zz : (l : Int) > 0 := by omega
  clear z
  go_enter Tryz.func28, Tryz.ntmps28
  go_wp2
  exact bodyPost_ret (v := .agg #[.bool !g, .slice a l c, .slice a' l' c']) (by simp [results, Tryz.results28, go_sem]) rfl ⟨rfl, ((Below.refl _ _).alloc (Nat.le_refl _) _).alloc (by simp) _⟩
theorem Minus_q (v : Value) (r : Rat) (w : World) (h : L.IsQ w v r) : Calls Tryz.prog 28 #[v] w (Qf (-r) w) := by
 obtain ⟨a, l, c, a', l', c', rfl, n1, n2, z⟩ := nl_isq h
 refine (Minus_r _ a a' l c l' c' w).mono ?_
 rintro e w' ⟨rfl, b⟩
 have e0 : (if l = 0 then decide (r.num < 0) else !decide (r.num < 0)) = decide ((-r).num < 0) := by
  rw [Rat.neg_num]
  by_cases c : l = 0
  ·rw [if_pos c, z.1 c]; simp
  ·rw [if_neg c]
   have := fun e => c (z.2 e)
   by_cases d : r.num < 0
   ·simp [d]; omega
   ·simp [d]; omega
 refine ⟨_, a, l, c, a', l', c', rfl, ?_, b⟩
 rw [e0]
 exact isq_nl (by rw [Rat.neg_num, Int.natAbs_neg]; exact n1.grow b) (by rw [Rat.neg_den]; exact n2.grow b)
set_option maxHeartbeats 3200000 in
set_option maxRecDepth 100000 in
theorem RSub_r (g g1 : Bool) (a a' a1 a1' : Option Addr) (l c l' c' l1 c1 l1' c1' : Nat) (r s t u : Rat) (w : World) (hr : L.IsQ w (.agg #[.bool g, .slice a l c, .slice a' l' c']) r) (hs : L.IsQ w (.agg #[.bool g1, .slice a1 l1 c1, .slice a1' l1' c1']) s)
  (M : ∀ x v, L.IsQ x v s → Calls Tryz.prog 28 #[v] x (Qf t x)) (AD : ∀ x v1 v2, L.IsQ x v1 r → L.IsQ x v2 t → Calls Tryz.prog 30 #[v1, v2] x (Qf u x)) :
  Calls Tryz.prog 31 #[.agg #[.bool g, .slice a l c, .slice a' l' c'], .agg #[.bool g1, .slice a1 l1 c1, .slice a1' l1' c1']] w (Qf u w) := by
 have K0 := ((Rb.new w (.bool g) (.slice a l c) (.slice a' l' c') 66).alloc (.cells #[.bool g1, .slice a1 l1 c1, .slice a1' l1' c1'] 66)).alloc (.cells #[.bool false, .slice none 0 0, .slice none 0 0] 66)
 have K1 := (Rb.new (w.alloc (.cells #[.bool g, .slice a l c, .slice a' l' c'] 66)) (.bool g1) (.slice a1 l1 c1) (.slice a1' l1' c1') 66).alloc (.cells #[.bool false, .slice none 0 0, .slice none 0 0] 66)
 have K2 := Rb.new ((w.alloc (.cells #[.bool g, .slice a l c, .slice a' l' c'] 66)).alloc (.cells #[.bool g1, .slice a1 l1 c1, .slice a1' l1' c1'] 66)) (.bool false) (.slice none 0 0) (.slice none 0 0) 66
 have pr : Below w.heap.size w (((w.alloc (.cells #[.bool g, .slice a l c, .slice a' l' c'] 66)).alloc (.cells #[.bool g1, .slice a1 l1 c1, .slice a1' l1' c1'] 66)).alloc (.cells #[.bool false, .slice none 0 0, .slice none 0 0] 66)) := (((Below.refl _ _).alloc (Nat.le_refl _) _).alloc (by simp) _).alloc (by simp; omega) _
 simp only [World.size_alloc] at K1 K2
 replace hr := hr.grow pr
 replace hs := hs.grow pr
 go_enter Tryz.func31, Tryz.ntmps31
 go_wp2_with fail
 generalize ((w.alloc (.cells #[.bool g, .slice a l c, .slice a' l' c'] 66)).alloc (.cells #[.bool g1, .slice a1 l1 c1, .slice a1' l1' c1'] 66)).alloc (.cells #[.bool false, .slice none 0 0, .slice none 0 0] 66) = W at *
 have k0 := K0.c0
 have k1 := K0.c1
 have k2 := K0.c2
 have j0 := K1.c0
 have j1 := K1.c1
 have j2 := K1.c2
 obtain ⟨q, hq⟩ : ∃ q, w.heap.size + 1 + 1 = q := ⟨_, rfl⟩
 have HQ : Hid (w.heap.size ≤ q) := by show _ ≤ _; omega
 have o1 : w.heap.size ≠ q := by omega
 have o2 : q ≠ w.heap.size := by omega
 have o3 : w.heap.size + 1 ≠ q := by omega
 have o4 : q ≠ w.heap.size + 1 := by omega
 rw [hq] at K2 ⊢
 clear hq
 go_region_held3 (fun x => x.cell? ⟨w.heap.size, 0, none⟩ = some (.bool g) ∧ x.cell? ⟨w.heap.size, 1, none⟩ = some (.slice a l c) ∧ x.cell? ⟨w.heap.size, 2, none⟩ = some (.slice a' l' c') ∧ x.cell? ⟨w.heap.size + 1, 0, none⟩ = some (.bool g1) ∧ x.cell? ⟨w.heap.size + 1, 1, none⟩ = some (.slice a1 l1 c1) ∧ x.cell? ⟨w.heap.size + 1, 2, none⟩ = some (.slice a1' l1' c1')) (go_keep) (first
  | (go_at_call 30; (have z := d1); refine (AD _ _ _ (hr.grow d1) t1).mono ?_; rintro e w3 ⟨g3, a3, l3, c3, a3', l3', c3', rfl, t3, b3⟩; have d3 := bel' d1 b3; have x0 := (K0.grow d3).c0; have x1 := (K0.grow d3).c1; have x2 := (K0.grow d3).c2; have x3 := (K1.grow d3).c0; have x4 := (K1.grow d3).c1; have x5 := (K1.grow d3).c2; have R := K2.grow d3; have q0 := R.c0; have q1 := R.c1; have q2 := R.c2; have s0 := R.f0; have s1 := R.f1; have s2 := R.f2)
  | (go_at_call 28; refine (M _ _ (hs.grow ((Below.refl _ _).drew))).mono ?_; rintro e w2 ⟨g2, a2, l2, c2, a2', l2', c2', rfl, t1, b1⟩; have d1 := undrew b1; have y0 := (K0.grow d1).c0; have y1 := (K0.grow d1).c1; have y2 := (K0.grow d1).c2; have y3 := (K1.grow d1).c0; have y4 := (K1.grow d1).c1; have y5 := (K1.grow d1).c2)
  | fail)
 obtain ⟨F0, F1, F2⟩ := R.put (.bool g3) (.slice a3 l3 c3) (.slice a3' l3' c3')
 go_wp2
 exact bodyPost_ret (v := .agg #[.bool g3, .slice a3 l3 c3, .slice a3' l3' c3']) (by simp [results, Tryz.results31, go_sem, F0, F1, F2]) rfl ⟨g3, a3, l3, c3, a3', l3', c3', rfl, qput t3 R, bset3 (bel' pr d3) HQ.out⟩
/-- Q's Sub of the reference. -/
theorem QSub_q (v1 v2 : Value) (r s : Rat) (K : Nat) (w : World) (hr : L.IsQ w v1 r) (hs : L.IsQ w v2 s) (q1 : L.QS r K) (q2 : L.QS s K) (hK : K ≤ 1000000000) : Calls Tryz.prog 31 #[v1, v2] w (Qf (r - s) w) := by
 obtain ⟨a, l, c, a', l', c', rfl, _⟩ := nl_isq hr
 obtain ⟨a1, l1, c1, a1', l1', c1', rfl, _⟩ := nl_isq hs
 rw [Rat.sub_eq_add_neg]
 exact RSub_r _ _ a a' a1 a1' l c l' c' l1 c1 l1' c1' r s (-s) (r + -s) w hr hs (fun x v h => Minus_q v s x h) (fun x v1 v2 h1 h2 => qf_of (L.QAdd_any v1 v2 r (-s) K x h1 h2 q1 ⟨by rw [Rat.neg_num, Int.natAbs_neg]; exact q2.1, by rw [Rat.neg_den]; exact q2.2⟩ hK))
end Go.Proofs.YtfalncbcomlelaaGreatDoor.Mo
