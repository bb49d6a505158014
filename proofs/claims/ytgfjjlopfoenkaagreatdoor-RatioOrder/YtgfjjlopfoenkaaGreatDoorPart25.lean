import Derived.Test.YtgfjjlopfoenkaaGreatDoorPart24
import Derived.Test.YtgfjjlopfoenkaaGreatDoorPart17
import Derived.Test.YtgfjjlopfoenkaaGreatDoorPart22
import Derived.Deep.DeepCutAuto

namespace Go.Proofs.YtgfjjlopfoenkaaGreatDoor.Mo
open Go.RowKit Dc Tn

/-- A whole number of the program's, by its value. -/
def Nn (x : World) (a : Option Addr) (l c : Nat) (N : Int) : Prop := ∃ xs, Rd x (.slice a l c) xs ∧ Nm xs ∧ val xs = N
theorem Nn.grow {x x' : World} {a : Option Addr} {l c : Nat} {N : Int} (h : Nn x a l c N) (b : Below x.heap.size x x') : Nn x' a l c N := by
  obtain ⟨xs, r, n, v⟩ := h
  exact ⟨xs, r.grow b, n, v⟩
theorem Nn.nonneg {x : World} {a : Option Addr} {l c : Nat} {N : Int} (h : Nn x a l c N) : 0 ≤ N := by
  obtain ⟨xs, r, n, rfl⟩ := h
  exact val_nonneg r.1
theorem Nn.box {x : World} {a : Option Addr} {l c n : Nat} {N : Int} {u : Value} {b' : Option Addr} {l' c' : Nat} (h : Nn x a l c N) (K : Bx x n (.slice b' l' c')) : Nn (x.setCell ⟨n, 0, none⟩ u) a l c N := by
  obtain ⟨xs, r, m, v⟩ := h
  exact ⟨xs, r.box K, m, v⟩
theorem Nn.putF {w : World} {n : Nat} {a : Option Addr} {l c : Nat} {N : Int} {x y z : Value} {g : Bool} {a1 a2 : Option Addr} {n1 c1 n2 c2 : Nat} (h : Nn w a l c N) (R : Rb w n (.bool g) (.slice a1 n1 c1) (.slice a2 n2 c2)) : Nn (((w.setCell ⟨n, 0, none⟩ x).setCell ⟨n, 1, none⟩ y).setCell ⟨n, 2, none⟩ z) a l c N := by
  obtain ⟨xs, r, m, v⟩ := h
  exact ⟨xs, Rd.putF r R, m, v⟩
/-- A value that is such a number. -/
def NV (N : Int) (t : Value) (x : World) : Prop := ∃ a l c, t = .agg #[.slice a l c] ∧ Nn x a l c N
theorem NV.grow {N : Int} {t : Value} {x x' : World} (h : NV N t x) (b : Below x.heap.size x x') : NV N t x' := by
  obtain ⟨a, l, c, e, h⟩ := h
  exact ⟨a, l, c, e, h.grow b⟩
theorem len_of {xs : List Int} {n : Nat} (h : Wd xs) (k : Nm xs) (v : val xs < pw n) : xs.length ≤ n := by
  by_cases e : xs = []
  · subst e; simp
  · have := val_low h k e
    by_cases c : xs.length ≤ n
    · exact c
    · have := pw_mono (show n ≤ xs.length - 1 by omega)
      omega
theorem GCD_n {a1 a2 : Option Addr} {l1 c1 l2 c2 : Nat} {A B : Int} {x : World} (h1 : Nn x a1 l1 c1 A) (h2 : Nn x a2 l2 c2 B) {m : Nat} (hA : A < pw m) (hB : B < pw m) (hm : m ≤ 1000000) :
    Calls Tryz.prog 73 #[.agg #[.slice a1 l1 c1], .agg #[.slice a2 l2 c2]] x fun e w' => ∃ a l c, e = .returned (.agg #[.slice a l c]) ∧ Nn w' a l c (Int.gcd A B) ∧ Below x.heap.size x w' := by
  obtain ⟨xs, r1, n1, rfl⟩ := h1
  obtain ⟨ys, r2, n2, rfl⟩ := h2
  have := len_of r1.1 n1 hA
  have := len_of r2.1 n2 hB
  refine (GCD_any _ _ xs ys x r1 r2 n1 n2 (by omega) (by omega)).mono ?_
  rintro e w' ⟨r, zs, rfl, hr, hn, hv, b⟩
  obtain ⟨a, l, c, rfl⟩ := hr.shape
  exact ⟨a, l, c, rfl, ⟨zs, hr, hn, hv⟩, b⟩
theorem by_n {a1 a2 : Option Addr} {l1 c1 l2 c2 : Nat} {A B : Int} {x : World} (h1 : Nn x a1 l1 c1 A) (h2 : Nn x a2 l2 c2 B) {m : Nat} (hA : A < pw m) (hB : 0 < B) (hm : m ≤ 1000000) :
    Calls Tryz.prog 74 #[.agg #[.slice a1 l1 c1], .agg #[.slice a2 l2 c2]] x fun e w' => ∃ a l c, e = .returned (.agg #[.slice a l c]) ∧ Nn w' a l c (A / B) ∧ Below x.heap.size x w' := by
  obtain ⟨xs, r1, n1, rfl⟩ := h1
  obtain ⟨ys, r2, n2, rfl⟩ := h2
  have := len_of r1.1 n1 hA
  refine (by_any _ _ xs ys x r1 r2 n1 n2 hB (by omega)).mono ?_
  rintro e w' ⟨r, zs, rfl, hr, hn, hv, b⟩
  obtain ⟨a, l, c, rfl⟩ := hr.shape
  exact ⟨a, l, c, rfl, ⟨zs, hr, hn, hv⟩, b⟩
/-- Numbers whose product is reached. -/
def MulOK (m n : Nat) : Prop := (m < 80 ∨ n < 80) ∧ m ≤ 1000000 ∧ n ≤ 1000000
theorem MulOK.le {m n m' n' : Nat} (h : MulOK m n) (a : m' ≤ m) (b : n' ≤ n) : MulOK m' n' := by
  unfold MulOK at *; omega
theorem Mul_n {a1 a2 : Option Addr} {l1 c1 l2 c2 : Nat} {A B : Int} {x : World} (h1 : Nn x a1 l1 c1 A) (h2 : Nn x a2 l2 c2 B) {m n : Nat} (hA : A < pw m) (hB : B < pw n) (hm : MulOK m n) :
    Calls Tryz.prog 66 #[.agg #[.slice a1 l1 c1], .agg #[.slice a2 l2 c2]] x fun e w' => ∃ a l c, e = .returned (.agg #[.slice a l c]) ∧ Nn w' a l c (A * B) ∧ Below x.heap.size x w' := by
  obtain ⟨xs, r1, n1, rfl⟩ := h1
  obtain ⟨ys, r2, n2, rfl⟩ := h2
  have k1 := len_of r1.1 n1 hA
  have k2 := len_of r2.1 n2 hB
  obtain ⟨q1, q2, q3⟩ := hm.le k1 k2
  refine (Mul_short _ _ xs ys x r1 r2 q1 (by omega) (by omega)).mono ?_
  rintro e w' ⟨r, zs, rfl, hr, hn, hv, b⟩
  obtain ⟨a, l, c, rfl⟩ := hr.shape
  exact ⟨a, l, c, rfl, ⟨zs, hr, hn, hv⟩, b⟩
theorem IsZero_n {a : Option Addr} {l c : Nat} {A : Int} {x : World} (h : Nn x a l c A) :
    Calls Tryz.prog 41 #[.agg #[.slice a l c]] x fun e w' => e = .returned (.bool (decide (A = 0))) ∧ Below x.heap.size x w' := by
  obtain ⟨xs, r, n, rfl⟩ := h
  exact IsZero_any _ xs x r n
end Go.Proofs.YtgfjjlopfoenkaaGreatDoor.Mo

namespace Go.Proofs.YtgfjjlopfoenkaaGreatDoor.Mo
open Go.RowKit Dc Tn

theorem Bx.of {x : World} {X : Nat} {v : Value} {t : TypeId} (h : Blk x X #[v] t) : Bx x X v := ⟨h.at 0, h.free 0, t, h⟩
structure FT1 (W x : World) (V0 : Value) (V1 : Value) (V2 : Value) (V3 : Value) (V5 : Value) (V6 : Value) (V7 : Value) (V8 : Value) (N4 : Int) (N9 : Int) (y0 y1 y2 y3 y4 y5 y6 y7 y8 y9 y10 y11 : Bool) (t9 t10 t11 t12 t13 t14 t15 t16 t17 t18 t5 t6 : Value) : Prop where
  bel : Below W.heap.size W x
  o0 : y0 = true → t9 = V0
  o1 : y1 = true → t10 = V1
  o2 : y2 = true → t11 = V2
  o3 : y3 = true → t12 = V3
  o5 : y5 = true → t14 = V5
  o6 : y6 = true → t15 = V6
  o7 : y7 = true → t16 = V7
  o8 : y8 = true → t17 = V8
  o4 : y4 = true → NV N4 t13 x
  o9 : y9 = true → NV N9 t18 x
  o10 : y10 = true → ∃ X, t5 = .pointer (some ⟨X, 0, none⟩) ∧ W.heap.size ≤ X ∧ Blk x X #[.slice none 0 0] 63
  o11 : y11 = true → ∃ X, t6 = .pointer (some ⟨X, 0, none⟩) ∧ W.heap.size ≤ X ∧ Blk x X #[.slice none 0 0] 63
  ne10_11 : y10 = true → y11 = true → t5 ≠ t6
  d6_5 : y6 = true → y5 = true
  d8_7 : y8 = true → y7 = true
  d9_6 : y9 = true → y6 = true
  d9_8 : y9 = true → y8 = true
theorem FT1.grow {W x x' : World} {V0 : Value} {V1 : Value} {V2 : Value} {V3 : Value} {V5 : Value} {V6 : Value} {V7 : Value} {V8 : Value} {N4 : Int} {N9 : Int} {y0 y1 y2 y3 y4 y5 y6 y7 y8 y9 y10 y11 : Bool} {t9 t10 t11 t12 t13 t14 t15 t16 t17 t18 t5 t6 : Value} (h : FT1 W x V0 V1 V2 V3 V5 V6 V7 V8 N4 N9 y0 y1 y2 y3 y4 y5 y6 y7 y8 y9 y10 y11 t9 t10 t11 t12 t13 t14 t15 t16 t17 t18 t5 t6) (b : Below x.heap.size x x') : FT1 W x' V0 V1 V2 V3 V5 V6 V7 V8 N4 N9 y0 y1 y2 y3 y4 y5 y6 y7 y8 y9 y10 y11 t9 t10 t11 t12 t13 t14 t15 t16 t17 t18 t5 t6 where
  bel := bel' h.bel b
  o0 := h.o0
  o1 := h.o1
  o2 := h.o2
  o3 := h.o3
  o5 := h.o5
  o6 := h.o6
  o7 := h.o7
  o8 := h.o8
  o4 := fun u => (h.o4 u).grow b
  o9 := fun u => (h.o9 u).grow b
  o10 := fun u => by obtain ⟨k, e, l, K⟩ := h.o10 u; exact ⟨k, e, l, K.below b K.lt⟩
  o11 := fun u => by obtain ⟨k, e, l, K⟩ := h.o11 u; exact ⟨k, e, l, K.below b K.lt⟩
  ne10_11 := h.ne10_11
  d6_5 := h.d6_5
  d8_7 := h.d8_7
  d9_6 := h.d9_6
  d9_8 := h.d9_8
structure FT2 (W x : World) (V0 : Value) (V1 : Value) (V2 : Value) (V4 : Value) (V5 : Value) (V6 : Value) (N3 : Int) (N7 : Int) (N8 : Int) (y0 y1 y2 y3 y4 y5 y6 y7 y8 y9 : Bool) (t19 t20 t21 t22 t23 t24 t25 t26 t27 t7 : Value) : Prop where
  bel : Below W.heap.size W x
  o0 : y0 = true → t19 = V0
  o1 : y1 = true → t20 = V1
  o2 : y2 = true → t21 = V2
  o4 : y4 = true → t23 = V4
  o5 : y5 = true → t24 = V5
  o6 : y6 = true → t25 = V6
  o3 : y3 = true → NV N3 t22 x
  o7 : y7 = true → NV N7 t26 x
  o8 : y8 = true → NV N8 t27 x
  o9 : y9 = true → ∃ X, t7 = .pointer (some ⟨X, 0, none⟩) ∧ W.heap.size ≤ X ∧ Blk x X #[.slice none 0 0] 63
theorem FT2.grow {W x x' : World} {V0 : Value} {V1 : Value} {V2 : Value} {V4 : Value} {V5 : Value} {V6 : Value} {N3 : Int} {N7 : Int} {N8 : Int} {y0 y1 y2 y3 y4 y5 y6 y7 y8 y9 : Bool} {t19 t20 t21 t22 t23 t24 t25 t26 t27 t7 : Value} (h : FT2 W x V0 V1 V2 V4 V5 V6 N3 N7 N8 y0 y1 y2 y3 y4 y5 y6 y7 y8 y9 t19 t20 t21 t22 t23 t24 t25 t26 t27 t7) (b : Below x.heap.size x x') : FT2 W x' V0 V1 V2 V4 V5 V6 N3 N7 N8 y0 y1 y2 y3 y4 y5 y6 y7 y8 y9 t19 t20 t21 t22 t23 t24 t25 t26 t27 t7 where
  bel := bel' h.bel b
  o0 := h.o0
  o1 := h.o1
  o2 := h.o2
  o4 := h.o4
  o5 := h.o5
  o6 := h.o6
  o3 := fun u => (h.o3 u).grow b
  o7 := fun u => (h.o7 u).grow b
  o8 := fun u => (h.o8 u).grow b
  o9 := fun u => by obtain ⟨k, e, l, K⟩ := h.o9 u; exact ⟨k, e, l, K.below b K.lt⟩
structure FT3 (W x : World) (V0 : Value) (V1 : Value) (V2 : Value) (V4 : Value) (V5 : Value) (V6 : Value) (N3 : Int) (N7 : Int) (N8 : Int) (y0 y1 y2 y3 y4 y5 y6 y7 y8 y9 : Bool) (t28 t29 t30 t31 t32 t33 t34 t35 t36 t8 : Value) : Prop where
  bel : Below W.heap.size W x
  o0 : y0 = true → t28 = V0
  o1 : y1 = true → t29 = V1
  o2 : y2 = true → t30 = V2
  o4 : y4 = true → t32 = V4
  o5 : y5 = true → t33 = V5
  o6 : y6 = true → t34 = V6
  o3 : y3 = true → NV N3 t31 x
  o7 : y7 = true → NV N7 t35 x
  o8 : y8 = true → NV N8 t36 x
  o9 : y9 = true → ∃ X, t8 = .pointer (some ⟨X, 0, none⟩) ∧ W.heap.size ≤ X ∧ Blk x X #[.slice none 0 0] 63
theorem FT3.grow {W x x' : World} {V0 : Value} {V1 : Value} {V2 : Value} {V4 : Value} {V5 : Value} {V6 : Value} {N3 : Int} {N7 : Int} {N8 : Int} {y0 y1 y2 y3 y4 y5 y6 y7 y8 y9 : Bool} {t28 t29 t30 t31 t32 t33 t34 t35 t36 t8 : Value} (h : FT3 W x V0 V1 V2 V4 V5 V6 N3 N7 N8 y0 y1 y2 y3 y4 y5 y6 y7 y8 y9 t28 t29 t30 t31 t32 t33 t34 t35 t36 t8) (b : Below x.heap.size x x') : FT3 W x' V0 V1 V2 V4 V5 V6 N3 N7 N8 y0 y1 y2 y3 y4 y5 y6 y7 y8 y9 t28 t29 t30 t31 t32 t33 t34 t35 t36 t8 where
  bel := bel' h.bel b
  o0 := h.o0
  o1 := h.o1
  o2 := h.o2
  o4 := h.o4
  o5 := h.o5
  o6 := h.o6
  o3 := fun u => (h.o3 u).grow b
  o7 := fun u => (h.o7 u).grow b
  o8 := fun u => (h.o8 u).grow b
  o9 := fun u => by obtain ⟨k, e, l, K⟩ := h.o9 u; exact ⟨k, e, l, K.below b K.lt⟩
structure FT4 (W x : World) (V0 : Value) (V1 : Value) (V2 : Value) (V3 : Value) (V4 : Value) (V5 : Value) (V6 : Value) (V7 : Value) (V8 : Value) (V9 : Value) (V10 : Value) (V11 : Value) (V12 : Value) (y0 y1 y2 y3 y4 y5 y6 y7 y8 y9 y10 y11 y12 : Bool) (t37 t38 t39 t40 t41 t42 t43 t44 t45 t46 t47 t48 t49 : Value) : Prop where
  bel : Below W.heap.size W x
  o0 : y0 = true → t37 = V0
  o1 : y1 = true → t38 = V1
  o2 : y2 = true → t39 = V2
  o3 : y3 = true → t40 = V3
  o4 : y4 = true → t41 = V4
  o5 : y5 = true → t42 = V5
  o6 : y6 = true → t43 = V6
  o7 : y7 = true → t44 = V7
  o8 : y8 = true → t45 = V8
  o9 : y9 = true → t46 = V9
  o10 : y10 = true → t47 = V10
  o11 : y11 = true → t48 = V11
  o12 : y12 = true → t49 = V12
theorem FT4.grow {W x x' : World} {V0 : Value} {V1 : Value} {V2 : Value} {V3 : Value} {V4 : Value} {V5 : Value} {V6 : Value} {V7 : Value} {V8 : Value} {V9 : Value} {V10 : Value} {V11 : Value} {V12 : Value} {y0 y1 y2 y3 y4 y5 y6 y7 y8 y9 y10 y11 y12 : Bool} {t37 t38 t39 t40 t41 t42 t43 t44 t45 t46 t47 t48 t49 : Value} (h : FT4 W x V0 V1 V2 V3 V4 V5 V6 V7 V8 V9 V10 V11 V12 y0 y1 y2 y3 y4 y5 y6 y7 y8 y9 y10 y11 y12 t37 t38 t39 t40 t41 t42 t43 t44 t45 t46 t47 t48 t49) (b : Below x.heap.size x x') : FT4 W x' V0 V1 V2 V3 V4 V5 V6 V7 V8 V9 V10 V11 V12 y0 y1 y2 y3 y4 y5 y6 y7 y8 y9 y10 y11 y12 t37 t38 t39 t40 t41 t42 t43 t44 t45 t46 t47 t48 t49 where
  bel := bel' h.bel b
  o0 := h.o0
  o1 := h.o1
  o2 := h.o2
  o3 := h.o3
  o4 := h.o4
  o5 := h.o5
  o6 := h.o6
  o7 := h.o7
  o8 := h.o8
  o9 := h.o9
  o10 := h.o10
  o11 := h.o11
  o12 := h.o12
structure FT5 (W x : World) (V0 : Value) (V1 : Value) (V2 : Value) (V3 : Value) (V4 : Value) (V5 : Value) (V9 : Value) (V10 : Value) (V11 : Value) (V12 : Value) (y0 y1 y2 y3 y4 y5 y6 y7 y8 y9 y10 y11 y12 : Bool) (t37 t38 t39 t40 t41 t42 t43 t44 t45 t46 t47 t48 t49 : Value) : Prop where
  bel : Below W.heap.size W x
  o0 : y0 = true → t37 = V0
  o1 : y1 = true → t38 = V1
  o2 : y2 = true → t39 = V2
  o3 : y3 = true → t40 = V3
  o4 : y4 = true → t41 = V4
  o5 : y5 = true → t42 = V5
  o9 : y9 = true → t46 = V9
  o10 : y10 = true → t47 = V10
  o11 : y11 = true → t48 = V11
  o12 : y12 = true → t49 = V12
  o6 : y6 = true → t43 = undef
  o7 : y7 = true → t44 = undef
  o8 : y8 = true → t45 = undef
theorem FT5.grow {W x x' : World} {V0 : Value} {V1 : Value} {V2 : Value} {V3 : Value} {V4 : Value} {V5 : Value} {V9 : Value} {V10 : Value} {V11 : Value} {V12 : Value} {y0 y1 y2 y3 y4 y5 y6 y7 y8 y9 y10 y11 y12 : Bool} {t37 t38 t39 t40 t41 t42 t43 t44 t45 t46 t47 t48 t49 : Value} (h : FT5 W x V0 V1 V2 V3 V4 V5 V9 V10 V11 V12 y0 y1 y2 y3 y4 y5 y6 y7 y8 y9 y10 y11 y12 t37 t38 t39 t40 t41 t42 t43 t44 t45 t46 t47 t48 t49) (b : Below x.heap.size x x') : FT5 W x' V0 V1 V2 V3 V4 V5 V9 V10 V11 V12 y0 y1 y2 y3 y4 y5 y6 y7 y8 y9 y10 y11 y12 t37 t38 t39 t40 t41 t42 t43 t44 t45 t46 t47 t48 t49 where
  bel := bel' h.bel b
  o0 := h.o0
  o1 := h.o1
  o2 := h.o2
  o3 := h.o3
  o4 := h.o4
  o5 := h.o5
  o9 := h.o9
  o10 := h.o10
  o11 := h.o11
  o12 := h.o12
  o6 := h.o6
  o7 := h.o7
  o8 := h.o8
end Go.Proofs.YtgfjjlopfoenkaaGreatDoor.Mo
