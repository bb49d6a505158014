import Derived.Test.YtiobnojcmeeikaaGreatDoorPart35
import Derived.Deep.DeepCutAuto

namespace Go.Proofs.YtiobnojcmeeikaaGreatDoor.Mo
open Go.RowKit Dc Tn

structure FT1 (W x : World) (V0 V1 V2 V3 V5 V6 V7 V8 : Value) (N4 N9 : Int) (y0 y1 y2 y3 y4 y5 y6 y7 y8 y9 y10 y11 : Bool) (t9 t10 t11 t12 t13 t14 t15 t16 t17 t18 t5 t6 : Value) : Prop where
  bel : Below W.heap.size W x
  o0 : y0 = true → t9 = V0
  o1 : y1 = true → t10 = V1
  o2 : y2 = true → t11 = V2
  o3 : y3 = true → t12 = V3
  o5 : y5 = true → t14 = V5
  o6 : y6 = true → t15 = V6
  o7 : y7 = true → t16 = V7
  o8 : y8 = true → t17 = V8
  o4 : y4 = true → NV N4 t13 x
  o9 : y9 = true → NV N9 t18 x
  o10 : y10 = true → ∃ X, t5 = .pointer (some ⟨X, 0, none⟩) ∧ W.heap.size ≤ X ∧ Blk x X #[.slice none 0 0] 56
  o11 : y11 = true → ∃ X, t6 = .pointer (some ⟨X, 0, none⟩) ∧ W.heap.size ≤ X ∧ Blk x X #[.slice none 0 0] 56
  ne10_11 : y10 = true → y11 = true → t5 ≠ t6
  d6_5 : y6 = true → y5 = true
  d8_7 : y8 = true → y7 = true
  d9_6 : y9 = true → y6 = true
  d9_8 : y9 = true → y8 = true
theorem FT1.grow {W x x' : World} {V0 V1 V2 V3 V5 V6 V7 V8 : Value} {N4 N9 : Int} {y0 y1 y2 y3 y4 y5 y6 y7 y8 y9 y10 y11 : Bool} {t9 t10 t11 t12 t13 t14 t15 t16 t17 t18 t5 t6 : Value} (h : FT1 W x V0 V1 V2 V3 V5 V6 V7 V8 N4 N9 y0 y1 y2 y3 y4 y5 y6 y7 y8 y9 y10 y11 t9 t10 t11 t12 t13 t14 t15 t16 t17 t18 t5 t6) (b : Below x.heap.size x x') : FT1 W x' V0 V1 V2 V3 V5 V6 V7 V8 N4 N9 y0 y1 y2 y3 y4 y5 y6 y7 y8 y9 y10 y11 t9 t10 t11 t12 t13 t14 t15 t16 t17 t18 t5 t6 where
  bel := bel' h.bel b
  o0 := h.o0
  o1 := h.o1
  o2 := h.o2
  o3 := h.o3
  o5 := h.o5
  o6 := h.o6
  o7 := h.o7
  o8 := h.o8
  o4 := fun u => (h.o4 u).grow b
  o9 := fun u => (h.o9 u).grow b
  o10 := fun u => by obtain ⟨k, e, l, K⟩ := h.o10 u; exact ⟨k, e, l, K.below b K.lt⟩
  o11 := fun u => by obtain ⟨k, e, l, K⟩ := h.o11 u; exact ⟨k, e, l, K.below b K.lt⟩
  ne10_11 := h.ne10_11
  d6_5 := h.d6_5
  d8_7 := h.d8_7
  d9_6 := h.d9_6
  d9_8 := h.d9_8
structure FT2 (W x : World) (V0 V1 V2 V4 V5 V6 : Value) (N3 N7 N8 : Int) (y0 y1 y2 y3 y4 y5 y6 y7 y8 y9 : Bool) (t19 t20 t21 t22 t23 t24 t25 t26 t27 t7 : Value) : Prop where
  bel : Below W.heap.size W x
  o0 : y0 = true → t19 = V0
  o1 : y1 = true → t20 = V1
  o2 : y2 = true → t21 = V2
  o4 : y4 = true → t23 = V4
  o5 : y5 = true → t24 = V5
  o6 : y6 = true → t25 = V6
  o3 : y3 = true → NV N3 t22 x
  o7 : y7 = true → NV N7 t26 x
  o8 : y8 = true → NV N8 t27 x
  o9 : y9 = true → ∃ X, t7 = .pointer (some ⟨X, 0, none⟩) ∧ W.heap.size ≤ X ∧ Blk x X #[.slice none 0 0] 56
theorem FT2.grow {W x x' : World} {V0 V1 V2 V4 V5 V6 : Value} {N3 N7 N8 : Int} {y0 y1 y2 y3 y4 y5 y6 y7 y8 y9 : Bool} {t19 t20 t21 t22 t23 t24 t25 t26 t27 t7 : Value} (h : FT2 W x V0 V1 V2 V4 V5 V6 N3 N7 N8 y0 y1 y2 y3 y4 y5 y6 y7 y8 y9 t19 t20 t21 t22 t23 t24 t25 t26 t27 t7) (b : Below x.heap.size x x') : FT2 W x' V0 V1 V2 V4 V5 V6 N3 N7 N8 y0 y1 y2 y3 y4 y5 y6 y7 y8 y9 t19 t20 t21 t22 t23 t24 t25 t26 t27 t7 where
  bel := bel' h.bel b
  o0 := h.o0
  o1 := h.o1
  o2 := h.o2
  o4 := h.o4
  o5 := h.o5
  o6 := h.o6
  o3 := fun u => (h.o3 u).grow b
  o7 := fun u => (h.o7 u).grow b
  o8 := fun u => (h.o8 u).grow b
  o9 := fun u => by obtain ⟨k, e, l, K⟩ := h.o9 u; exact ⟨k, e, l, K.below b K.lt⟩
structure FT3 (W x : World) (V0 V1 V2 V4 V5 V6 : Value) (N3 N7 N8 : Int) (y0 y1 y2 y3 y4 y5 y6 y7 y8 y9 : Bool) (t28 t29 t30 t31 t32 t33 t34 t35 t36 t8 : Value) : Prop where
  bel : Below W.heap.size W x
  o0 : y0 = true → t28 = V0
  o1 : y1 = true → t29 = V1
  o2 : y2 = true → t30 = V2
  o4 : y4 = true → t32 = V4
  o5 : y5 = true → t33 = V5
  o6 : y6 = true → t34 = V6
  o3 : y3 = true → NV N3 t31 x
  o7 : y7 = true → NV N7 t35 x
  o8 : y8 = true → NV N8 t36 x
  o9 : y9 = true → ∃ X, t8 = .pointer (some ⟨X, 0, none⟩) ∧ W.heap.size ≤ X ∧ Blk x X #[.slice none 0 0] 56
theorem FT3.grow {W x x' : World} {V0 V1 V2 V4 V5 V6 : Value} {N3 N7 N8 : Int} {y0 y1 y2 y3 y4 y5 y6 y7 y8 y9 : Bool} {t28 t29 t30 t31 t32 t33 t34 t35 t36 t8 : Value} (h : FT3 W x V0 V1 V2 V4 V5 V6 N3 N7 N8 y0 y1 y2 y3 y4 y5 y6 y7 y8 y9 t28 t29 t30 t31 t32 t33 t34 t35 t36 t8) (b : Below x.heap.size x x') : FT3 W x' V0 V1 V2 V4 V5 V6 N3 N7 N8 y0 y1 y2 y3 y4 y5 y6 y7 y8 y9 t28 t29 t30 t31 t32 t33 t34 t35 t36 t8 where
  bel := bel' h.bel b
  o0 := h.o0
  o1 := h.o1
  o2 := h.o2
  o4 := h.o4
  o5 := h.o5
  o6 := h.o6
  o3 := fun u => (h.o3 u).grow b
  o7 := fun u => (h.o7 u).grow b
  o8 := fun u => (h.o8 u).grow b
  o9 := fun u => by obtain ⟨k, e, l, K⟩ := h.o9 u; exact ⟨k, e, l, K.below b K.lt⟩
structure FT4 (W x : World) (V0 V1 V2 V3 V4 V5 V6 V7 V8 V9 V10 V11 V12 : Value) (y0 y1 y2 y3 y4 y5 y6 y7 y8 y9 y10 y11 y12 : Bool) (t37 t38 t39 t40 t41 t42 t43 t44 t45 t46 t47 t48 t49 : Value) : Prop where
  bel : Below W.heap.size W x
  o0 : y0 = true → t37 = V0
  o1 : y1 = true → t38 = V1
  o2 : y2 = true → t39 = V2
  o3 : y3 = true → t40 = V3
  o4 : y4 = true → t41 = V4
  o5 : y5 = true → t42 = V5
  o6 : y6 = true → t43 = V6
  o7 : y7 = true → t44 = V7
  o8 : y8 = true → t45 = V8
  o9 : y9 = true → t46 = V9
  o10 : y10 = true → t47 = V10
  o11 : y11 = true → t48 = V11
  o12 : y12 = true → t49 = V12
theorem FT4.grow {W x x' : World} {V0 V1 V2 V3 V4 V5 V6 V7 V8 V9 V10 V11 V12 : Value} {y0 y1 y2 y3 y4 y5 y6 y7 y8 y9 y10 y11 y12 : Bool} {t37 t38 t39 t40 t41 t42 t43 t44 t45 t46 t47 t48 t49 : Value} (h : FT4 W x V0 V1 V2 V3 V4 V5 V6 V7 V8 V9 V10 V11 V12 y0 y1 y2 y3 y4 y5 y6 y7 y8 y9 y10 y11 y12 t37 t38 t39 t40 t41 t42 t43 t44 t45 t46 t47 t48 t49) (b : Below x.heap.size x x') : FT4 W x' V0 V1 V2 V3 V4 V5 V6 V7 V8 V9 V10 V11 V12 y0 y1 y2 y3 y4 y5 y6 y7 y8 y9 y10 y11 y12 t37 t38 t39 t40 t41 t42 t43 t44 t45 t46 t47 t48 t49 where
  bel := bel' h.bel b
  o0 := h.o0
  o1 := h.o1
  o2 := h.o2
  o3 := h.o3
  o4 := h.o4
  o5 := h.o5
  o6 := h.o6
  o7 := h.o7
  o8 := h.o8
  o9 := h.o9
  o10 := h.o10
  o11 := h.o11
  o12 := h.o12
structure FT5 (W x : World) (V0 V1 V2 V3 V4 V5 V9 V10 V11 V12 : Value) (y0 y1 y2 y3 y4 y5 y6 y7 y8 y9 y10 y11 y12 : Bool) (t37 t38 t39 t40 t41 t42 t43 t44 t45 t46 t47 t48 t49 : Value) : Prop where
  bel : Below W.heap.size W x
  o0 : y0 = true → t37 = V0
  o1 : y1 = true → t38 = V1
  o2 : y2 = true → t39 = V2
  o3 : y3 = true → t40 = V3
  o4 : y4 = true → t41 = V4
  o5 : y5 = true → t42 = V5
  o9 : y9 = true → t46 = V9
  o10 : y10 = true → t47 = V10
  o11 : y11 = true → t48 = V11
  o12 : y12 = true → t49 = V12
  o6 : y6 = true → t43 = undef
  o7 : y7 = true → t44 = undef
  o8 : y8 = true → t45 = undef
theorem FT5.grow {W x x' : World} {V0 V1 V2 V3 V4 V5 V9 V10 V11 V12 : Value} {y0 y1 y2 y3 y4 y5 y6 y7 y8 y9 y10 y11 y12 : Bool} {t37 t38 t39 t40 t41 t42 t43 t44 t45 t46 t47 t48 t49 : Value} (h : FT5 W x V0 V1 V2 V3 V4 V5 V9 V10 V11 V12 y0 y1 y2 y3 y4 y5 y6 y7 y8 y9 y10 y11 y12 t37 t38 t39 t40 t41 t42 t43 t44 t45 t46 t47 t48 t49) (b : Below x.heap.size x x') : FT5 W x' V0 V1 V2 V3 V4 V5 V9 V10 V11 V12 y0 y1 y2 y3 y4 y5 y6 y7 y8 y9 y10 y11 y12 t37 t38 t39 t40 t41 t42 t43 t44 t45 t46 t47 t48 t49 where
  bel := bel' h.bel b
  o0 := h.o0
  o1 := h.o1
  o2 := h.o2
  o3 := h.o3
  o4 := h.o4
  o5 := h.o5
  o9 := h.o9
  o10 := h.o10
  o11 := h.o11
  o12 := h.o12
  o6 := h.o6
  o7 := h.o7
  o8 := h.o8
end Go.Proofs.YtiobnojcmeeikaaGreatDoor.Mo

namespace Go.Proofs.YtiobnojcmeeikaaGreatDoor.Mo
open Go.RowKit Dc Tn

end Go.Proofs.YtiobnojcmeeikaaGreatDoor.Mo

namespace Go.Proofs.YtiobnojcmeeikaaGreatDoor.Mo
open Go.RowKit Tn

/-- The value v of the program's is the exact number r. -/
def PF (x : World) (v : Value) (r : Rat) : Prop := ∃ a l c a' l' c', v = .agg #[.bool (decide (r.num < 0)), .slice a l c, .slice a' l' c'] ∧ Nn x a l c (r.num.natAbs : Int) ∧ Nn x a' l' c' (r.den : Int)
theorem PF.grow {x x' : World} {v : Value} {r : Rat} (h : PF x v r) (b : Below x.heap.size x x') : PF x' v r := by
  obtain ⟨a, l, c, a', l', c', e, h1, h2⟩ := h
  exact ⟨a, l, c, a', l', c', e, h1.grow b, h2.grow b⟩
/-- Neither part has more than K words. -/
def PS (r : Rat) (K : Nat) : Prop := (r.num.natAbs : Int) < pw K ∧ (r.den : Int) < pw K
theorem PS.mono {r : Rat} {m n : Nat} (h : PS r m) (hm : m ≤ n) : PS r n := by
  have := pw_mono hm
  exact ⟨by have := h.1; omega, by have := h.2; omega⟩
end Go.Proofs.YtiobnojcmeeikaaGreatDoor.Mo
