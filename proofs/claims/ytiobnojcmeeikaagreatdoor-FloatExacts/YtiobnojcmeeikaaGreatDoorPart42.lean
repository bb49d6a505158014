import Derived.Test.YtiobnojcmeeikaaGreatDoorPart41
import Derived.Test.YtiobnojcmeeikaaGreatDoorPart07

namespace Go.Proofs.YtiobnojcmeeikaaGreatDoor.Mo
open Go.RowKit Fu Tn Go.Lib
end Go.Proofs.YtiobnojcmeeikaaGreatDoor.Mo

namespace Go.Proofs.YtiobnojcmeeikaaGreatDoor.Mo
open Go.RowKit Fu Tn Go.Lib

/-- A sign and a number. -/
def TV (g : Bool) (N : Int) (t : Value) (x : World) : Prop := ∃ a l c, t = .tuple #[.bool g, .agg #[.slice a l c]] ∧ Nn x a l c N
theorem TV.grow {g : Bool} {N : Int} {t : Value} {x x' : World} (h : TV g N t x) (b : Below x.heap.size x x') : TV g N t x' := by
  obtain ⟨a, l, c, e, h⟩ := h
  exact ⟨a, l, c, e, h.grow b⟩
structure FP3 (W x : World) (g : Bool) (V0 V1 V2 V3 V4 V5 V6 V9 V10 V11 V12 V13 V17 V20 : Value) (N7 N8 N14 N15 N16 N18 : Int) (y0 y1 y2 y3 y4 y5 y6 y7 y8 y9 y10 y11 y12 y13 y14 y15 y16 y17 y18 y19 y20 : Bool) (t20 t21 t22 t23 t24 t25 t26 t27 t28 t29 t30 t31 t32 t33 t34 t35 t19 t36 t37 t8 t7 : Value) : Prop where
  bel : Below W.heap.size W x
  o0 : y0 = true → t20 = V0
  o1 : y1 = true → t21 = V1
  o2 : y2 = true → t22 = V2
  o3 : y3 = true → t23 = V3
  o4 : y4 = true → t24 = V4
  o5 : y5 = true → t25 = V5
  o6 : y6 = true → t26 = V6
  o9 : y9 = true → t29 = V9
  o10 : y10 = true → t30 = V10
  o11 : y11 = true → t31 = V11
  o12 : y12 = true → t32 = V12
  o13 : y13 = true → t33 = V13
  o17 : y17 = true → t36 = V17
  o20 : y20 = true → t7 = V20
  o7 : y7 = true → NV N7 t27 x
  o8 : y8 = true → NV N8 t28 x
  o14 : y14 = true → NV N14 t34 x
  o15 : y15 = true → TV g N15 t35 x
  o16 : y16 = true → TV g N16 t19 x
  o18 : y18 = true → NV N18 t37 x
  o19 : y19 = true → ∃ X, t8 = .pointer (some ⟨X, 0, none⟩) ∧ W.heap.size ≤ X ∧ Blk x X #[.slice none 0 0] 56
theorem FP3.grow {W x x' : World} {g : Bool} {V0 V1 V2 V3 V4 V5 V6 V9 V10 V11 V12 V13 V17 V20 : Value} {N7 N8 N14 N15 N16 N18 : Int} {y0 y1 y2 y3 y4 y5 y6 y7 y8 y9 y10 y11 y12 y13 y14 y15 y16 y17 y18 y19 y20 : Bool} {t20 t21 t22 t23 t24 t25 t26 t27 t28 t29 t30 t31 t32 t33 t34 t35 t19 t36 t37 t8 t7 : Value} (h : FP3 W x g V0 V1 V2 V3 V4 V5 V6 V9 V10 V11 V12 V13 V17 V20 N7 N8 N14 N15 N16 N18 y0 y1 y2 y3 y4 y5 y6 y7 y8 y9 y10 y11 y12 y13 y14 y15 y16 y17 y18 y19 y20 t20 t21 t22 t23 t24 t25 t26 t27 t28 t29 t30 t31 t32 t33 t34 t35 t19 t36 t37 t8 t7) (b : Below x.heap.size x x') : FP3 W x' g V0 V1 V2 V3 V4 V5 V6 V9 V10 V11 V12 V13 V17 V20 N7 N8 N14 N15 N16 N18 y0 y1 y2 y3 y4 y5 y6 y7 y8 y9 y10 y11 y12 y13 y14 y15 y16 y17 y18 y19 y20 t20 t21 t22 t23 t24 t25 t26 t27 t28 t29 t30 t31 t32 t33 t34 t35 t19 t36 t37 t8 t7 where
  bel := bel' h.bel b
  o0 := h.o0
  o1 := h.o1
  o2 := h.o2
  o3 := h.o3
  o4 := h.o4
  o5 := h.o5
  o6 := h.o6
  o9 := h.o9
  o10 := h.o10
  o11 := h.o11
  o12 := h.o12
  o13 := h.o13
  o17 := h.o17
  o20 := h.o20
  o7 := fun u => (h.o7 u).grow b
  o8 := fun u => (h.o8 u).grow b
  o14 := fun u => (h.o14 u).grow b
  o15 := fun u => (h.o15 u).grow b
  o16 := fun u => (h.o16 u).grow b
  o18 := fun u => (h.o18 u).grow b
  o19 := fun u => by obtain ⟨k, e, l, K⟩ := h.o19 u; exact ⟨k, e, l, K.below b K.lt⟩
structure FP5 (W x : World) (V0 V1 V2 V4 V5 V6 V7 : Value) (N3 N8 N9 : Int) (y0 y1 y2 y3 y4 y5 y6 y7 y8 y9 : Bool) (t41 t42 t43 t44 t45 t46 t47 t48 t49 t50 : Value) : Prop where
  bel : Below W.heap.size W x
  o0 : y0 = true → t41 = V0
  o1 : y1 = true → t42 = V1
  o2 : y2 = true → t43 = V2
  o4 : y4 = true → t45 = V4
  o5 : y5 = true → t46 = V5
  o6 : y6 = true → t47 = V6
  o7 : y7 = true → t48 = V7
  o3 : y3 = true → NV N3 t44 x
  o8 : y8 = true → NV N8 t49 x
  o9 : y9 = true → NV N9 t50 x
  d3_1 : y3 = true → y1 = true
  d3_2 : y3 = true → y2 = true
  d6_5 : y6 = true → y5 = true
  d8_6 : y8 = true → y6 = true
  d8_7 : y8 = true → y7 = true
  d9_4 : y9 = true → y4 = true
  d9_8 : y9 = true → y8 = true
theorem FP5.grow {W x x' : World} {V0 V1 V2 V4 V5 V6 V7 : Value} {N3 N8 N9 : Int} {y0 y1 y2 y3 y4 y5 y6 y7 y8 y9 : Bool} {t41 t42 t43 t44 t45 t46 t47 t48 t49 t50 : Value} (h : FP5 W x V0 V1 V2 V4 V5 V6 V7 N3 N8 N9 y0 y1 y2 y3 y4 y5 y6 y7 y8 y9 t41 t42 t43 t44 t45 t46 t47 t48 t49 t50) (b : Below x.heap.size x x') : FP5 W x' V0 V1 V2 V4 V5 V6 V7 N3 N8 N9 y0 y1 y2 y3 y4 y5 y6 y7 y8 y9 t41 t42 t43 t44 t45 t46 t47 t48 t49 t50 where
  bel := bel' h.bel b
  o0 := h.o0
  o1 := h.o1
  o2 := h.o2
  o4 := h.o4
  o5 := h.o5
  o6 := h.o6
  o7 := h.o7
  o3 := fun u => (h.o3 u).grow b
  o8 := fun u => (h.o8 u).grow b
  o9 := fun u => (h.o9 u).grow b
  d3_1 := h.d3_1
  d3_2 := h.d3_2
  d6_5 := h.d6_5
  d8_6 := h.d8_6
  d8_7 := h.d8_7
  d9_4 := h.d9_4
  d9_8 := h.d9_8
end Go.Proofs.YtiobnojcmeeikaaGreatDoor.Mo
