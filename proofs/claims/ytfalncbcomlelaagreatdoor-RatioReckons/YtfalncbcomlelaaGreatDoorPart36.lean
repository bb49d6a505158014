import Derived.Test.YtfalncbcomlelaaGreatDoorPart35
import Derived.Test.YtfalncbcomlelaaGreatDoorPart06

namespace Go.Proofs.YtfalncbcomlelaaGreatDoor.Mo
open Go.RowKit Fu Tn Go.Lib

/-- A sign and a number. -/
def TV (g : Bool) (N : Int) (t : Value) (x : World) : Prop := ∃ a l c, t = .tuple #[.bool g, .agg #[.slice a l c]] ∧ Nn x a l c N
theorem TV.grow {g : Bool} {N : Int} {t : Value} {x x' : World} (h : TV g N t x) (b : Below x.heap.size x x') : TV g N t x' := by
 obtain ⟨a, l, c, e, h⟩ := h
 exact ⟨a, l, c, e, h.grow b⟩
structure FP3 (W x : World) (g : Bool) (V0 : Value) (V1 : Value) (V2 : Value) (V3 : Value) (V4 : Value) (V5 : Value) (V6 : Value) (V9 : Value) (V10 : Value) (V11 : Value) (V12 : Value) (V13 : Value) (V17 : Value) (V20 : Value) (N7 : Int) (N8 : Int) (N14 : Int) (N15 : Int) (N16 : Int) (N18 : Int) (y0 y1 y2 y3 y4 y5 y6 y7 y8 y9 y10 y11 y12 y13 y14 y15 y16 y17 y18 y19 y20 : Bool) (t20 t21 t22 t23 t24 t25 t26 t27 t28 t29 t30 t31 t32 t33 t34 t35 t19 t36 t37 t8 t7 : Value) : Prop where
 bel : Below W.heap.size W x
 o0 : y0 = true → t20 = V0
 o1 : y1 = true → t21 = V1
 o2 : y2 = true → t22 = V2
 o3 : y3 = true → t23 = V3
 o4 : y4 = true → t24 = V4
 o5 : y5 = true → t25 = V5
 o6 : y6 = true → t26 = V6
 o9 : y9 = true → t29 = V9
 o10 : y10 = true → t30 = V10
 o11 : y11 = true → t31 = V11
 o12 : y12 = true → t32 = V12
 o13 : y13 = true → t33 = V13
 o17 : y17 = true → t36 = V17
 o20 : y20 = true → t7 = V20
 o7 : y7 = true → NV N7 t27 x
 o8 : y8 = true → NV N8 t28 x
 o14 : y14 = true → NV N14 t34 x
 o15 : y15 = true → TV g N15 t35 x
 o16 : y16 = true → TV g N16 t19 x
 o18 : y18 = true → NV N18 t37 x
 o19 : y19 = true → ∃ X, t8 = .pointer (some ⟨X, 0, none⟩) ∧ W.heap.size ≤ X ∧ Blk x X #[.slice none 0 0] 56
theorem FP3.grow {W x x' : World} {g : Bool} {V0 : Value} {V1 : Value} {V2 : Value} {V3 : Value} {V4 : Value} {V5 : Value} {V6 : Value} {V9 : Value} {V10 : Value} {V11 : Value} {V12 : Value} {V13 : Value} {V17 : Value} {V20 : Value} {N7 : Int} {N8 : Int} {N14 : Int} {N15 : Int} {N16 : Int} {N18 : Int} {y0 y1 y2 y3 y4 y5 y6 y7 y8 y9 y10 y11 y12 y13 y14 y15 y16 y17 y18 y19 y20 : Bool} {t20 t21 t22 t23 t24 t25 t26 t27 t28 t29 t30 t31 t32 t33 t34 t35 t19 t36 t37 t8 t7 : Value} (h : FP3 W x g V0 V1 V2 V3 V4 V5 V6 V9 V10 V11 V12 V13 V17 V20 N7 N8 N14 N15 N16 N18 y0 y1 y2 y3 y4 y5 y6 y7 y8 y9 y10 y11 y12 y13 y14 y15 y16 y17 y18 y19 y20 t20 t21 t22 t23 t24 t25 t26 t27 t28 t29 t30 t31 t32 t33 t34 t35 t19 t36 t37 t8 t7) (b : Below x.heap.size x x') : FP3 W x' g V0 V1 V2 V3 V4 V5 V6 V9 V10 V11 V12 V13 V17 V20 N7 N8 N14 N15 N16 N18 y0 y1 y2 y3 y4 y5 y6 y7 y8 y9 y10 y11 y12 y13 y14 y15 y16 y17 y18 y19 y20 t20 t21 t22 t23 t24 t25 t26 t27 t28 t29 t30 t31 t32 t33 t34 t35 t19 t36 t37 t8 t7 where
 bel := bel' h.bel b
 o0 := h.o0
 o1 := h.o1
 o2 := h.o2
 o3 := h.o3
 o4 := h.o4
 o5 := h.o5
 o6 := h.o6
 o9 := h.o9
 o10 := h.o10
 o11 := h.o11
 o12 := h.o12
 o13 := h.o13
 o17 := h.o17
 o20 := h.o20
 o7 := fun u => (h.o7 u).grow b
 o8 := fun u => (h.o8 u).grow b
 o14 := fun u => (h.o14 u).grow b
 o15 := fun u => (h.o15 u).grow b
 o16 := fun u => (h.o16 u).grow b
 o18 := fun u => (h.o18 u).grow b
 o19 := fun u => by obtain ⟨k, e, l, K⟩ := h.o19 u; exact ⟨k, e, l, K.below b K.lt⟩
structure FP5 (W x : World) (V0 : Value) (V1 : Value) (V2 : Value) (V4 : Value) (V5 : Value) (V6 : Value) (V7 : Value) (N3 : Int) (N8 : Int) (N9 : Int) (y0 y1 y2 y3 y4 y5 y6 y7 y8 y9 : Bool) (t41 t42 t43 t44 t45 t46 t47 t48 t49 t50 : Value) : Prop where
 bel : Below W.heap.size W x
 o0 : y0 = true → t41 = V0
 o1 : y1 = true → t42 = V1
 o2 : y2 = true → t43 = V2
 o4 : y4 = true → t45 = V4
 o5 : y5 = true → t46 = V5
 o6 : y6 = true → t47 = V6
 o7 : y7 = true → t48 = V7
 o3 : y3 = true → NV N3 t44 x
 o8 : y8 = true → NV N8 t49 x
 o9 : y9 = true → NV N9 t50 x
 d3_1 : y3 = true → y1 = true
 d3_2 : y3 = true → y2 = true
 d6_5 : y6 = true → y5 = true
 d8_6 : y8 = true → y6 = true
 d8_7 : y8 = true → y7 = true
 d9_4 : y9 = true → y4 = true
 d9_8 : y9 = true → y8 = true
theorem FP5.grow {W x x' : World} {V0 : Value} {V1 : Value} {V2 : Value} {V4 : Value} {V5 : Value} {V6 : Value} {V7 : Value} {N3 : Int} {N8 : Int} {N9 : Int} {y0 y1 y2 y3 y4 y5 y6 y7 y8 y9 : Bool} {t41 t42 t43 t44 t45 t46 t47 t48 t49 t50 : Value} (h : FP5 W x V0 V1 V2 V4 V5 V6 V7 N3 N8 N9 y0 y1 y2 y3 y4 y5 y6 y7 y8 y9 t41 t42 t43 t44 t45 t46 t47 t48 t49 t50) (b : Below x.heap.size x x') : FP5 W x' V0 V1 V2 V4 V5 V6 V7 N3 N8 N9 y0 y1 y2 y3 y4 y5 y6 y7 y8 y9 t41 t42 t43 t44 t45 t46 t47 t48 t49 t50 where
 bel := bel' h.bel b
 o0 := h.o0
 o1 := h.o1
 o2 := h.o2
 o4 := h.o4
 o5 := h.o5
 o6 := h.o6
 o7 := h.o7
 o3 := fun u => (h.o3 u).grow b
 o8 := fun u => (h.o8 u).grow b
 o9 := fun u => (h.o9 u).grow b
 d3_1 := h.d3_1
 d3_2 := h.d3_2
 d6_5 := h.d6_5
 d8_6 := h.d8_6
 d8_7 := h.d8_7
 d9_4 := h.d9_4
 d9_8 := h.d9_8
set_option maxHeartbeats 3200000 in
set_option maxRecDepth 100000 in
theorem FPlus_raw (g1 g2 g : Bool) (P1 P2 P3 P4 : Option Addr) (M1 C1 M2 C2 M3 C3 M4 C4 : Nat) (Gd Pt D1 A1 A2 Nu Lf N2 D2 Q : Int) (w : World)
  (H14 : ∀ x, Below w.heap.size w x → Calls Tryz.prog 67 #[.agg #[.slice P2 M2 C2], .agg #[.slice P4 M4 C4]] x fun e w' => ∃ a l c, e = .returned (.agg #[.slice a l c]) ∧ Nn w' a l c Gd ∧ Below x.heap.size x w')
  (H18 : ∀ x a l c, Below w.heap.size w x → Nn x a l c Gd → Calls Tryz.prog 77 #[.agg #[.slice P2 M2 C2], .agg #[.slice a l c]] x fun e w' => ∃ a l c, e = .returned (.agg #[.slice a l c]) ∧ Nn w' a l c Pt ∧ Below x.heap.size x w')
  (H27 : ∀ x a l c, Below w.heap.size w x → Nn x a l c Gd → Calls Tryz.prog 77 #[.agg #[.slice P4 M4 C4], .agg #[.slice a l c]] x fun e w' => ∃ a l c, e = .returned (.agg #[.slice a l c]) ∧ Nn w' a l c D1 ∧ Below x.heap.size x w')
  (H28 : ∀ x a l c, Below w.heap.size w x → Nn x a l c D1 → Calls Tryz.prog 50 #[.agg #[.slice P1 M1 C1], .agg #[.slice a l c]] x fun e w' => ∃ a l c, e = .returned (.agg #[.slice a l c]) ∧ Nn w' a l c A1 ∧ Below x.heap.size x w')
  (H34 : ∀ x a l c, Below w.heap.size w x → Nn x a l c Pt → Calls Tryz.prog 50 #[.agg #[.slice P3 M3 C3], .agg #[.slice a l c]] x fun e w' => ∃ a l c, e = .returned (.agg #[.slice a l c]) ∧ Nn w' a l c A2 ∧ Below x.heap.size x w')
  (H35 : ∀ x a l c a' l' c', Nn x a l c A1 → Nn x a' l' c' A2 → Calls Tryz.prog 78 #[.bool g1, .agg #[.slice a l c], .bool g2, .agg #[.slice a' l' c']] x fun e w' => ∃ a l c, e = .returned (.tuple #[.bool g, .agg #[.slice a l c]]) ∧ Nn w' a l c Nu ∧ Below x.heap.size x w')
  (H40 : ∀ x a l c a' l' c', Nn x a l c Nu → Nn x a' l' c' Gd → Calls Tryz.prog 67 #[.agg #[.slice a l c], .agg #[.slice a' l' c']] x fun e w' => ∃ a l c, e = .returned (.agg #[.slice a l c]) ∧ Nn w' a l c Lf ∧ Below x.heap.size x w')
  (H44 : ∀ x a l c a' l' c', Nn x a l c Nu → Nn x a' l' c' Lf → Calls Tryz.prog 77 #[.agg #[.slice a l c], .agg #[.slice a' l' c']] x fun e w' => ∃ a l c, e = .returned (.agg #[.slice a l c]) ∧ Nn w' a l c N2 ∧ Below x.heap.size x w')
  (H49 : ∀ x a l c, Below w.heap.size w x → Nn x a l c Lf → Calls Tryz.prog 77 #[.agg #[.slice P4 M4 C4], .agg #[.slice a l c]] x fun e w' => ∃ a l c, e = .returned (.agg #[.slice a l c]) ∧ Nn w' a l c D2 ∧ Below x.heap.size x w')
  (H50 : ∀ x a l c a' l' c', Nn x a l c Pt → Nn x a' l' c' D2 → Calls Tryz.prog 50 #[.agg #[.slice a l c], .agg #[.slice a' l' c']] x fun e w' => ∃ a l c, e = .returned (.agg #[.slice a l c]) ∧ Nn w' a l c Q ∧ Below x.heap.size x w') :
  Calls Tryz.prog 40 #[.agg #[.bool g1, .slice P1 M1 C1, .slice P2 M2 C2], .agg #[.bool g2, .slice P3 M3 C3, .slice P4 M4 C4]] w fun e w' => ∃ a l c a' l' c', e = .returned (.agg #[.bool g, .slice a l c, .slice a' l' c']) ∧ Nn w' a l c N2 ∧ Nn w' a' l' c' Q ∧ Below w.heap.size w w' := by
 have K0 := ((Rb.new w (.bool g1) (.slice P1 M1 C1) (.slice P2 M2 C2) 58).alloc (.cells #[.bool g2, .slice P3 M3 C3, .slice P4 M4 C4] 58)).alloc (.cells #[.bool false, .slice none 0 0, .slice none 0 0] 58)
 have K1 := (Rb.new (w.alloc (.cells #[.bool g1, .slice P1 M1 C1, .slice P2 M2 C2] 58)) (.bool g2) (.slice P3 M3 C3) (.slice P4 M4 C4) 58).alloc (.cells #[.bool false, .slice none 0 0, .slice none 0 0] 58)
 have K2 := Rb.new ((w.alloc (.cells #[.bool g1, .slice P1 M1 C1, .slice P2 M2 C2] 58)).alloc (.cells #[.bool g2, .slice P3 M3 C3, .slice P4 M4 C4] 58)) (.bool false) (.slice none 0 0) (.slice none 0 0) 58
 have pr : Below w.heap.size w (((w.alloc (.cells #[.bool g1, .slice P1 M1 C1, .slice P2 M2 C2] 58)).alloc (.cells #[.bool g2, .slice P3 M3 C3, .slice P4 M4 C4] 58)).alloc (.cells #[.bool false, .slice none 0 0, .slice none 0 0] 58)) := (((Below.refl _ _).alloc (Nat.le_refl _) _).alloc (by simp) _).alloc (by simp; omega) _
 simp only [World.size_alloc] at K1 K2
 have c02 := K0.c2
 have c12 := K1.c2
 go_enter Tryz.func40, Tryz.ntmps40
 go_wp2_with fail
 generalize ((w.alloc (.cells #[.bool g1, .slice P1 M1 C1, .slice P2 M2 C2] 58)).alloc (.cells #[.bool g2, .slice P3 M3 C3, .slice P4 M4 C4] 58)).alloc (.cells #[.bool false, .slice none 0 0, .slice none 0 0] 58) = W at *
 go_wp2_with (first
  | (go_at_call 67; refine (H14 _ pr).mono ?_; rintro e w1 ⟨P5, M5, C5, rfl, N5, b1⟩; have p1 := bel' (bel' pr b1) ((Below.refl _ _).alloc (Nat.le_refl _) (.cells #[.slice P5 M5 C5] 56)); have q1 := bel' b1 ((Below.refl _ _).alloc (Nat.le_refl _) (.cells #[.slice P5 M5 C5] 56)); have KX1 := Bx.new w1 (.slice P5 M5 C5) 56; have N51 := N5.grow ((Below.refl _ _).alloc (Nat.le_refl _) (.cells #[.slice P5 M5 C5] 56)); have K01 := K0.grow q1; have K11 := K1.grow q1; have K21 := K2.grow q1; have c021 := K01.c2; have x51 := KX1.1)
  | (go_at_call 77; refine (H18 _ _ _ _ p1 N51).mono ?_; rintro e w2 ⟨P6, M6, C6, rfl, N6, b2⟩; have p2 := bel' (bel' p1 b2) ((Below.refl _ _).alloc (Nat.le_refl _) (.cells #[.slice P6 M6 C6] 56)); have q2 := bel' b2 ((Below.refl _ _).alloc (Nat.le_refl _) (.cells #[.slice P6 M6 C6] 56)); have KY := Bx.new w2 (.slice P6 M6 C6) 56; have N62 := N6.grow ((Below.refl _ _).alloc (Nat.le_refl _) (.cells #[.slice P6 M6 C6] 56)); have K02 := K01.grow q2; have K12 := K11.grow q2; have K22 := K21.grow q2; have KX := KX1.below q2; have N52 := N51.grow q2)
  | fail)
 generalize w2.alloc (.cells #[.slice P6 M6 C6] 56) = wA at *
 generalize w1.heap.size = X at *
 generalize w2.heap.size = Y at *
 have C27 : ∀ x, Below wA.heap.size wA x → Calls Tryz.prog 77 #[.agg #[.slice P4 M4 C4], .agg #[.slice P5 M5 C5]] x fun e w' => ∃ a l c, e = .returned (.agg #[.slice a l c]) ∧ Nn w' a l c D1 ∧ Below x.heap.size x w' := fun x b => H27 x _ _ _ (bel' p2 b) (N52.grow b)
 have M28 : ∀ x a l c, Below wA.heap.size wA x → Nn x a l c D1 → Calls Tryz.prog 50 #[.agg #[.slice P1 M1 C1], .agg #[.slice a l c]] x fun e w' => ∃ a l c, e = .returned (.agg #[.slice a l c]) ∧ Nn w' a l c A1 ∧ Below x.heap.size x w' := fun x a l c b h => H28 x a l c (bel' p2 b) h
 have M34 : ∀ x, Below wA.heap.size wA x → Calls Tryz.prog 50 #[.agg #[.slice P3 M3 C3], .agg #[.slice P6 M6 C6]] x fun e w' => ∃ a l c, e = .returned (.agg #[.slice a l c]) ∧ Nn w' a l c A2 ∧ Below x.heap.size x w' := fun x b => H34 x _ _ _ (bel' p2 b) (N62.grow b)
 have PS := H35
 clear K0 K1 K2 K01 K11 K21 KX1 c02 c12 c021 x51 b1 b2 q1 q2 p1 pr N5 N51 N6
 go_cut [7, 8] from 19 to 37 (fun a b wc => ∃ Z P7 M7 C7, b = .pointer (some ⟨Z, 0, none⟩) ∧ a = .bool g ∧ wA.heap.size ≤ Z ∧ Below wA.heap.size wA wc ∧ Nn wc P7 M7 C7 Nu ∧ Bx wc Z (.slice P7 M7 C7))
 case first =>
  rename_i hm hJ
  refine wp_region_held (S := fun _ => True) (by kernel_rfl) (any_inv (fun listed a x => ∃ (y0 y1 y2 y3 y4 y5 y6 y7 y8 y9 y10 y11 y12 y13 y14 y15 y16 y17 y18 y19 y20 : Bool) (t20 t21 t22 t23 t24 t25 t26 t27 t28 t29 t30 t31 t32 t33 t34 t35 t19 t36 t37 t8 t7 : Value), a = ⟨#[.agg #[.bool g1, .slice P1 M1 C1, .slice P2 M2 C2], .agg #[.bool g2, .slice P3 M3 C3, .slice P4 M4 C4], .pointer (some ⟨w.heap.size, 0, none⟩), .pointer (some ⟨w.heap.size + 1, 0, none⟩), .pointer (some ⟨w.heap.size + 1 + 1, 0, none⟩), .pointer (some ⟨X, 0, none⟩), .pointer (some ⟨Y, 0, none⟩), t7, t8, undef, .pointer (some ⟨w.heap.size, 2, none⟩), .agg #[.slice P2 M2 C2], .pointer (some ⟨w.heap.size + 1, 2, none⟩), .agg #[.slice P4 M4 C4], .agg #[.slice P5 M5 C5], .pointer (some ⟨w.heap.size, 2, none⟩), .agg #[.slice P2 M2 C2], .agg #[.slice P5 M5 C5], .agg #[.slice P6 M6 C6], t19, t20, t21, t22, t23, t24, t25, t26, t27, t28, t29, t30, t31, t32, t33, t34, t35, t36, t37, undef, undef, undef, undef, undef, undef, undef, undef, undef, undef, undef, undef, undef, undef], []⟩ ∧ ((listed = #[y0, y1, y2, y3, y4, y5, y6, y7, y8, y9, y10, y11, y12, y13, y14, y15, y16, y17, y18, y19, y20, false] ∧ FP3 wA x g (.pointer (some ⟨w.heap.size, 0, none⟩)) (.bool g1) (.pointer (some ⟨w.heap.size, 1, none⟩)) (.agg #[.slice P1 M1 C1]) (.pointer (some ⟨w.heap.size + 1, 2, none⟩)) (.agg #[.slice P4 M4 C4]) (.agg #[.slice P5 M5 C5]) (.pointer (some ⟨w.heap.size + 1, 0, none⟩)) (.bool g2) (.pointer (some ⟨w.heap.size + 1, 1, none⟩)) (.agg #[.slice P3 M3 C3]) (.agg #[.slice P6 M6 C6]) (.bool g) (.bool g) (D1) (A1) (A2) (Nu) (Nu) (Nu) y0 y1 y2 y3 y4 y5 y6 y7 y8 y9 y10 y11 y12 y13 y14 y15 y16 y17 y18 y19 y20 t20 t21 t22 t23 t24 t25 t26 t27 t28 t29 t30 t31 t32 t33 t34 t35 t19 t36 t37 t8 t7) ∨ (listed = #[true, true, true, true, true, true, true, true, true, true, true, true, true, true, true, true, true, true, true, true, true, true] ∧ ∃ Z P7 M7 C7, t8 = .pointer (some ⟨Z, 0, none⟩) ∧ t7 = .bool g ∧ wA.heap.size ≤ Z ∧ Below wA.heap.size wA x ∧ Nn x P7 M7 C7 Nu ∧ Bx x Z (.slice P7 M7 C7)))) ?_ ?_ _ _ _ _ (by decide) ?_)
  ·rintro listed a x i ⟨y0, y1, y2, y3, y4, y5, y6, y7, y8, y9, y10, y11, y12, y13, y14, y15, y16, y17, y18, y19, y20, t20, t21, t22, t23, t24, t25, t26, t27, t28, t29, t30, t31, t32, t33, t34, t35, t19, t36, t37, t8, t7, rfl, h⟩ hi
   have hr : i < 22 := List.mem_range.1 (List.mem_filter.1 hi).1
   have hc := (List.mem_filter.1 hi).2
   rcases h with ⟨rfl, h⟩ | ⟨rfl, h⟩
   ·rcases (show i = 0 ∨ i = 1 ∨ i = 2 ∨ i = 3 ∨ i = 4 ∨ i = 5 ∨ i = 6 ∨ i = 7 ∨ i = 8 ∨ i = 9 ∨ i = 10 ∨ i = 11 ∨ i = 12 ∨ i = 13 ∨ i = 14 ∨ i = 15 ∨ i = 16 ∨ i = 17 ∨ i = 18 ∨ i = 19 ∨ i = 20 ∨ i = 21 by omega) with rfl | rfl | rfl | rfl | rfl | rfl | rfl | rfl | rfl | rfl | rfl | rfl | rfl | rfl | rfl | rfl | rfl | rfl | rfl | rfl | rfl | rfl
    ·clear hc hi
     refine wpOp_step rfl (fun K hK0 => ?_)
     have hK : Hid _ := hK0
     clear hK0
     rw [if_pos (by rfl)]
     go_wp2_with fail
     exact hK.out _ _ ⟨true,_,_,_,_,_,_,_,_,_,_,_,_,_,_,_,_,_,_,_,_,.pointer (some ⟨w.heap.size, 0, none⟩),_,_,_,_,_,_,_,_,_,_,_,_,_,_,_,_,_,_,_,_,rfl,Or.inl ⟨rfl, { h with o0 := fun _ => rfl }⟩⟩
    ·have e0 : y0 = true := by
      revert hc
      cases y0 <;> simp [Region.binds]
     have r0 := h.o0 e0
     subst r0
     clear hc hi
     have kd := (K02.grow h.bel).c0
     refine wpOp_step rfl (fun K hK0 => ?_)
     have hK : Hid _ := hK0
     clear hK0
     rw [if_pos (by rfl)]
     go_wp2_with fail
     exact hK.out _ _ ⟨_,true,_,_,_,_,_,_,_,_,_,_,_,_,_,_,_,_,_,_,_,_,.bool g1,_,_,_,_,_,_,_,_,_,_,_,_,_,_,_,_,_,_,_,rfl,Or.inl ⟨rfl, { h with o1 := fun _ => rfl }⟩⟩
    ·clear hc hi
     refine wpOp_step rfl (fun K hK0 => ?_)
     have hK : Hid _ := hK0
     clear hK0
     rw [if_pos (by rfl)]
     go_wp2_with fail
     exact hK.out _ _ ⟨_,_,true,_,_,_,_,_,_,_,_,_,_,_,_,_,_,_,_,_,_,_,_,.pointer (some ⟨w.heap.size, 1, none⟩),_,_,_,_,_,_,_,_,_,_,_,_,_,_,_,_,_,_,rfl,Or.inl ⟨rfl, { h with o2 := fun _ => rfl }⟩⟩
    ·have e2 : y2 = true := by
      revert hc
      cases y2 <;> simp [Region.binds]
     have r2 := h.o2 e2
     subst r2
     clear hc hi
     have kd := (K02.grow h.bel).c1
     refine wpOp_step rfl (fun K hK0 => ?_)
     have hK : Hid _ := hK0
     clear hK0
     rw [if_pos (by rfl)]
     go_wp2_with fail
     exact hK.out _ _ ⟨_,_,_,true,_,_,_,_,_,_,_,_,_,_,_,_,_,_,_,_,_,_,_,_,.agg #[.slice P1 M1 C1],_,_,_,_,_,_,_,_,_,_,_,_,_,_,_,_,_,rfl,Or.inl ⟨rfl, { h with o3 := fun _ => rfl }⟩⟩
    ·clear hc hi
     refine wpOp_step rfl (fun K hK0 => ?_)
     have hK : Hid _ := hK0
     clear hK0
     rw [if_pos (by rfl)]
     go_wp2_with fail
     exact hK.out _ _ ⟨_,_,_,_,true,_,_,_,_,_,_,_,_,_,_,_,_,_,_,_,_,_,_,_,_,.pointer (some ⟨w.heap.size + 1, 2, none⟩),_,_,_,_,_,_,_,_,_,_,_,_,_,_,_,_,rfl,Or.inl ⟨rfl, { h with o4 := fun _ => rfl }⟩⟩
    ·have e4 : y4 = true := by
      revert hc
      cases y4 <;> simp [Region.binds]
     have r4 := h.o4 e4
     subst r4
     clear hc hi
     have kd := (K12.grow h.bel).c2
     refine wpOp_step rfl (fun K hK0 => ?_)
     have hK : Hid _ := hK0
     clear hK0
     rw [if_pos (by rfl)]
     go_wp2_with fail
     exact hK.out _ _ ⟨_,_,_,_,_,true,_,_,_,_,_,_,_,_,_,_,_,_,_,_,_,_,_,_,_,_,.agg #[.slice P4 M4 C4],_,_,_,_,_,_,_,_,_,_,_,_,_,_,_,rfl,Or.inl ⟨rfl, { h with o5 := fun _ => rfl }⟩⟩
    ·clear hc hi
     have kd := (KX.below h.bel).1
     refine wpOp_step rfl (fun K hK0 => ?_)
     have hK : Hid _ := hK0
     clear hK0
     rw [if_pos (by rfl)]
     go_wp2_with fail
     exact hK.out _ _ ⟨_,_,_,_,_,_,true,_,_,_,_,_,_,_,_,_,_,_,_,_,_,_,_,_,_,_,_,.agg #[.slice P5 M5 C5],_,_,_,_,_,_,_,_,_,_,_,_,_,_,rfl,Or.inl ⟨rfl, { h with o6 := fun _ => rfl }⟩⟩
    ·have e5 : y5 = true := by
      revert hc
      cases y5 <;> simp [Region.binds]
     have e6 : y6 = true := by
      revert hc
      cases y6 <;> simp [Region.binds]
     have r5 := h.o5 e5
     subst r5
     have r6 := h.o6 e6
     subst r6
     clear hc hi
     refine wpOp_step rfl (fun K hK0 => ?_)
     have hK : Hid _ := hK0
     clear hK0
     rw [if_pos (by rfl)]
     go_wp2_with (first | (go_at_call 77; go_must (refine (C27 x h.bel).mono ?_; rintro e x2 ⟨a9, l9, c9, rfl, H9, bb⟩)) | fail)
     exact hK.out _ _ ⟨_,_,_,_,_,_,_,true,_,_,_,_,_,_,_,_,_,_,_,_,_,_,_,_,_,_,_,_,_,_,_,_,_,_,_,_,_,_,_,_,_,_,rfl,Or.inl ⟨rfl, { h.grow bb with o7 := fun _ => ⟨a9, l9, c9, rfl, H9⟩ }⟩⟩
    ·have e3 : y3 = true := by
      revert hc
      cases y3 <;> simp [Region.binds]
     have e7 : y7 = true := by
      revert hc
      cases y7 <;> simp [Region.binds]
     have r3 := h.o3 e3
     subst r3
     obtain ⟨a7, l7, c7, rfl, H7⟩ := h.o7 e7
     clear hc hi
     refine wpOp_step rfl (fun K hK0 => ?_)
     have hK : Hid _ := hK0
     clear hK0
     rw [if_pos (by rfl)]
     go_wp2_with (first | (go_at_call 50; go_must (refine (M28 x a7 l7 c7 h.bel H7).mono ?_; rintro e x2 ⟨a9, l9, c9, rfl, H9, bb⟩)) | fail)
     exact hK.out _ _ ⟨_,_,_,_,_,_,_,_,true,_,_,_,_,_,_,_,_,_,_,_,_,_,_,_,_,_,_,_,_,_,_,_,_,_,_,_,_,_,_,_,_,_,rfl,Or.inl ⟨rfl, { h.grow bb with o8 := fun _ => ⟨a9, l9, c9, rfl, H9⟩ }⟩⟩
    ·clear hc hi
     refine wpOp_step rfl (fun K hK0 => ?_)
     have hK : Hid _ := hK0
     clear hK0
     rw [if_pos (by rfl)]
     go_wp2_with fail
     exact hK.out _ _ ⟨_,_,_,_,_,_,_,_,_,true,_,_,_,_,_,_,_,_,_,_,_,_,_,_,_,_,_,_,_,_,.pointer (some ⟨w.heap.size + 1, 0, none⟩),_,_,_,_,_,_,_,_,_,_,_,rfl,Or.inl ⟨rfl, { h with o9 := fun _ => rfl }⟩⟩
    ·have e9 : y9 = true := by
      revert hc
      cases y9 <;> simp [Region.binds]
     have r9 := h.o9 e9
     subst r9
     clear hc hi
     have kd := (K12.grow h.bel).c0
     refine wpOp_step rfl (fun K hK0 => ?_)
     have hK : Hid _ := hK0
     clear hK0
     rw [if_pos (by rfl)]
     go_wp2_with fail
     exact hK.out _ _ ⟨_,_,_,_,_,_,_,_,_,_,true,_,_,_,_,_,_,_,_,_,_,_,_,_,_,_,_,_,_,_,_,.bool g2,_,_,_,_,_,_,_,_,_,_,rfl,Or.inl ⟨rfl, { h with o10 := fun _ => rfl }⟩⟩
    ·clear hc hi
     refine wpOp_step rfl (fun K hK0 => ?_)
     have hK : Hid _ := hK0
     clear hK0
     rw [if_pos (by rfl)]
     go_wp2_with fail
     exact hK.out _ _ ⟨_,_,_,_,_,_,_,_,_,_,_,true,_,_,_,_,_,_,_,_,_,_,_,_,_,_,_,_,_,_,_,_,.pointer (some ⟨w.heap.size + 1, 1, none⟩),_,_,_,_,_,_,_,_,_,rfl,Or.inl ⟨rfl, { h with o11 := fun _ => rfl }⟩⟩
    ·have e11 : y11 = true := by
      revert hc
      cases y11 <;> simp [Region.binds]
     have r11 := h.o11 e11
     subst r11
     clear hc hi
     have kd := (K12.grow h.bel).c1
     refine wpOp_step rfl (fun K hK0 => ?_)
     have hK : Hid _ := hK0
     clear hK0
     rw [if_pos (by rfl)]
     go_wp2_with fail
     exact hK.out _ _ ⟨_,_,_,_,_,_,_,_,_,_,_,_,true,_,_,_,_,_,_,_,_,_,_,_,_,_,_,_,_,_,_,_,_,.agg #[.slice P3 M3 C3],_,_,_,_,_,_,_,_,rfl,Or.inl ⟨rfl, { h with o12 := fun _ => rfl }⟩⟩
    ·clear hc hi
     have kd := (KY.below h.bel).1
     refine wpOp_step rfl (fun K hK0 => ?_)
     have hK : Hid _ := hK0
     clear hK0
     rw [if_pos (by rfl)]
     go_wp2_with fail
     exact hK.out _ _ ⟨_,_,_,_,_,_,_,_,_,_,_,_,_,true,_,_,_,_,_,_,_,_,_,_,_,_,_,_,_,_,_,_,_,_,.agg #[.slice P6 M6 C6],_,_,_,_,_,_,_,rfl,Or.inl ⟨rfl, { h with o13 := fun _ => rfl }⟩⟩
    ·have e12 : y12 = true := by
      revert hc
      cases y12 <;> simp [Region.binds]
     have e13 : y13 = true := by
      revert hc
      cases y13 <;> simp [Region.binds]
     have r12 := h.o12 e12
     subst r12
     have r13 := h.o13 e13
     subst r13
     clear hc hi
     refine wpOp_step rfl (fun K hK0 => ?_)
     have hK : Hid _ := hK0
     clear hK0
     rw [if_pos (by rfl)]
     go_wp2_with (first | (go_at_call 50; go_must (refine (M34 x h.bel).mono ?_; rintro e x2 ⟨a9, l9, c9, rfl, H9, bb⟩)) | fail)
     exact hK.out _ _ ⟨_,_,_,_,_,_,_,_,_,_,_,_,_,_,true,_,_,_,_,_,_,_,_,_,_,_,_,_,_,_,_,_,_,_,_,_,_,_,_,_,_,_,rfl,Or.inl ⟨rfl, { h.grow bb with o14 := fun _ => ⟨a9, l9, c9, rfl, H9⟩ }⟩⟩
    ·have e1 : y1 = true := by
      revert hc
      cases y1 <;> simp [Region.binds]
     have e8 : y8 = true := by
      revert hc
      cases y8 <;> simp [Region.binds]
     have e10 : y10 = true := by
      revert hc
      cases y10 <;> simp [Region.binds]
     have e14 : y14 = true := by
      revert hc
      cases y14 <;> simp [Region.binds]
     have r1 := h.o1 e1
     subst r1
     obtain ⟨a8, l8, c8, rfl, H8⟩ := h.o8 e8
     have r10 := h.o10 e10
     subst r10
     obtain ⟨a14, l14, c14, rfl, H14⟩ := h.o14 e14
     clear hc hi
     refine wpOp_step rfl (fun K hK0 => ?_)
     have hK : Hid _ := hK0
     clear hK0
     rw [if_pos (by rfl)]
     go_wp2_with (first | (go_at_call 78; go_must (refine (PS x a8 l8 c8 a14 l14 c14 H8 H14).mono ?_; rintro e x2 ⟨a9, l9, c9, rfl, H9, bb⟩)) | fail)
     exact hK.out _ _ ⟨_,_,_,_,_,_,_,_,_,_,_,_,_,_,_,true,_,_,_,_,_,_,_,_,_,_,_,_,_,_,_,_,_,_,_,_,_,_,_,_,_,_,rfl,Or.inl ⟨rfl, { h.grow bb with o15 := fun _ => ⟨a9, l9, c9, rfl, H9⟩ }⟩⟩
    ·have e15 : y15 = true := by
      revert hc
      cases y15 <;> simp [Region.binds]
     obtain ⟨a15, l15, c15, rfl, H15⟩ := h.o15 e15
     clear hc hi
     refine wpOp_step rfl (fun K hK0 => ?_)
     have hK : Hid _ := hK0
     clear hK0
     rw [if_pos (by rfl)]
     go_wp2_with fail
     exact hK.out _ _ ⟨_,_,_,_,_,_,_,_,_,_,_,_,_,_,_,_,true,_,_,_,_,_,_,_,_,_,_,_,_,_,_,_,_,_,_,_,_,_,_,_,_,_,rfl,Or.inl ⟨rfl, { h with o16 := fun _ => ⟨a15, l15, c15, rfl, H15⟩ }⟩⟩
    ·have e16 : y16 = true := by
      revert hc
      cases y16 <;> simp [Region.binds]
     obtain ⟨a16, l16, c16, rfl, H16⟩ := h.o16 e16
     clear hc hi
     refine wpOp_step rfl (fun K hK0 => ?_)
     have hK : Hid _ := hK0
     clear hK0
     rw [if_pos (by rfl)]
     go_wp2_with fail
     exact hK.out _ _ ⟨_,_,_,_,_,_,_,_,_,_,_,_,_,_,_,_,_,true,_,_,_,_,_,_,_,_,_,_,_,_,_,_,_,_,_,_,_,_,.bool g,_,_,_,rfl,Or.inl ⟨rfl, { h with o17 := fun _ => rfl }⟩⟩
    ·have e16 : y16 = true := by
      revert hc
      cases y16 <;> simp [Region.binds]
     obtain ⟨a16, l16, c16, rfl, H16⟩ := h.o16 e16
     clear hc hi
     refine wpOp_step rfl (fun K hK0 => ?_)
     have hK : Hid _ := hK0
     clear hK0
     rw [if_pos (by rfl)]
     go_wp2_with fail
     exact hK.out _ _ ⟨_,_,_,_,_,_,_,_,_,_,_,_,_,_,_,_,_,_,true,_,_,_,_,_,_,_,_,_,_,_,_,_,_,_,_,_,_,_,_,_,_,_,rfl,Or.inl ⟨rfl, { h with o18 := fun _ => ⟨a16, l16, c16, rfl, H16⟩ }⟩⟩
    ·clear hc hi
     refine wpOp_step rfl (fun K hK0 => ?_)
     have hK : Hid _ := hK0
     clear hK0
     rw [if_pos (by rfl)]
     go_wp2_with fail
     exact hK.out _ _ ⟨_,_,_,_,_,_,_,_,_,_,_,_,_,_,_,_,_,_,_,true,_,_,_,_,_,_,_,_,_,_,_,_,_,_,_,_,_,_,_,_,_,_,rfl,Or.inl ⟨rfl, { h.grow ((Below.refl _ _).alloc (Nat.le_refl _) _) with o19 := fun _ => ⟨_, rfl, h.bel.size, Blk.new _ _ _⟩ }⟩⟩
    ·have e17 : y17 = true := by
      revert hc
      cases y17 <;> simp [Region.binds]
     have r17 := h.o17 e17
     subst r17
     clear hc hi
     refine wpOp_step rfl (fun K hK0 => ?_)
     have hK : Hid _ := hK0
     clear hK0
     rw [if_pos (by rfl)]
     go_wp2_with fail
     exact hK.out _ _ ⟨_,_,_,_,_,_,_,_,_,_,_,_,_,_,_,_,_,_,_,_,true,_,_,_,_,_,_,_,_,_,_,_,_,_,_,_,_,_,_,_,_,.bool g,rfl,Or.inl ⟨rfl, { h with o20 := fun _ => rfl }⟩⟩
    ·have e0 : y0 = true := by
      revert hc
      cases y0 <;> simp [Region.binds]
     have e1 : y1 = true := by
      revert hc
      cases y1 <;> simp [Region.binds]
     have e2 : y2 = true := by
      revert hc
      cases y2 <;> simp [Region.binds]
     have e3 : y3 = true := by
      revert hc
      cases y3 <;> simp [Region.binds]
     have e4 : y4 = true := by
      revert hc
      cases y4 <;> simp [Region.binds]
     have e5 : y5 = true := by
      revert hc
      cases y5 <;> simp [Region.binds]
     have e6 : y6 = true := by
      revert hc
      cases y6 <;> simp [Region.binds]
     have e7 : y7 = true := by
      revert hc
      cases y7 <;> simp [Region.binds]
     have e8 : y8 = true := by
      revert hc
      cases y8 <;> simp [Region.binds]
     have e9 : y9 = true := by
      revert hc
      cases y9 <;> simp [Region.binds]
     have e10 : y10 = true := by
      revert hc
      cases y10 <;> simp [Region.binds]
     have e11 : y11 = true := by
      revert hc
      cases y11 <;> simp [Region.binds]
     have e12 : y12 = true := by
      revert hc
      cases y12 <;> simp [Region.binds]
     have e13 : y13 = true := by
      revert hc
      cases y13 <;> simp [Region.binds]
     have e14 : y14 = true := by
      revert hc
      cases y14 <;> simp [Region.binds]
     have e15 : y15 = true := by
      revert hc
      cases y15 <;> simp [Region.binds]
     have e16 : y16 = true := by
      revert hc
      cases y16 <;> simp [Region.binds]
     have e17 : y17 = true := by
      revert hc
      cases y17 <;> simp [Region.binds]
     have e18 : y18 = true := by
      revert hc
      cases y18 <;> simp [Region.binds]
     have e19 : y19 = true := by
      revert hc
      cases y19 <;> simp [Region.binds]
     have e20 : y20 = true := by
      revert hc
      cases y20 <;> simp [Region.binds]
     obtain ⟨a18, l18, c18, rfl, H18⟩ := h.o18 e18
     obtain ⟨X19, rfl, lX19, K19⟩ := h.o19 e19
     have r20 := h.o20 e20
     subst r20
     clear hc hi
     subst e0 e1 e2 e3 e4 e5 e6 e7 e8 e9 e10 e11 e12 e13 e14 e15 e16 e17 e18 e19 e20
     have bl := h.bel
     have xx := K19.at 0
     have xf := K19.free 0
     have KX9 := Bx.of K19
     clear h
     refine wpOp_step rfl (fun K hK0 => ?_)
     have hK : Hid _ := hK0
     clear hK0
     rw [if_pos (by rfl)]
     go_wp2_with fail
     exact hK.out _ _ ⟨true,true,true,true,true,true,true,true,true,true,true,true,true,true,true,true,true,true,true,true,true,_,_,_,_,_,_,_,_,_,_,_,_,_,_,_,_,_,_,_,_,_,rfl,Or.inr (⟨rfl, X19, a18, l18, c18, rfl, rfl, lX19, below_put bl lX19 _, H18.box KX9, KX9.set _⟩)⟩
   ·rcases (show i = 0 ∨ i = 1 ∨ i = 2 ∨ i = 3 ∨ i = 4 ∨ i = 5 ∨ i = 6 ∨ i = 7 ∨ i = 8 ∨ i = 9 ∨ i = 10 ∨ i = 11 ∨ i = 12 ∨ i = 13 ∨ i = 14 ∨ i = 15 ∨ i = 16 ∨ i = 17 ∨ i = 18 ∨ i = 19 ∨ i = 20 ∨ i = 21 by omega) with rfl | rfl | rfl | rfl | rfl | rfl | rfl | rfl | rfl | rfl | rfl | rfl | rfl | rfl | rfl | rfl | rfl | rfl | rfl | rfl | rfl | rfl <;> simp at hc
  ·rintro listed a x ⟨y0, y1, y2, y3, y4, y5, y6, y7, y8, y9, y10, y11, y12, y13, y14, y15, y16, y17, y18, y19, y20, t20, t21, t22, t23, t24, t25, t26, t27, t28, t29, t30, t31, t32, t33, t34, t35, t19, t36, t37, t8, t7, rfl, h⟩ hn
   have al := all_listed2 (by decide +kernel) hn
   rcases h with ⟨rfl, h⟩ | ⟨rfl, h⟩
   ·have z := al 21 (by decide)
    simp at z
   ·obtain ⟨Z, P7, M7, C7, rfl, rfl, lZ, bl, H7, KZ⟩ := h
    refine hJ _ _ ?_
    go_meet
    case rel => exact ⟨Z, P7, M7, C7, rfl, rfl, lZ, bl, H7, KZ⟩
  ·exact ⟨false, false, false, false, false, false, false, false, false, false, false, false, false, false, false, false, false, false, false, false, false, undef, undef, undef, undef, undef, undef, undef, undef, undef, undef, undef, undef, undef, undef, undef, undef, undef, undef, undef, undef, undef, rfl, Or.inl ⟨rfl, { bel := (Below.refl _ _).drew, o0 := (by intro q; cases q), o1 := (by intro q; cases q), o2 := (by intro q; cases q), o3 := (by intro q; cases q), o4 := (by intro q; cases q), o5 := (by intro q; cases q), o6 := (by intro q; cases q), o7 := (by intro q; cases q), o8 := (by intro q; cases q), o9 := (by intro q; cases q), o10 := (by intro q; cases q), o11 := (by intro q; cases q), o12 := (by intro q; cases q), o13 := (by intro q; cases q), o14 := (by intro q; cases q), o15 := (by intro q; cases q), o16 := (by intro q; cases q), o17 := (by intro q; cases q), o18 := (by intro q; cases q), o19 := (by intro q; cases q), o20 := (by intro q; cases q) }⟩⟩
 case rest =>
  rename World => wB
  obtain ⟨Z, P7, M7, C7, rfl, rfl, lZ, bl3, H7, KZ⟩ := hcut
  have K13 := K12.grow bl3
  have K23 := K22.grow bl3
  have KX3 := KX.below bl3
  have KY3 := KY.below bl3
  have N53 := N52.grow bl3
  have N63 := N62.grow bl3
  have p3 := bel' p2 bl3
  have x53 := KX3.1
  have x73 := KZ.1
  clear C27 M28 M34 PS K02 K12 K22 KX KY N52 N62 p2 bl3
  go_wp2_with (first
   | (go_at_call 67; refine (H40 _ _ _ _ _ _ _ H7 N53).mono ?_; rintro e w4 ⟨P8, M8, C8, rfl, N8, b4⟩; have q4 := bel' b4 ((Below.refl _ _).alloc (Nat.le_refl _) (.cells #[.slice P8 M8 C8] 56)); have KV := Bx.new w4 (.slice P8 M8 C8) 56; have N84 := N8.grow ((Below.refl _ _).alloc (Nat.le_refl _) (.cells #[.slice P8 M8 C8] 56)); have K14 := K13.grow q4; have K24 := K23.grow q4; have KZ4 := KZ.below q4; have KY4 := KY3.below q4; have H74 := H7.grow q4; have N64 := N63.grow q4; have p4 := bel' p3 q4)
   | fail)
  generalize w4.alloc (.cells #[.slice P8 M8 C8] 56) = wC at *
  generalize w4.heap.size = V at *
  have C44 : ∀ x, Below wC.heap.size wC x → Calls Tryz.prog 77 #[.agg #[.slice P7 M7 C7], .agg #[.slice P8 M8 C8]] x fun e w' => ∃ a l c, e = .returned (.agg #[.slice a l c]) ∧ Nn w' a l c N2 ∧ Below x.heap.size x w' := fun x b => H44 x _ _ _ _ _ _ (H74.grow b) (N84.grow b)
  have C49 : ∀ x, Below wC.heap.size wC x → Calls Tryz.prog 77 #[.agg #[.slice P4 M4 C4], .agg #[.slice P8 M8 C8]] x fun e w' => ∃ a l c, e = .returned (.agg #[.slice a l c]) ∧ Nn w' a l c D2 ∧ Below x.heap.size x w' := fun x b => H49 x _ _ _ (bel' p4 b) (N84.grow b)
  have M50 : ∀ x a l c, Below wC.heap.size wC x → Nn x a l c D2 → Calls Tryz.prog 50 #[.agg #[.slice P6 M6 C6], .agg #[.slice a l c]] x fun e w' => ∃ a l c, e = .returned (.agg #[.slice a l c]) ∧ Nn w' a l c Q ∧ Below x.heap.size x w' := fun x a l c b h => H50 x _ _ _ a l c (N64.grow b) h
  clear K13 K23 KX3 KY3 KZ N53 N63 p3 x53 x73 N8 q4 b4 H7
  go_cut [] from 41 to 51 (fun wf => ∃ p1 m1 q1 p2 m2 q2 x0, Nn x0 p1 m1 q1 N2 ∧ Nn x0 p2 m2 q2 Q ∧ Below wC.heap.size wC x0 ∧ wf = ((x0.setCell ⟨w.heap.size + 1 + 1, 0, none⟩ (.bool g)).setCell ⟨w.heap.size + 1 + 1, 1, none⟩ (.slice p1 m1 q1)).setCell ⟨w.heap.size + 1 + 1, 2, none⟩ (.slice p2 m2 q2))
  case first =>
   rename_i hm hJ
   refine wp_region_held (S := fun _ => True) (by kernel_rfl) (any_inv (fun listed a x => ∃ (y0 y1 y2 y3 y4 y5 y6 y7 y8 y9 : Bool) (t41 t42 t43 t44 t45 t46 t47 t48 t49 t50 : Value) (z51 : Value), a = ⟨#[.agg #[.bool g1, .slice P1 M1 C1, .slice P2 M2 C2], .agg #[.bool g2, .slice P3 M3 C3, .slice P4 M4 C4], .pointer (some ⟨w.heap.size, 0, none⟩), .pointer (some ⟨w.heap.size + 1, 0, none⟩), .pointer (some ⟨w.heap.size + 1 + 1, 0, none⟩), .pointer (some ⟨X, 0, none⟩), .pointer (some ⟨Y, 0, none⟩), .bool g, .pointer (some ⟨Z, 0, none⟩), .pointer (some ⟨V, 0, none⟩), .pointer (some ⟨w.heap.size, 2, none⟩), .agg #[.slice P2 M2 C2], .pointer (some ⟨w.heap.size + 1, 2, none⟩), .agg #[.slice P4 M4 C4], .agg #[.slice P5 M5 C5], .pointer (some ⟨w.heap.size, 2, none⟩), .agg #[.slice P2 M2 C2], .agg #[.slice P5 M5 C5], .agg #[.slice P6 M6 C6], u19, u20, u21, u22, u23, u24, u25, u26, u27, u28, u29, u30, u31, u32, u33, u34, u35, u36, u37, .agg #[.slice P7 M7 C7], .agg #[.slice P5 M5 C5], .agg #[.slice P8 M8 C8], t41, t42, t43, t44, t45, t46, t47, t48, t49, t50, z51], []⟩ ∧ ((listed = #[y0, y1, y2, y3, y4, y5, y6, y7, y8, y9, false, false] ∧ FP5 wC x (.bool g) (.agg #[.slice P7 M7 C7]) (.agg #[.slice P8 M8 C8]) (.agg #[.slice P6 M6 C6]) (.pointer (some ⟨w.heap.size + 1, 2, none⟩)) (.agg #[.slice P4 M4 C4]) (.agg #[.slice P8 M8 C8]) (N2) (D2) (Q) y0 y1 y2 y3 y4 y5 y6 y7 y8 y9 t41 t42 t43 t44 t45 t46 t47 t48 t49 t50 ∧ z51 = undef) ∨ (listed = #[true, true, true, true, true, true, true, true, true, true, true, false] ∧ ∃ p1 m1 q1 p2 m2 q2, z51 = .agg #[.bool g, .slice p1 m1 q1, .slice p2 m2 q2] ∧ Nn x p1 m1 q1 N2 ∧ Nn x p2 m2 q2 Q ∧ Below wC.heap.size wC x) ∨ (listed = #[true, true, true, true, true, true, true, true, true, true, true, true] ∧ ∃ p1 m1 q1 p2 m2 q2 x0, z51 = .agg #[.bool g, .slice p1 m1 q1, .slice p2 m2 q2] ∧ Nn x0 p1 m1 q1 N2 ∧ Nn x0 p2 m2 q2 Q ∧ Below wC.heap.size wC x0 ∧ x = ((x0.setCell ⟨w.heap.size + 1 + 1, 0, none⟩ (.bool g)).setCell ⟨w.heap.size + 1 + 1, 1, none⟩ (.slice p1 m1 q1)).setCell ⟨w.heap.size + 1 + 1, 2, none⟩ (.slice p2 m2 q2)))) ?_ ?_ _ _ _ _ (by decide) ?_)
   ·rintro listed a x i ⟨y0, y1, y2, y3, y4, y5, y6, y7, y8, y9, t41, t42, t43, t44, t45, t46, t47, t48, t49, t50, z51, rfl, h⟩ hi
    have hr : i < 12 := List.mem_range.1 (List.mem_filter.1 hi).1
    have hc := (List.mem_filter.1 hi).2
    rcases h with ⟨rfl, h⟩ | ⟨rfl, h⟩ | ⟨rfl, h⟩
    ·rcases (show i = 0 ∨ i = 1 ∨ i = 2 ∨ i = 3 ∨ i = 4 ∨ i = 5 ∨ i = 6 ∨ i = 7 ∨ i = 8 ∨ i = 9 ∨ i = 10 ∨ i = 11 by omega) with rfl | rfl | rfl | rfl | rfl | rfl | rfl | rfl | rfl | rfl | rfl | rfl
     ·obtain ⟨h, rfl⟩ := h
      clear hc hi
      refine wpOp_step rfl (fun K hK0 => ?_)
      have hK : Hid _ := hK0
      clear hK0
      rw [if_pos (by rfl)]
      go_wp2_with fail
      exact hK.out _ _ ⟨true,_,_,_,_,_,_,_,_,_,.bool g,_,_,_,_,_,_,_,_,_,undef,rfl,Or.inl ⟨rfl, ⟨{ h with o0 := fun _ => rfl }, rfl⟩⟩⟩
     ·obtain ⟨h, rfl⟩ := h
      clear hc hi
      have kd := (KZ4.below h.bel).1
      refine wpOp_step rfl (fun K hK0 => ?_)
      have hK : Hid _ := hK0
      clear hK0
      rw [if_pos (by rfl)]
      go_wp2_with fail
      exact hK.out _ _ ⟨_,true,_,_,_,_,_,_,_,_,_,.agg #[.slice P7 M7 C7],_,_,_,_,_,_,_,_,undef,rfl,Or.inl ⟨rfl, ⟨{ h with o1 := fun _ => rfl, d3_1 := fun _ => rfl }, rfl⟩⟩⟩
     ·obtain ⟨h, rfl⟩ := h
      clear hc hi
      have kd := (KV.below h.bel).1
      refine wpOp_step rfl (fun K hK0 => ?_)
      have hK : Hid _ := hK0
      clear hK0
      rw [if_pos (by rfl)]
      go_wp2_with fail
      exact hK.out _ _ ⟨_,_,true,_,_,_,_,_,_,_,_,_,.agg #[.slice P8 M8 C8],_,_,_,_,_,_,_,undef,rfl,Or.inl ⟨rfl, ⟨{ h with o2 := fun _ => rfl, d3_2 := fun _ => rfl }, rfl⟩⟩⟩
     ·obtain ⟨h, rfl⟩ := h
      have e1 : y1 = true := by
       revert hc
       cases y1 <;> simp [Region.binds]
      have e2 : y2 = true := by
       revert hc
       cases y2 <;> simp [Region.binds]
      have r1 := h.o1 e1
      subst r1
      have r2 := h.o2 e2
      subst r2
      clear hc hi
      refine wpOp_step rfl (fun K hK0 => ?_)
      have hK : Hid _ := hK0
      clear hK0
      rw [if_pos (by rfl)]
      go_wp2_with (first | (go_at_call 77; go_must (refine (C44 x h.bel).mono ?_; rintro e x2 ⟨a9, l9, c9, rfl, H9, bb⟩)) | fail)
      exact hK.out _ _ ⟨_,_,_,true,_,_,_,_,_,_,_,_,_,_,_,_,_,_,_,_,undef,rfl,Or.inl ⟨rfl, ⟨{ h.grow bb with o3 := fun _ => ⟨a9, l9, c9, rfl, H9⟩, d3_1 := fun _ => e1, d3_2 := fun _ => e2 }, rfl⟩⟩⟩
     ·obtain ⟨h, rfl⟩ := h
      clear hc hi
      have kd := (KY4.below h.bel).1
      refine wpOp_step rfl (fun K hK0 => ?_)
      have hK : Hid _ := hK0
      clear hK0
      rw [if_pos (by rfl)]
      go_wp2_with fail
      exact hK.out _ _ ⟨_,_,_,_,true,_,_,_,_,_,_,_,_,_,.agg #[.slice P6 M6 C6],_,_,_,_,_,undef,rfl,Or.inl ⟨rfl, ⟨{ h with o4 := fun _ => rfl, d9_4 := fun _ => rfl }, rfl⟩⟩⟩
     ·obtain ⟨h, rfl⟩ := h
      clear hc hi
      refine wpOp_step rfl (fun K hK0 => ?_)
      have hK : Hid _ := hK0
      clear hK0
      rw [if_pos (by rfl)]
      go_wp2_with fail
      exact hK.out _ _ ⟨_,_,_,_,_,true,_,_,_,_,_,_,_,_,_,.pointer (some ⟨w.heap.size + 1, 2, none⟩),_,_,_,_,undef,rfl,Or.inl ⟨rfl, ⟨{ h with o5 := fun _ => rfl, d6_5 := fun _ => rfl }, rfl⟩⟩⟩
     ·obtain ⟨h, rfl⟩ := h
      have e5 : y5 = true := by
       revert hc
       cases y5 <;> simp [Region.binds]
      have r5 := h.o5 e5
      subst r5
      clear hc hi
      have kd := (K14.grow h.bel).c2
      refine wpOp_step rfl (fun K hK0 => ?_)
      have hK : Hid _ := hK0
      clear hK0
      rw [if_pos (by rfl)]
      go_wp2_with fail
      exact hK.out _ _ ⟨_,_,_,_,_,_,true,_,_,_,_,_,_,_,_,_,.agg #[.slice P4 M4 C4],_,_,_,undef,rfl,Or.inl ⟨rfl, ⟨{ h with o6 := fun _ => rfl, d6_5 := fun _ => e5, d8_6 := fun _ => rfl }, rfl⟩⟩⟩
     ·obtain ⟨h, rfl⟩ := h
      clear hc hi
      have kd := (KV.below h.bel).1
      refine wpOp_step rfl (fun K hK0 => ?_)
      have hK : Hid _ := hK0
      clear hK0
      rw [if_pos (by rfl)]
      go_wp2_with fail
      exact hK.out _ _ ⟨_,_,_,_,_,_,_,true,_,_,_,_,_,_,_,_,_,.agg #[.slice P8 M8 C8],_,_,undef,rfl,Or.inl ⟨rfl, ⟨{ h with o7 := fun _ => rfl, d8_7 := fun _ => rfl }, rfl⟩⟩⟩
     ·obtain ⟨h, rfl⟩ := h
      have e6 : y6 = true := by
       revert hc
       cases y6 <;> simp [Region.binds]
      have e7 : y7 = true := by
       revert hc
       cases y7 <;> simp [Region.binds]
      have r6 := h.o6 e6
      subst r6
      have r7 := h.o7 e7
      subst r7
      clear hc hi
      refine wpOp_step rfl (fun K hK0 => ?_)
      have hK : Hid _ := hK0
      clear hK0
      rw [if_pos (by rfl)]
      go_wp2_with (first | (go_at_call 77; go_must (refine (C49 x h.bel).mono ?_; rintro e x2 ⟨a9, l9, c9, rfl, H9, bb⟩)) | fail)
      exact hK.out _ _ ⟨_,_,_,_,_,_,_,_,true,_,_,_,_,_,_,_,_,_,_,_,undef,rfl,Or.inl ⟨rfl, ⟨{ h.grow bb with o8 := fun _ => ⟨a9, l9, c9, rfl, H9⟩, d8_6 := fun _ => e6, d8_7 := fun _ => e7, d9_8 := fun _ => rfl }, rfl⟩⟩⟩
     ·obtain ⟨h, rfl⟩ := h
      have e4 : y4 = true := by
       revert hc
       cases y4 <;> simp [Region.binds]
      have e8 : y8 = true := by
       revert hc
       cases y8 <;> simp [Region.binds]
      have r4 := h.o4 e4
      subst r4
      obtain ⟨a8, l8, c8, rfl, H8⟩ := h.o8 e8
      clear hc hi
      refine wpOp_step rfl (fun K hK0 => ?_)
      have hK : Hid _ := hK0
      clear hK0
      rw [if_pos (by rfl)]
      go_wp2_with (first | (go_at_call 50; go_must (refine (M50 x a8 l8 c8 h.bel H8).mono ?_; rintro e x2 ⟨a9, l9, c9, rfl, H9, bb⟩)) | fail)
      exact hK.out _ _ ⟨_,_,_,_,_,_,_,_,_,true,_,_,_,_,_,_,_,_,_,_,undef,rfl,Or.inl ⟨rfl, ⟨{ h.grow bb with o9 := fun _ => ⟨a9, l9, c9, rfl, H9⟩, d9_4 := fun _ => e4, d9_8 := fun _ => e8 }, rfl⟩⟩⟩
     ·obtain ⟨h, rfl⟩ := h
      have e0 : y0 = true := by
       revert hc
       cases y0 <;> simp [Region.binds]
      have e3 : y3 = true := by
       revert hc
       cases y3 <;> simp [Region.binds]
      have e9 : y9 = true := by
       revert hc
       cases y9 <;> simp [Region.binds]
      have e1 := h.d3_1 e3
      have e2 := h.d3_2 e3
      have e4 := h.d9_4 e9
      have e8 := h.d9_8 e9
      have e6 := h.d8_6 e8
      have e7 := h.d8_7 e8
      have e5 := h.d6_5 e6
      have r0 := h.o0 e0
      subst r0
      obtain ⟨a3, l3, c3, rfl, H3⟩ := h.o3 e3
      obtain ⟨a9, l9, c9, rfl, H9⟩ := h.o9 e9
      clear hc hi
      subst e0 e1 e2 e3 e4 e5 e6 e7 e8 e9
      have bl := h.bel
      clear h
      refine wpOp_step rfl (fun K hK0 => ?_)
      have hK : Hid _ := hK0
      clear hK0
      rw [if_pos (by rfl)]
      go_wp2_with fail
      exact hK.out _ _ ⟨true,true,true,true,true,true,true,true,true,true,_,_,_,_,_,_,_,_,_,_,_,rfl,Or.inr (Or.inl ⟨rfl, a3, l3, c3, a9, l9, c9, rfl, H3, H9, bl⟩)⟩
     ·simp [Region.binds] at hc
    ·rcases (show i = 0 ∨ i = 1 ∨ i = 2 ∨ i = 3 ∨ i = 4 ∨ i = 5 ∨ i = 6 ∨ i = 7 ∨ i = 8 ∨ i = 9 ∨ i = 10 ∨ i = 11 by omega) with rfl | rfl | rfl | rfl | rfl | rfl | rfl | rfl | rfl | rfl | rfl | rfl
     ·simp at hc
     ·simp at hc
     ·simp at hc
     ·simp at hc
     ·simp at hc
     ·simp at hc
     ·simp at hc
     ·simp at hc
     ·simp at hc
     ·simp at hc
     ·simp at hc
     ·clear hc hi
      obtain ⟨p1, m1, q1, p2, m2, q2, rfl, n1, n2, bl⟩ := h
      have kr := K24.grow bl
      have kr0 := kr.c0
      have kr1 := kr.c1
      have kr2 := kr.c2
      have kf0 := kr.f0
      have kf1 := kr.f1
      have kf2 := kr.f2
      clear kr
      refine wpOp_step rfl (fun K hK0 => ?_)
      have hK : Hid _ := hK0
      clear hK0
      rw [if_pos (by rfl)]
      go_wp2_with fail
      exact hK.out _ _ ⟨true,true,true,true,true,true,true,true,true,true,_,_,_,_,_,_,_,_,_,_,_,rfl,Or.inr (Or.inr (⟨rfl, p1, m1, q1, p2, m2, q2, x, rfl, n1, n2, bl, rfl⟩))⟩
    ·rcases (show i = 0 ∨ i = 1 ∨ i = 2 ∨ i = 3 ∨ i = 4 ∨ i = 5 ∨ i = 6 ∨ i = 7 ∨ i = 8 ∨ i = 9 ∨ i = 10 ∨ i = 11 by omega) with rfl | rfl | rfl | rfl | rfl | rfl | rfl | rfl | rfl | rfl | rfl | rfl <;> simp at hc
   ·rintro listed a x ⟨y0, y1, y2, y3, y4, y5, y6, y7, y8, y9, t41, t42, t43, t44, t45, t46, t47, t48, t49, t50, z51, rfl, h⟩ hn
    have al := all_listed (by decide +kernel) hn
    rcases h with ⟨rfl, h⟩ | ⟨rfl, h⟩ | ⟨rfl, h⟩
    ·have z := al 10 (by decide)
     simp at z
    ·have z := al 11 (by decide)
     simp at z
    ·obtain ⟨p1, m1, q1, p2, m2, q2, x0, rfl, n1, n2, bl, rfl⟩ := h
     refine hJ _ _ ?_
     go_meet
     case rel => exact ⟨p1, m1, q1, p2, m2, q2, x0, n1, n2, bl, rfl⟩
   ·exact ⟨false, false, false, false, false, false, false, false, false, false, undef, undef, undef, undef, undef, undef, undef, undef, undef, undef, undef, rfl, Or.inl ⟨rfl, ⟨{ bel := (Below.refl _ _).drew, o0 := (by intro q; cases q), o1 := (by intro q; cases q), o2 := (by intro q; cases q), o3 := (by intro q; cases q), o4 := (by intro q; cases q), o5 := (by intro q; cases q), o6 := (by intro q; cases q), o7 := (by intro q; cases q), o8 := (by intro q; cases q), o9 := (by intro q; cases q), d3_1 := (by intro q; cases q), d3_2 := (by intro q; cases q), d6_5 := (by intro q; cases q), d8_6 := (by intro q; cases q), d8_7 := (by intro q; cases q), d9_4 := (by intro q; cases q), d9_8 := (by intro q; cases q) }, rfl⟩⟩⟩
  case rest =>
   obtain ⟨p1, m1, q1, p2', m2, q2, x0, n1, n2, bl4, rfl⟩ := hcut
   have kr := K24.grow bl4
   have e7 := n1.putF (x := .bool g) (y := .slice p1 m1 q1) (z := .slice p2' m2 q2) kr
   have e8 := n2.putF (x := .bool g) (y := .slice p1 m1 q1) (z := .slice p2' m2 q2) kr
   obtain ⟨z0, z1, z2⟩ := kr.put (.bool g) (.slice p1 m1 q1) (.slice p2' m2 q2)
   have bE := bset3 (n := w.heap.size + 1 + 1) (x := .bool g) (y := .slice p1 m1 q1) (z := .slice p2' m2 q2) (bel' p4 bl4) (by omega)
   go_wp2_with fail
   generalize ((x0.setCell ⟨w.heap.size + 1 + 1, 0, none⟩ (.bool g)).setCell ⟨w.heap.size + 1 + 1, 1, none⟩ (.slice p1 m1 q1)).setCell ⟨w.heap.size + 1 + 1, 2, none⟩ (.slice p2' m2 q2) = WE at *
   exact bodyPost_ret (v := .agg #[.bool g, .slice p1 m1 q1, .slice p2' m2 q2]) (by simp [results, Tryz.results40, go_sem, z0, z1, z2]) rfl ⟨_, _, _, _, _, _, rfl, e7, e8, bE⟩
end Go.Proofs.YtfalncbcomlelaaGreatDoor.Mo
