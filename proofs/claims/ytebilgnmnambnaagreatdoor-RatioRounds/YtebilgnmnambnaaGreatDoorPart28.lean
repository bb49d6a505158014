import Derived.Test.YtebilgnmnambnaaGreatDoorPart27
import Derived.Deep.DeepCutAuto

namespace Go.Proofs.YtebilgnmnambnaaGreatDoor.Mo
open Go.RowKit Dc Tn
structure FT1 (W x : World) (V0 V1 V2 V3 V5 V6 V7 V8 : Value) (N4 N9 : Int) (y0 y1 y2 y3 y4 y5 y6 y7 y8 y9 y10 y11 : Bool) (t9 t10 t11 t12 t13 t14 t15 t16 t17 t18 t5 t6 : Value) : Prop where
 bel : Below W.heap.size W x
 o0 : y0 = true → t9 = V0
 o1 : y1 = true → t10 = V1
 o2 : y2 = true → t11 = V2
 o3 : y3 = true → t12 = V3
 o5 : y5 = true → t14 = V5
 o6 : y6 = true → t15 = V6
 o7 : y7 = true → t16 = V7
 o8 : y8 = true → t17 = V8
 o4 : y4 = true → NV N4 t13 x
 o9 : y9 = true → NV N9 t18 x
 o10 : y10 = true → ∃ X, t5 = .pointer (some ⟨X, 0, none⟩) ∧ W.heap.size ≤ X ∧ Blk x X #[.slice none 0 0] 65
 o11 : y11 = true → ∃ X, t6 = .pointer (some ⟨X, 0, none⟩) ∧ W.heap.size ≤ X ∧ Blk x X #[.slice none 0 0] 65
 ne10_11 : y10 = true → y11 = true → t5 ≠ t6
 d6_5 : y6 = true → y5 = true
 d8_7 : y8 = true → y7 = true
 d9_6 : y9 = true → y6 = true
 d9_8 : y9 = true → y8 = true
theorem FT1.grow {W x x' : World} {V0 V1 V2 V3 V5 V6 V7 V8 : Value} {N4 N9 : Int} {y0 y1 y2 y3 y4 y5 y6 y7 y8 y9 y10 y11 : Bool} {t9 t10 t11 t12 t13 t14 t15 t16 t17 t18 t5 t6 : Value} (h : FT1 W x V0 V1 V2 V3 V5 V6 V7 V8 N4 N9 y0 y1 y2 y3 y4 y5 y6 y7 y8 y9 y10 y11 t9 t10 t11 t12 t13 t14 t15 t16 t17 t18 t5 t6) (b : Below x.heap.size x x') : FT1 W x' V0 V1 V2 V3 V5 V6 V7 V8 N4 N9 y0 y1 y2 y3 y4 y5 y6 y7 y8 y9 y10 y11 t9 t10 t11 t12 t13 t14 t15 t16 t17 t18 t5 t6 where
 bel := bel' h.bel b
 o0 := h.o0
 o1 := h.o1
 o2 := h.o2
 o3 := h.o3
 o5 := h.o5
 o6 := h.o6
 o7 := h.o7
 o8 := h.o8
 o4 := fun u => (h.o4 u).grow b
 o9 := fun u => (h.o9 u).grow b
 o10 := fun u => by obtain ⟨k, e, l, K⟩ := h.o10 u; exact ⟨k, e, l, K.below b K.lt⟩
 o11 := fun u => by obtain ⟨k, e, l, K⟩ := h.o11 u; exact ⟨k, e, l, K.below b K.lt⟩
 ne10_11 := h.ne10_11
 d6_5 := h.d6_5
 d8_7 := h.d8_7
 d9_6 := h.d9_6
 d9_8 := h.d9_8
structure FT2 (W x : World) (V0 V1 V2 V4 V5 V6 : Value) (N3 N7 N8 : Int) (y0 y1 y2 y3 y4 y5 y6 y7 y8 y9 : Bool) (t19 t20 t21 t22 t23 t24 t25 t26 t27 t7 : Value) : Prop where
 bel : Below W.heap.size W x
 o0 : y0 = true → t19 = V0
 o1 : y1 = true → t20 = V1
 o2 : y2 = true → t21 = V2
 o4 : y4 = true → t23 = V4
 o5 : y5 = true → t24 = V5
 o6 : y6 = true → t25 = V6
 o3 : y3 = true → NV N3 t22 x
 o7 : y7 = true → NV N7 t26 x
 o8 : y8 = true → NV N8 t27 x
 o9 : y9 = true → ∃ X, t7 = .pointer (some ⟨X, 0, none⟩) ∧ W.heap.size ≤ X ∧ Blk x X #[.slice none 0 0] 65
theorem FT2.grow {W x x' : World} {V0 V1 V2 V4 V5 V6 : Value} {N3 N7 N8 : Int} {y0 y1 y2 y3 y4 y5 y6 y7 y8 y9 : Bool} {t19 t20 t21 t22 t23 t24 t25 t26 t27 t7 : Value} (h : FT2 W x V0 V1 V2 V4 V5 V6 N3 N7 N8 y0 y1 y2 y3 y4 y5 y6 y7 y8 y9 t19 t20 t21 t22 t23 t24 t25 t26 t27 t7) (b : Below x.heap.size x x') : FT2 W x' V0 V1 V2 V4 V5 V6 N3 N7 N8 y0 y1 y2 y3 y4 y5 y6 y7 y8 y9 t19 t20 t21 t22 t23 t24 t25 t26 t27 t7 where
 bel := bel' h.bel b
 o0 := h.o0
 o1 := h.o1
 o2 := h.o2
 o4 := h.o4
 o5 := h.o5
 o6 := h.o6
 o3 := fun u => (h.o3 u).grow b
 o7 := fun u => (h.o7 u).grow b
 o8 := fun u => (h.o8 u).grow b
 o9 := fun u => by obtain ⟨k, e, l, K⟩ := h.o9 u; exact ⟨k, e, l, K.below b K.lt⟩
structure FT3 (W x : World) (V0 V1 V2 V4 V5 V6 : Value) (N3 N7 N8 : Int) (y0 y1 y2 y3 y4 y5 y6 y7 y8 y9 : Bool) (t28 t29 t30 t31 t32 t33 t34 t35 t36 t8 : Value) : Prop where
 bel : Below W.heap.size W x
 o0 : y0 = true → t28 = V0
 o1 : y1 = true → t29 = V1
 o2 : y2 = true → t30 = V2
 o4 : y4 = true → t32 = V4
 o5 : y5 = true → t33 = V5
 o6 : y6 = true → t34 = V6
 o3 : y3 = true → NV N3 t31 x
 o7 : y7 = true → NV N7 t35 x
 o8 : y8 = true → NV N8 t36 x
 o9 : y9 = true → ∃ X, t8 = .pointer (some ⟨X, 0, none⟩) ∧ W.heap.size ≤ X ∧ Blk x X #[.slice none 0 0] 65
theorem FT3.grow {W x x' : World} {V0 V1 V2 V4 V5 V6 : Value} {N3 N7 N8 : Int} {y0 y1 y2 y3 y4 y5 y6 y7 y8 y9 : Bool} {t28 t29 t30 t31 t32 t33 t34 t35 t36 t8 : Value} (h : FT3 W x V0 V1 V2 V4 V5 V6 N3 N7 N8 y0 y1 y2 y3 y4 y5 y6 y7 y8 y9 t28 t29 t30 t31 t32 t33 t34 t35 t36 t8) (b : Below x.heap.size x x') : FT3 W x' V0 V1 V2 V4 V5 V6 N3 N7 N8 y0 y1 y2 y3 y4 y5 y6 y7 y8 y9 t28 t29 t30 t31 t32 t33 t34 t35 t36 t8 where
 bel := bel' h.bel b
 o0 := h.o0
 o1 := h.o1
 o2 := h.o2
 o4 := h.o4
 o5 := h.o5
 o6 := h.o6
 o3 := fun u => (h.o3 u).grow b
 o7 := fun u => (h.o7 u).grow b
 o8 := fun u => (h.o8 u).grow b
 o9 := fun u => by obtain ⟨k, e, l, K⟩ := h.o9 u; exact ⟨k, e, l, K.below b K.lt⟩
structure FT4 (W x : World) (V0 V1 V2 V3 V4 V5 V6 V7 V8 V9 V10 V11 V12 : Value) (y0 y1 y2 y3 y4 y5 y6 y7 y8 y9 y10 y11 y12 : Bool) (t37 t38 t39 t40 t41 t42 t43 t44 t45 t46 t47 t48 t49 : Value) : Prop where
 bel : Below W.heap.size W x
 o0 : y0 = true → t37 = V0
 o1 : y1 = true → t38 = V1
 o2 : y2 = true → t39 = V2
 o3 : y3 = true → t40 = V3
 o4 : y4 = true → t41 = V4
 o5 : y5 = true → t42 = V5
 o6 : y6 = true → t43 = V6
 o7 : y7 = true → t44 = V7
 o8 : y8 = true → t45 = V8
 o9 : y9 = true → t46 = V9
 o10 : y10 = true → t47 = V10
 o11 : y11 = true → t48 = V11
 o12 : y12 = true → t49 = V12
theorem FT4.grow {W x x' : World} {V0 V1 V2 V3 V4 V5 V6 V7 V8 V9 V10 V11 V12 : Value} {y0 y1 y2 y3 y4 y5 y6 y7 y8 y9 y10 y11 y12 : Bool} {t37 t38 t39 t40 t41 t42 t43 t44 t45 t46 t47 t48 t49 : Value} (h : FT4 W x V0 V1 V2 V3 V4 V5 V6 V7 V8 V9 V10 V11 V12 y0 y1 y2 y3 y4 y5 y6 y7 y8 y9 y10 y11 y12 t37 t38 t39 t40 t41 t42 t43 t44 t45 t46 t47 t48 t49) (b : Below x.heap.size x x') : FT4 W x' V0 V1 V2 V3 V4 V5 V6 V7 V8 V9 V10 V11 V12 y0 y1 y2 y3 y4 y5 y6 y7 y8 y9 y10 y11 y12 t37 t38 t39 t40 t41 t42 t43 t44 t45 t46 t47 t48 t49 where
 bel := bel' h.bel b
 o0 := h.o0
 o1 := h.o1
 o2 := h.o2
 o3 := h.o3
 o4 := h.o4
 o5 := h.o5
 o6 := h.o6
 o7 := h.o7
 o8 := h.o8
 o9 := h.o9
 o10 := h.o10
 o11 := h.o11
 o12 := h.o12
structure FT5 (W x : World) (V0 V1 V2 V3 V4 V5 V9 V10 V11 V12 : Value) (y0 y1 y2 y3 y4 y5 y6 y7 y8 y9 y10 y11 y12 : Bool) (t37 t38 t39 t40 t41 t42 t43 t44 t45 t46 t47 t48 t49 : Value) : Prop where
 bel : Below W.heap.size W x
 o0 : y0 = true → t37 = V0
 o1 : y1 = true → t38 = V1
 o2 : y2 = true → t39 = V2
 o3 : y3 = true → t40 = V3
 o4 : y4 = true → t41 = V4
 o5 : y5 = true → t42 = V5
 o9 : y9 = true → t46 = V9
 o10 : y10 = true → t47 = V10
 o11 : y11 = true → t48 = V11
 o12 : y12 = true → t49 = V12
 o6 : y6 = true → t43 = undef
 o7 : y7 = true → t44 = undef
 o8 : y8 = true → t45 = undef
end Go.Proofs.YtebilgnmnambnaaGreatDoor.Mo

namespace Go.Proofs.YtebilgnmnambnaaGreatDoor.Mo
open Go.RowKit Dc Tn
set_option maxHeartbeats 3200000 in
set_option maxRecDepth 100000 in
theorem FTimes_raw (g1 g2 : Bool) (P1 P2 P3 P4 : Option Addr) (M1 C1 M2 C2 M3 C3 M4 C4 : Nat) (A B C D G1 G2 P Q : Int) (w : World) (k1 : Nn w P1 M1 C1 A) (k2 : Nn w P2 M2 C2 B) (k3 : Nn w P3 M3 C3 C) (k4 : Nn w P4 M4 C4 D) (m : Nat) (hA : A < pw m) (hB : B < pw m) (hC : C < pw m) (hD : D < pw m) (hmx : m ≤ 1000000) (hG1 : (Int.gcd A D : Int) = G1) (hG2 : (Int.gcd C B : Int) = G2) (p1 : 0 < G1) (p2 : 0 < G2)
  (hmul2 : ∀ x a l c a' l' c', Nn x a l c (A / G1) → Nn x a' l' c' (C / G2) → Calls Tryz.prog 64 #[.agg #[.slice a l c], .agg #[.slice a' l' c']] x fun e w' => ∃ a l c, e = .returned (.agg #[.slice a l c]) ∧ Nn w' a l c P ∧ Below x.heap.size x w')
  (hmul3 : ∀ x a l c a' l' c', Nn x a l c (B / G2) → Nn x a' l' c' (D / G1) → Calls Tryz.prog 64 #[.agg #[.slice a l c], .agg #[.slice a' l' c']] x fun e w' => ∃ a l c, e = .returned (.agg #[.slice a l c]) ∧ Nn w' a l c Q ∧ Below x.heap.size x w') (z gg : Bool) (hz : decide (P = 0) = z) (hg : (g1 != g2) = gg) :
  Calls Tryz.prog 42 #[.agg #[.bool g1, .slice P1 M1 C1, .slice P2 M2 C2], .agg #[.bool g2, .slice P3 M3 C3, .slice P4 M4 C4]] w fun e w' => ∃ a l c a' l' c', e = .returned (.agg #[.bool (gg && !z), .slice a l c, .slice a' l' c']) ∧ Nn w' a l c P ∧ Nn w' a' l' c' Q ∧ Below w.heap.size w w' := by
 have K0 := ((Rb.new w (.bool g1) (.slice P1 M1 C1) (.slice P2 M2 C2) 67).alloc (.cells #[.bool g2, .slice P3 M3 C3, .slice P4 M4 C4] 67)).alloc (.cells #[.bool false, .slice none 0 0, .slice none 0 0] 67)
 have K1 := (Rb.new (w.alloc (.cells #[.bool g1, .slice P1 M1 C1, .slice P2 M2 C2] 67)) (.bool g2) (.slice P3 M3 C3) (.slice P4 M4 C4) 67).alloc (.cells #[.bool false, .slice none 0 0, .slice none 0 0] 67)
 have K2 := Rb.new ((w.alloc (.cells #[.bool g1, .slice P1 M1 C1, .slice P2 M2 C2] 67)).alloc (.cells #[.bool g2, .slice P3 M3 C3, .slice P4 M4 C4] 67)) (.bool false) (.slice none 0 0) (.slice none 0 0) 67
 have pr : Below w.heap.size w (((w.alloc (.cells #[.bool g1, .slice P1 M1 C1, .slice P2 M2 C2] 67)).alloc (.cells #[.bool g2, .slice P3 M3 C3, .slice P4 M4 C4] 67)).alloc (.cells #[.bool false, .slice none 0 0, .slice none 0 0] 67)) := (((Below.refl _ _).alloc (Nat.le_refl _) _).alloc (by simp) _).alloc (by simp; omega) _
 simp only [World.size_alloc] at K1 K2
 have h1 := k1.grow pr
 have h2 := k2.grow pr
 have h3 := k3.grow pr
 have h4 := k4.grow pr
 go_enter Tryz.func42, Tryz.ntmps42
 go_wp2_with fail
 generalize ((w.alloc (.cells #[.bool g1, .slice P1 M1 C1, .slice P2 M2 C2] 67)).alloc (.cells #[.bool g2, .slice P3 M3 C3, .slice P4 M4 C4] 67)).alloc (.cells #[.bool false, .slice none 0 0, .slice none 0 0] 67) = W at *
 have CG1 : ∀ x, Below W.heap.size W x → Calls Tryz.prog 103 #[.agg #[.slice P1 M1 C1], .agg #[.slice P4 M4 C4]] x fun e w' => ∃ a l c, e = .returned (.agg #[.slice a l c]) ∧ Nn w' a l c G1 ∧ Below x.heap.size x w' := fun x b => by
  have := GCD_n (h1.grow b) (h4.grow b) hA hD hmx
  rw [hG1] at this
  exact this
 have CG2 : ∀ x, Below W.heap.size W x → Calls Tryz.prog 103 #[.agg #[.slice P3 M3 C3], .agg #[.slice P2 M2 C2]] x fun e w' => ∃ a l c, e = .returned (.agg #[.slice a l c]) ∧ Nn w' a l c G2 ∧ Below x.heap.size x w' := fun x b => by
  have := GCD_n (h3.grow b) (h2.grow b) hC hB hmx
  rw [hG2] at this
  exact this
 go_cut [5, 6] from 9 to 18 (fun x y wc => ∃ X Y P5 M5 C5 P6 M6 C6, x = .pointer (some ⟨X, 0, none⟩) ∧ y = .pointer (some ⟨Y, 0, none⟩) ∧ W.heap.size ≤ X ∧ W.heap.size ≤ Y ∧ Below W.heap.size W wc ∧ Nn wc P5 M5 C5 G1 ∧ Nn wc P6 M6 C6 G2 ∧ Bx wc X (.slice P5 M5 C5) ∧ Bx wc Y (.slice P6 M6 C6))
 case first =>
  rename_i hm hJ
  refine wp_region_held (S := fun _ => True) (by kernel_rfl) (any_inv (fun listed a x => ∃ (y0 y1 y2 y3 y4 y5 y6 y7 y8 y9 y10 y11 : Bool) (t9 t10 t11 t12 t13 t14 t15 t16 t17 t18 t5 t6 : Value), a = ⟨#[.agg #[.bool g1, .slice P1 M1 C1, .slice P2 M2 C2], .agg #[.bool g2, .slice P3 M3 C3, .slice P4 M4 C4], .pointer (some ⟨w.heap.size, 0, none⟩), .pointer (some ⟨w.heap.size + 1, 0, none⟩), .pointer (some ⟨w.heap.size + 1 + 1, 0, none⟩), t5, t6, undef, undef, t9, t10, t11, t12, t13, t14, t15, t16, t17, t18, undef, undef, undef, undef, undef, undef, undef, undef, undef, undef, undef, undef, undef, undef, undef, undef, undef, undef, undef, undef, undef, undef, undef, undef, undef, undef, undef, undef, undef, undef, undef], []⟩ ∧ ((listed = #[y0, y1, y2, y3, y4, y5, y6, y7, y8, y9, y10, y11, false, false] ∧ FT1 W x (.pointer (some ⟨w.heap.size, 1, none⟩)) (.agg #[.slice P1 M1 C1]) (.pointer (some ⟨w.heap.size + 1, 2, none⟩)) (.agg #[.slice P4 M4 C4]) (.pointer (some ⟨w.heap.size + 1, 1, none⟩)) (.agg #[.slice P3 M3 C3]) (.pointer (some ⟨w.heap.size, 2, none⟩)) (.agg #[.slice P2 M2 C2]) (G1) (G2) y0 y1 y2 y3 y4 y5 y6 y7 y8 y9 y10 y11 t9 t10 t11 t12 t13 t14 t15 t16 t17 t18 t5 t6) ∨ (listed = #[true, true, true, true, true, true, true, true, true, true, true, true, true, false] ∧ ∃ X Y P5 M5 C5 P6 M6 C6, t5 = .pointer (some ⟨X, 0, none⟩) ∧ t6 = .pointer (some ⟨Y, 0, none⟩) ∧ t13 = .agg #[.slice P5 M5 C5] ∧ t18 = .agg #[.slice P6 M6 C6] ∧ X ≠ Y ∧ W.heap.size ≤ X ∧ W.heap.size ≤ Y ∧ Below W.heap.size W x ∧ Nn x P5 M5 C5 G1 ∧ Nn x P6 M6 C6 G2 ∧ Bx x X (.slice P5 M5 C5) ∧ Bx x Y (.slice none 0 0)) ∨ (listed = #[true, true, true, true, true, true, true, true, true, true, true, true, true, true] ∧ ∃ X Y P5 M5 C5 P6 M6 C6, t5 = .pointer (some ⟨X, 0, none⟩) ∧ t6 = .pointer (some ⟨Y, 0, none⟩) ∧ t13 = .agg #[.slice P5 M5 C5] ∧ t18 = .agg #[.slice P6 M6 C6] ∧ X ≠ Y ∧ W.heap.size ≤ X ∧ W.heap.size ≤ Y ∧ Below W.heap.size W x ∧ Nn x P5 M5 C5 G1 ∧ Nn x P6 M6 C6 G2 ∧ Bx x X (.slice P5 M5 C5) ∧ Bx x Y (.slice P6 M6 C6)))) ?_ ?_ _ _ _ _ (by decide) ?_)
  ·rintro listed a x i ⟨y0, y1, y2, y3, y4, y5, y6, y7, y8, y9, y10, y11, t9, t10, t11, t12, t13, t14, t15, t16, t17, t18, t5, t6, rfl, h⟩ hi
   have hr : i < 14 := List.mem_range.1 (List.mem_filter.1 hi).1
   have hc := (List.mem_filter.1 hi).2
   rcases h with ⟨rfl, h⟩ | ⟨rfl, h⟩ | ⟨rfl, h⟩
   ·rcases (show i = 0 ∨ i = 1 ∨ i = 2 ∨ i = 3 ∨ i = 4 ∨ i = 5 ∨ i = 6 ∨ i = 7 ∨ i = 8 ∨ i = 9 ∨ i = 10 ∨ i = 11 ∨ i = 12 ∨ i = 13 by omega) with rfl | rfl | rfl | rfl | rfl | rfl | rfl | rfl | rfl | rfl | rfl | rfl | rfl | rfl
    ·clear hc hi
     refine wpOp_go rfl rfl (fun K hK => ?_)
     go_wp2_with fail
     exact hK.out _ _ ⟨true,_,_,_,_,_,_,_,_,_,_,_,.pointer (some ⟨w.heap.size, 1, none⟩),_,_,_,_,_,_,_,_,_,_,_,rfl,Or.inl ⟨rfl, { h with o0 := fun _ => rfl }⟩⟩
    ·have e0 : y0 = true := by revert hc; cases y0 <;> simp [Region.binds]
     have r0 := h.o0 e0; subst r0
     clear hc hi
     have kd := (K0.grow h.bel).c1
     refine wpOp_go rfl rfl (fun K hK => ?_)
     go_wp2_with fail
     exact hK.out _ _ ⟨_,true,_,_,_,_,_,_,_,_,_,_,_,.agg #[.slice P1 M1 C1],_,_,_,_,_,_,_,_,_,_,rfl,Or.inl ⟨rfl, { h with o1 := fun _ => rfl }⟩⟩
    ·clear hc hi
     refine wpOp_go rfl rfl (fun K hK => ?_)
     go_wp2_with fail
     exact hK.out _ _ ⟨_,_,true,_,_,_,_,_,_,_,_,_,_,_,.pointer (some ⟨w.heap.size + 1, 2, none⟩),_,_,_,_,_,_,_,_,_,rfl,Or.inl ⟨rfl, { h with o2 := fun _ => rfl }⟩⟩
    ·have e2 : y2 = true := by revert hc; cases y2 <;> simp [Region.binds]
     have r2 := h.o2 e2; subst r2
     clear hc hi
     have kd := (K1.grow h.bel).c2
     refine wpOp_go rfl rfl (fun K hK => ?_)
     go_wp2_with fail
     exact hK.out _ _ ⟨_,_,_,true,_,_,_,_,_,_,_,_,_,_,_,.agg #[.slice P4 M4 C4],_,_,_,_,_,_,_,_,rfl,Or.inl ⟨rfl, { h with o3 := fun _ => rfl }⟩⟩
    ·have e1 : y1 = true := by revert hc; cases y1 <;> simp [Region.binds]
     have e3 : y3 = true := by revert hc; cases y3 <;> simp [Region.binds]
     have r1 := h.o1 e1; subst r1
     have r3 := h.o3 e3; subst r3
     clear hc hi
     refine wpOp_go rfl rfl (fun K hK => ?_)
     go_wp2_with (first | (go_at_call 103; go_must (refine (CG1 x h.bel).mono ?_; rintro e x2 ⟨a9, l9, c9, rfl, H9, bb⟩)) | fail)
     exact hK.out _ _ ⟨_,_,_,_,true,_,_,_,_,_,_,_,_,_,_,_,_,_,_,_,_,_,_,_,rfl,Or.inl ⟨rfl, { h.grow bb with o4 := fun _ => ⟨a9, l9, c9, rfl, H9⟩ }⟩⟩
    ·clear hc hi
     refine wpOp_go rfl rfl (fun K hK => ?_)
     go_wp2_with fail
     exact hK.out _ _ ⟨_,_,_,_,_,true,_,_,_,_,_,_,_,_,_,_,_,.pointer (some ⟨w.heap.size + 1, 1, none⟩),_,_,_,_,_,_,rfl,Or.inl ⟨rfl, { h with o5 := fun _ => rfl, d6_5 := fun _ => rfl }⟩⟩
    ·have e5 : y5 = true := by revert hc; cases y5 <;> simp [Region.binds]
     have r5 := h.o5 e5; subst r5
     clear hc hi
     have kd := (K1.grow h.bel).c1
     refine wpOp_go rfl rfl (fun K hK => ?_)
     go_wp2_with fail
     exact hK.out _ _ ⟨_,_,_,_,_,_,true,_,_,_,_,_,_,_,_,_,_,_,.agg #[.slice P3 M3 C3],_,_,_,_,_,rfl,Or.inl ⟨rfl, { h with o6 := fun _ => rfl, d6_5 := fun _ => e5, d9_6 := fun _ => rfl }⟩⟩
    ·clear hc hi
     refine wpOp_go rfl rfl (fun K hK => ?_)
     go_wp2_with fail
     exact hK.out _ _ ⟨_,_,_,_,_,_,_,true,_,_,_,_,_,_,_,_,_,_,_,.pointer (some ⟨w.heap.size, 2, none⟩),_,_,_,_,rfl,Or.inl ⟨rfl, { h with o7 := fun _ => rfl, d8_7 := fun _ => rfl }⟩⟩
    ·have e7 : y7 = true := by revert hc; cases y7 <;> simp [Region.binds]
     have r7 := h.o7 e7; subst r7
     clear hc hi
     have kd := (K0.grow h.bel).c2
     refine wpOp_go rfl rfl (fun K hK => ?_)
     go_wp2_with fail
     exact hK.out _ _ ⟨_,_,_,_,_,_,_,_,true,_,_,_,_,_,_,_,_,_,_,_,.agg #[.slice P2 M2 C2],_,_,_,rfl,Or.inl ⟨rfl, { h with o8 := fun _ => rfl, d8_7 := fun _ => e7, d9_8 := fun _ => rfl }⟩⟩
    ·have e6 : y6 = true := by revert hc; cases y6 <;> simp [Region.binds]
     have e8 : y8 = true := by revert hc; cases y8 <;> simp [Region.binds]
     have r6 := h.o6 e6; subst r6
     have r8 := h.o8 e8; subst r8
     clear hc hi
     refine wpOp_go rfl rfl (fun K hK => ?_)
     go_wp2_with (first | (go_at_call 103; go_must (refine (CG2 x h.bel).mono ?_; rintro e x2 ⟨a9, l9, c9, rfl, H9, bb⟩)) | fail)
     exact hK.out _ _ ⟨_,_,_,_,_,_,_,_,_,true,_,_,_,_,_,_,_,_,_,_,_,_,_,_,rfl,Or.inl ⟨rfl, { h.grow bb with o9 := fun _ => ⟨a9, l9, c9, rfl, H9⟩, d9_6 := fun _ => e6, d9_8 := fun _ => e8 }⟩⟩
    ·clear hc hi
     refine wpOp_go rfl rfl (fun K hK => ?_)
     go_wp2_with fail
     exact hK.out _ _ ⟨_,_,_,_,_,_,_,_,_,_,true,_,_,_,_,_,_,_,_,_,_,_,_,_,rfl,Or.inl ⟨rfl, { h.grow ((Below.refl _ _).alloc (Nat.le_refl _) _) with o10 := fun _ => ⟨_, rfl, h.bel.size, Blk.new _ _ _⟩, ne10_11 := fun _ q => by obtain ⟨Y, e, _, K⟩ := h.o11 q; rw [e]; intro c; cases c; exact absurd K.lt (Nat.lt_irrefl _) }⟩⟩
    ·clear hc hi
     refine wpOp_go rfl rfl (fun K hK => ?_)
     go_wp2_with fail
     exact hK.out _ _ ⟨_,_,_,_,_,_,_,_,_,_,_,true,_,_,_,_,_,_,_,_,_,_,_,_,rfl,Or.inl ⟨rfl, { h.grow ((Below.refl _ _).alloc (Nat.le_refl _) _) with o11 := fun _ => ⟨_, rfl, h.bel.size, Blk.new _ _ _⟩, ne10_11 := fun q _ => by obtain ⟨Y, e, _, K⟩ := h.o10 q; rw [e]; intro c; cases c; exact absurd K.lt (Nat.lt_irrefl _) }⟩⟩
    ·have e0 : y0 = true := by revert hc; cases y0 <;> simp [Region.binds]
     have e1 : y1 = true := by revert hc; cases y1 <;> simp [Region.binds]
     have e2 : y2 = true := by revert hc; cases y2 <;> simp [Region.binds]
     have e3 : y3 = true := by revert hc; cases y3 <;> simp [Region.binds]
     have e4 : y4 = true := by revert hc; cases y4 <;> simp [Region.binds]
     have e9 : y9 = true := by revert hc; cases y9 <;> simp [Region.binds]
     have e10 : y10 = true := by revert hc; cases y10 <;> simp [Region.binds]
     have e11 : y11 = true := by revert hc; cases y11 <;> simp [Region.binds]
     have e6 := h.d9_6 e9
     have e8 := h.d9_8 e9
     have e5 := h.d6_5 e6
     have e7 := h.d8_7 e8
     obtain ⟨a4, l4, c4, rfl, H4⟩ := h.o4 e4
     obtain ⟨a9, l9, c9, rfl, H9⟩ := h.o9 e9
     obtain ⟨X10, rfl, lX10, K10⟩ := h.o10 e10
     obtain ⟨X11, rfl, lX11, K11⟩ := h.o11 e11
     clear hc hi
     subst e0 e1 e2 e3 e4 e5 e6 e7 e8 e9 e10 e11
     have ne : X10 ≠ X11 := fun c => h.ne10_11 rfl rfl (by rw [c])
     have bl := h.bel
     have xx := K10.at 0
     have xf := K10.free 0
     have KX := Bx.of K10
     have KY := Bx.of K11
     clear h
     refine wpOp_go rfl rfl (fun K hK => ?_)
     go_wp2_with fail
     exact hK.out _ _ ⟨true,true,true,true,true,true,true,true,true,true,true,true,_,_,_,_,_,_,_,_,_,_,_,_,rfl,Or.inr (Or.inl ⟨rfl, X10, X11, a4, l4, c4, a9, l9, c9, rfl, rfl, rfl, rfl, ne, lX10, lX11, below_put bl lX10 _, H4.box KX, H9.box KX, KX.set _, KY.wr ((Wr.refl X10 0 1 x).setCell 0 (by omega) _) ne.symm⟩)⟩
    ·simp [Region.binds] at hc
   ·rcases (show i = 0 ∨ i = 1 ∨ i = 2 ∨ i = 3 ∨ i = 4 ∨ i = 5 ∨ i = 6 ∨ i = 7 ∨ i = 8 ∨ i = 9 ∨ i = 10 ∨ i = 11 ∨ i = 12 ∨ i = 13 by omega) with rfl | rfl | rfl | rfl | rfl | rfl | rfl | rfl | rfl | rfl | rfl | rfl | rfl | rfl
    ·simp at hc
    ·simp at hc
    ·simp at hc
    ·simp at hc
    ·simp at hc
    ·simp at hc
    ·simp at hc
    ·simp at hc
    ·simp at hc
    ·simp at hc
    ·simp at hc
    ·simp at hc
    ·simp at hc
    ·clear hc hi
     obtain ⟨X, Y, P5, M5, C5, P6, M6, C6, rfl, rfl, rfl, rfl, ne, lX, lY, bl, H5, H6, KX, KY⟩ := h
     have yy := KY.1
     have yf := KY.2
     refine wpOp_go rfl rfl (fun K hK => ?_)
     go_wp2_with fail
     exact hK.out _ _ ⟨true,true,true,true,true,true,true,true,true,true,true,true,_,_,_,_,_,_,_,_,_,_,_,_,rfl,Or.inr (Or.inr (⟨rfl, X, Y, P5, M5, C5, P6, M6, C6, rfl, rfl, rfl, rfl, ne, lX, lY, below_put bl lY _, H5.box KY, H6.box KY, KX.wr ((Wr.refl Y 0 1 x).setCell 0 (by omega) _) ne, KY.set _⟩))⟩
   ·rcases (show i = 0 ∨ i = 1 ∨ i = 2 ∨ i = 3 ∨ i = 4 ∨ i = 5 ∨ i = 6 ∨ i = 7 ∨ i = 8 ∨ i = 9 ∨ i = 10 ∨ i = 11 ∨ i = 12 ∨ i = 13 by omega) with rfl | rfl | rfl | rfl | rfl | rfl | rfl | rfl | rfl | rfl | rfl | rfl | rfl | rfl <;> simp at hc
  ·rintro listed a x ⟨y0, y1, y2, y3, y4, y5, y6, y7, y8, y9, y10, y11, t9, t10, t11, t12, t13, t14, t15, t16, t17, t18, t5, t6, rfl, h⟩ hn
   have al := all_listed (by decide +kernel) hn
   rcases h with ⟨rfl, h⟩ | ⟨rfl, h⟩ | ⟨rfl, h⟩
   ·have z := al 12 (by decide)
    simp at z
   ·have z := al 13 (by decide)
    simp at z
   ·obtain ⟨X, Y, P5, M5, C5, P6, M6, C6, rfl, rfl, rfl, rfl, ne, lX, lY, bl, H5, H6, KX, KY⟩ := h
    refine hJ _ _ ?_
    go_meet
    case rel => exact ⟨X, Y, P5, M5, C5, P6, M6, C6, rfl, rfl, lX, lY, bl, H5, H6, KX, KY⟩
  ·exact ⟨false, false, false, false, false, false, false, false, false, false, false, false, undef, undef, undef, undef, undef, undef, undef, undef, undef, undef, undef, undef, rfl, Or.inl ⟨rfl, { bel := (Below.refl _ _).drew, o0 := (by intro q; cases q), o1 := (by intro q; cases q), o2 := (by intro q; cases q), o3 := (by intro q; cases q), o4 := (by intro q; cases q), o5 := (by intro q; cases q), o6 := (by intro q; cases q), o7 := (by intro q; cases q), o8 := (by intro q; cases q), o9 := (by intro q; cases q), o10 := (by intro q; cases q), o11 := (by intro q; cases q), ne10_11 := (by intro q; cases q), d6_5 := (by intro q; cases q), d8_7 := (by intro q; cases q), d9_6 := (by intro q; cases q), d9_8 := (by intro q; cases q) }⟩⟩
 case rest =>
  obtain ⟨X, Y, P5, M5, C5, P6, M6, C6, rfl, rfl, lX, lY, bl1, H5, H6, KX, KY⟩ := hcut
  replace K0 := K0.grow bl1
  replace K1 := K1.grow bl1
  replace K2 := K2.grow bl1
  replace h1 := h1.grow bl1
  replace h2 := h2.grow bl1
  replace h3 := h3.grow bl1
  replace h4 := h4.grow bl1
  have pc := bel' pr bl1
  clear pr bl1 CG1 CG2
  go_wp2_with fail
  go_cut [7] from 19 to 27 (fun x wd => ∃ Z P7 M7 C7, x = .pointer (some ⟨Z, 0, none⟩) ∧ wc.heap.size ≤ Z ∧ Below wc.heap.size wc wd ∧ Nn wd P7 M7 C7 P ∧ Bx wd Z (.slice P7 M7 C7))
  case first =>
   rename_i hm hJ
   refine wp_region_held (S := fun _ => True) (by kernel_rfl) (any_inv (fun listed a x => ∃ (y0 y1 y2 y3 y4 y5 y6 y7 y8 y9 : Bool) (t19 t20 t21 t22 t23 t24 t25 t26 t27 t7 : Value), a = ⟨#[.agg #[.bool g1, .slice P1 M1 C1, .slice P2 M2 C2], .agg #[.bool g2, .slice P3 M3 C3, .slice P4 M4 C4], .pointer (some ⟨w.heap.size, 0, none⟩), .pointer (some ⟨w.heap.size + 1, 0, none⟩), .pointer (some ⟨w.heap.size + 1 + 1, 0, none⟩), .pointer (some ⟨X, 0, none⟩), .pointer (some ⟨Y, 0, none⟩), t7, undef, u9, u10, u11, u12, u13, u14, u15, u16, u17, u18, t19, t20, t21, t22, t23, t24, t25, t26, t27, undef, undef, undef, undef, undef, undef, undef, undef, undef, undef, undef, undef, undef, undef, undef, undef, undef, undef, undef, undef, undef, undef], []⟩ ∧ ((listed = #[y0, y1, y2, y3, y4, y5, y6, y7, y8, y9, false] ∧ FT2 wc x (.pointer (some ⟨w.heap.size, 1, none⟩)) (.agg #[.slice P1 M1 C1]) (.agg #[.slice P5 M5 C5]) (.pointer (some ⟨w.heap.size + 1, 1, none⟩)) (.agg #[.slice P3 M3 C3]) (.agg #[.slice P6 M6 C6]) (A / G1) (C / G2) (P) y0 y1 y2 y3 y4 y5 y6 y7 y8 y9 t19 t20 t21 t22 t23 t24 t25 t26 t27 t7) ∨ (listed = #[true, true, true, true, true, true, true, true, true, true, true] ∧ ∃ Z P7 M7 C7, t7 = .pointer (some ⟨Z, 0, none⟩) ∧ t27 = .agg #[.slice P7 M7 C7] ∧ wc.heap.size ≤ Z ∧ Below wc.heap.size wc x ∧ Nn x P7 M7 C7 P ∧ Bx x Z (.slice P7 M7 C7)))) ?_ ?_ _ _ _ _ (by decide) ?_)
   ·rintro listed a x i ⟨y0, y1, y2, y3, y4, y5, y6, y7, y8, y9, t19, t20, t21, t22, t23, t24, t25, t26, t27, t7, rfl, h⟩ hi
    have hr : i < 11 := List.mem_range.1 (List.mem_filter.1 hi).1
    have hc := (List.mem_filter.1 hi).2
    rcases h with ⟨rfl, h⟩ | ⟨rfl, h⟩
    ·rcases (show i = 0 ∨ i = 1 ∨ i = 2 ∨ i = 3 ∨ i = 4 ∨ i = 5 ∨ i = 6 ∨ i = 7 ∨ i = 8 ∨ i = 9 ∨ i = 10 by omega) with rfl | rfl | rfl | rfl | rfl | rfl | rfl | rfl | rfl | rfl | rfl
     ·clear hc hi
      refine wpOp_go rfl rfl (fun K hK => ?_)
      go_wp2_with fail
      exact hK.out _ _ ⟨true,_,_,_,_,_,_,_,_,_,.pointer (some ⟨w.heap.size, 1, none⟩),_,_,_,_,_,_,_,_,_,rfl,Or.inl ⟨rfl, { h with o0 := fun _ => rfl }⟩⟩
     ·have e0 : y0 = true := by revert hc; cases y0 <;> simp [Region.binds]
      have r0 := h.o0 e0; subst r0
      clear hc hi
      have kd := (K0.grow h.bel).c1
      refine wpOp_go rfl rfl (fun K hK => ?_)
      go_wp2_with fail
      exact hK.out _ _ ⟨_,true,_,_,_,_,_,_,_,_,_,.agg #[.slice P1 M1 C1],_,_,_,_,_,_,_,_,rfl,Or.inl ⟨rfl, { h with o1 := fun _ => rfl }⟩⟩
     ·clear hc hi
      have kd := (KX.below h.bel).1
      refine wpOp_go rfl rfl (fun K hK => ?_)
      go_wp2_with fail
      exact hK.out _ _ ⟨_,_,true,_,_,_,_,_,_,_,_,_,.agg #[.slice P5 M5 C5],_,_,_,_,_,_,_,rfl,Or.inl ⟨rfl, { h with o2 := fun _ => rfl }⟩⟩
     ·have e1 : y1 = true := by revert hc; cases y1 <;> simp [Region.binds]
      have e2 : y2 = true := by revert hc; cases y2 <;> simp [Region.binds]
      have r1 := h.o1 e1; subst r1
      have r2 := h.o2 e2; subst r2
      clear hc hi
      refine wpOp_go rfl rfl (fun K hK => ?_)
      go_wp2_with (first | (go_at_call 104; go_must (refine (by_n (h1.grow h.bel) (H5.grow h.bel) hA p1 hmx).mono ?_; rintro e x2 ⟨a9, l9, c9, rfl, H9, bb⟩)) | fail)
      exact hK.out _ _ ⟨_,_,_,true,_,_,_,_,_,_,_,_,_,_,_,_,_,_,_,_,rfl,Or.inl ⟨rfl, { h.grow bb with o3 := fun _ => ⟨a9, l9, c9, rfl, H9⟩ }⟩⟩
     ·clear hc hi
      refine wpOp_go rfl rfl (fun K hK => ?_)
      go_wp2_with fail
      exact hK.out _ _ ⟨_,_,_,_,true,_,_,_,_,_,_,_,_,_,.pointer (some ⟨w.heap.size + 1, 1, none⟩),_,_,_,_,_,rfl,Or.inl ⟨rfl, { h with o4 := fun _ => rfl }⟩⟩
     ·have e4 : y4 = true := by revert hc; cases y4 <;> simp [Region.binds]
      have r4 := h.o4 e4; subst r4
      clear hc hi
      have kd := (K1.grow h.bel).c1
      refine wpOp_go rfl rfl (fun K hK => ?_)
      go_wp2_with fail
      exact hK.out _ _ ⟨_,_,_,_,_,true,_,_,_,_,_,_,_,_,_,.agg #[.slice P3 M3 C3],_,_,_,_,rfl,Or.inl ⟨rfl, { h with o5 := fun _ => rfl }⟩⟩
     ·clear hc hi
      have kd := (KY.below h.bel).1
      refine wpOp_go rfl rfl (fun K hK => ?_)
      go_wp2_with fail
      exact hK.out _ _ ⟨_,_,_,_,_,_,true,_,_,_,_,_,_,_,_,_,.agg #[.slice P6 M6 C6],_,_,_,rfl,Or.inl ⟨rfl, { h with o6 := fun _ => rfl }⟩⟩
     ·have e5 : y5 = true := by revert hc; cases y5 <;> simp [Region.binds]
      have e6 : y6 = true := by revert hc; cases y6 <;> simp [Region.binds]
      have r5 := h.o5 e5; subst r5
      have r6 := h.o6 e6; subst r6
      clear hc hi
      refine wpOp_go rfl rfl (fun K hK => ?_)
      go_wp2_with (first | (go_at_call 104; go_must (refine (by_n (h3.grow h.bel) (H6.grow h.bel) hC p2 hmx).mono ?_; rintro e x2 ⟨a9, l9, c9, rfl, H9, bb⟩)) | fail)
      exact hK.out _ _ ⟨_,_,_,_,_,_,_,true,_,_,_,_,_,_,_,_,_,_,_,_,rfl,Or.inl ⟨rfl, { h.grow bb with o7 := fun _ => ⟨a9, l9, c9, rfl, H9⟩ }⟩⟩
     ·have e3 : y3 = true := by revert hc; cases y3 <;> simp [Region.binds]
      have e7 : y7 = true := by revert hc; cases y7 <;> simp [Region.binds]
      obtain ⟨a3, l3, c3, rfl, H3⟩ := h.o3 e3
      obtain ⟨a7, l7, c7, rfl, H7⟩ := h.o7 e7
      clear hc hi
      refine wpOp_go rfl rfl (fun K hK => ?_)
      go_wp2_with (first | (go_at_call 64; go_must (refine (hmul2 x a3 l3 c3 a7 l7 c7 H3 H7).mono ?_; rintro e x2 ⟨a9, l9, c9, rfl, H9, bb⟩)) | fail)
      exact hK.out _ _ ⟨_,_,_,_,_,_,_,_,true,_,_,_,_,_,_,_,_,_,_,_,rfl,Or.inl ⟨rfl, { h.grow bb with o8 := fun _ => ⟨a9, l9, c9, rfl, H9⟩ }⟩⟩
     ·clear hc hi
      refine wpOp_go rfl rfl (fun K hK => ?_)
      go_wp2_with fail
      exact hK.out _ _ ⟨_,_,_,_,_,_,_,_,_,true,_,_,_,_,_,_,_,_,_,_,rfl,Or.inl ⟨rfl, { h.grow ((Below.refl _ _).alloc (Nat.le_refl _) _) with o9 := fun _ => ⟨_, rfl, h.bel.size, Blk.new _ _ _⟩ }⟩⟩
     ·have e0 : y0 = true := by revert hc; cases y0 <;> simp [Region.binds]
      have e1 : y1 = true := by revert hc; cases y1 <;> simp [Region.binds]
      have e2 : y2 = true := by revert hc; cases y2 <;> simp [Region.binds]
      have e3 : y3 = true := by revert hc; cases y3 <;> simp [Region.binds]
      have e4 : y4 = true := by revert hc; cases y4 <;> simp [Region.binds]
      have e5 : y5 = true := by revert hc; cases y5 <;> simp [Region.binds]
      have e6 : y6 = true := by revert hc; cases y6 <;> simp [Region.binds]
      have e7 : y7 = true := by revert hc; cases y7 <;> simp [Region.binds]
      have e8 : y8 = true := by revert hc; cases y8 <;> simp [Region.binds]
      have e9 : y9 = true := by revert hc; cases y9 <;> simp [Region.binds]
      obtain ⟨a8, l8, c8, rfl, H8⟩ := h.o8 e8
      obtain ⟨X9, rfl, lX9, K9⟩ := h.o9 e9
      clear hc hi
      subst e0 e1 e2 e3 e4 e5 e6 e7 e8 e9
      have bl := h.bel
      have xx := K9.at 0
      have xf := K9.free 0
      have KX := Bx.of K9
      clear h
      refine wpOp_go rfl rfl (fun K hK => ?_)
      go_wp2_with fail
      exact hK.out _ _ ⟨true,true,true,true,true,true,true,true,true,true,_,_,_,_,_,_,_,_,_,_,rfl,Or.inr (⟨rfl, X9, a8, l8, c8, rfl, rfl, lX9, below_put bl lX9 _, H8.box KX, KX.set _⟩)⟩
    ·rcases (show i = 0 ∨ i = 1 ∨ i = 2 ∨ i = 3 ∨ i = 4 ∨ i = 5 ∨ i = 6 ∨ i = 7 ∨ i = 8 ∨ i = 9 ∨ i = 10 by omega) with rfl | rfl | rfl | rfl | rfl | rfl | rfl | rfl | rfl | rfl | rfl <;> simp at hc
   ·rintro listed a x ⟨y0, y1, y2, y3, y4, y5, y6, y7, y8, y9, t19, t20, t21, t22, t23, t24, t25, t26, t27, t7, rfl, h⟩ hn
    have al := all_listed (by decide +kernel) hn
    rcases h with ⟨rfl, h⟩ | ⟨rfl, h⟩
    ·have z := al 10 (by decide)
     simp at z
    ·obtain ⟨Z, P7, M7, C7, rfl, rfl, lZ, bl, H7, KZ⟩ := h
     refine hJ _ _ ?_
     go_meet
     case rel => exact ⟨Z, P7, M7, C7, rfl, lZ, bl, H7, KZ⟩
   ·exact ⟨false, false, false, false, false, false, false, false, false, false, undef, undef, undef, undef, undef, undef, undef, undef, undef, undef, rfl, Or.inl ⟨rfl, { bel := (Below.refl _ _).drew, o0 := (by intro q; cases q), o1 := (by intro q; cases q), o2 := (by intro q; cases q), o3 := (by intro q; cases q), o4 := (by intro q; cases q), o5 := (by intro q; cases q), o6 := (by intro q; cases q), o7 := (by intro q; cases q), o8 := (by intro q; cases q), o9 := (by intro q; cases q) }⟩⟩
  case rest =>
   rename World => wd
   obtain ⟨Z, P7, M7, C7, rfl, lZ, bl2, H7, KZ⟩ := hcut
   replace K0 := K0.grow bl2
   replace K1 := K1.grow bl2
   replace K2 := K2.grow bl2
   replace h1 := h1.grow bl2
   replace h2 := h2.grow bl2
   replace h3 := h3.grow bl2
   replace h4 := h4.grow bl2
   replace H5 := H5.grow bl2
   replace H6 := H6.grow bl2
   replace KX := KX.below bl2
   replace KY := KY.below bl2
   have pd := bel' pc bl2
   clear pc bl2
   go_wp2_with fail
   go_cut [8] from 28 to 36 (fun x we => ∃ Z P7 M7 C7, x = .pointer (some ⟨Z, 0, none⟩) ∧ wd.heap.size ≤ Z ∧ Below wd.heap.size wd we ∧ Nn we P7 M7 C7 Q ∧ Bx we Z (.slice P7 M7 C7))
   case first =>
    rename_i hm hJ
    refine wp_region_held (S := fun _ => True) (by kernel_rfl) (any_inv (fun listed a x => ∃ (y0 y1 y2 y3 y4 y5 y6 y7 y8 y9 : Bool) (t28 t29 t30 t31 t32 t33 t34 t35 t36 t8 : Value), a = ⟨#[.agg #[.bool g1, .slice P1 M1 C1, .slice P2 M2 C2], .agg #[.bool g2, .slice P3 M3 C3, .slice P4 M4 C4], .pointer (some ⟨w.heap.size, 0, none⟩), .pointer (some ⟨w.heap.size + 1, 0, none⟩), .pointer (some ⟨w.heap.size + 1 + 1, 0, none⟩), .pointer (some ⟨X, 0, none⟩), .pointer (some ⟨Y, 0, none⟩), .pointer (some ⟨Z, 0, none⟩), t8, u9, u10, u11, u12, u13, u14, u15, u16, u17, u18, u19, u20, u21, u22, u23, u24, u25, u26, u27, t28, t29, t30, t31, t32, t33, t34, t35, t36, undef, undef, undef, undef, undef, undef, undef, undef, undef, undef, undef, undef, undef], []⟩ ∧ ((listed = #[y0, y1, y2, y3, y4, y5, y6, y7, y8, y9, false] ∧ FT3 wd x (.pointer (some ⟨w.heap.size, 2, none⟩)) (.agg #[.slice P2 M2 C2]) (.agg #[.slice P6 M6 C6]) (.pointer (some ⟨w.heap.size + 1, 2, none⟩)) (.agg #[.slice P4 M4 C4]) (.agg #[.slice P5 M5 C5]) (B / G2) (D / G1) (Q) y0 y1 y2 y3 y4 y5 y6 y7 y8 y9 t28 t29 t30 t31 t32 t33 t34 t35 t36 t8) ∨ (listed = #[true, true, true, true, true, true, true, true, true, true, true] ∧ ∃ Z P7 M7 C7, t8 = .pointer (some ⟨Z, 0, none⟩) ∧ t36 = .agg #[.slice P7 M7 C7] ∧ wd.heap.size ≤ Z ∧ Below wd.heap.size wd x ∧ Nn x P7 M7 C7 Q ∧ Bx x Z (.slice P7 M7 C7)))) ?_ ?_ _ _ _ _ (by decide) ?_)
    ·rintro listed a x i ⟨y0, y1, y2, y3, y4, y5, y6, y7, y8, y9, t28, t29, t30, t31, t32, t33, t34, t35, t36, t8, rfl, h⟩ hi
     have hr : i < 11 := List.mem_range.1 (List.mem_filter.1 hi).1
     have hc := (List.mem_filter.1 hi).2
     rcases h with ⟨rfl, h⟩ | ⟨rfl, h⟩
     ·rcases (show i = 0 ∨ i = 1 ∨ i = 2 ∨ i = 3 ∨ i = 4 ∨ i = 5 ∨ i = 6 ∨ i = 7 ∨ i = 8 ∨ i = 9 ∨ i = 10 by omega) with rfl | rfl | rfl | rfl | rfl | rfl | rfl | rfl | rfl | rfl | rfl
      ·clear hc hi
       refine wpOp_go rfl rfl (fun K hK => ?_)
       go_wp2_with fail
       exact hK.out _ _ ⟨true,_,_,_,_,_,_,_,_,_,.pointer (some ⟨w.heap.size, 2, none⟩),_,_,_,_,_,_,_,_,_,rfl,Or.inl ⟨rfl, { h with o0 := fun _ => rfl }⟩⟩
      ·have e0 : y0 = true := by revert hc; cases y0 <;> simp [Region.binds]
       have r0 := h.o0 e0; subst r0
       clear hc hi
       have kd := (K0.grow h.bel).c2
       refine wpOp_go rfl rfl (fun K hK => ?_)
       go_wp2_with fail
       exact hK.out _ _ ⟨_,true,_,_,_,_,_,_,_,_,_,.agg #[.slice P2 M2 C2],_,_,_,_,_,_,_,_,rfl,Or.inl ⟨rfl, { h with o1 := fun _ => rfl }⟩⟩
      ·clear hc hi
       have kd := (KY.below h.bel).1
       refine wpOp_go rfl rfl (fun K hK => ?_)
       go_wp2_with fail
       exact hK.out _ _ ⟨_,_,true,_,_,_,_,_,_,_,_,_,.agg #[.slice P6 M6 C6],_,_,_,_,_,_,_,rfl,Or.inl ⟨rfl, { h with o2 := fun _ => rfl }⟩⟩
      ·have e1 : y1 = true := by revert hc; cases y1 <;> simp [Region.binds]
       have e2 : y2 = true := by revert hc; cases y2 <;> simp [Region.binds]
       have r1 := h.o1 e1; subst r1
       have r2 := h.o2 e2; subst r2
       clear hc hi
       refine wpOp_go rfl rfl (fun K hK => ?_)
       go_wp2_with (first | (go_at_call 104; go_must (refine (by_n (h2.grow h.bel) (H6.grow h.bel) hB p2 hmx).mono ?_; rintro e x2 ⟨a9, l9, c9, rfl, H9, bb⟩)) | fail)
       exact hK.out _ _ ⟨_,_,_,true,_,_,_,_,_,_,_,_,_,_,_,_,_,_,_,_,rfl,Or.inl ⟨rfl, { h.grow bb with o3 := fun _ => ⟨a9, l9, c9, rfl, H9⟩ }⟩⟩
      ·clear hc hi
       refine wpOp_go rfl rfl (fun K hK => ?_)
       go_wp2_with fail
       exact hK.out _ _ ⟨_,_,_,_,true,_,_,_,_,_,_,_,_,_,.pointer (some ⟨w.heap.size + 1, 2, none⟩),_,_,_,_,_,rfl,Or.inl ⟨rfl, { h with o4 := fun _ => rfl }⟩⟩
      ·have e4 : y4 = true := by revert hc; cases y4 <;> simp [Region.binds]
       have r4 := h.o4 e4; subst r4
       clear hc hi
       have kd := (K1.grow h.bel).c2
       refine wpOp_go rfl rfl (fun K hK => ?_)
       go_wp2_with fail
       exact hK.out _ _ ⟨_,_,_,_,_,true,_,_,_,_,_,_,_,_,_,.agg #[.slice P4 M4 C4],_,_,_,_,rfl,Or.inl ⟨rfl, { h with o5 := fun _ => rfl }⟩⟩
      ·clear hc hi
       have kd := (KX.below h.bel).1
       refine wpOp_go rfl rfl (fun K hK => ?_)
       go_wp2_with fail
       exact hK.out _ _ ⟨_,_,_,_,_,_,true,_,_,_,_,_,_,_,_,_,.agg #[.slice P5 M5 C5],_,_,_,rfl,Or.inl ⟨rfl, { h with o6 := fun _ => rfl }⟩⟩
      ·have e5 : y5 = true := by revert hc; cases y5 <;> simp [Region.binds]
       have e6 : y6 = true := by revert hc; cases y6 <;> simp [Region.binds]
       have r5 := h.o5 e5; subst r5
       have r6 := h.o6 e6; subst r6
       clear hc hi
       refine wpOp_go rfl rfl (fun K hK => ?_)
       go_wp2_with (first | (go_at_call 104; go_must (refine (by_n (h4.grow h.bel) (H5.grow h.bel) hD p1 hmx).mono ?_; rintro e x2 ⟨a9, l9, c9, rfl, H9, bb⟩)) | fail)
       exact hK.out _ _ ⟨_,_,_,_,_,_,_,true,_,_,_,_,_,_,_,_,_,_,_,_,rfl,Or.inl ⟨rfl, { h.grow bb with o7 := fun _ => ⟨a9, l9, c9, rfl, H9⟩ }⟩⟩
      ·have e3 : y3 = true := by revert hc; cases y3 <;> simp [Region.binds]
       have e7 : y7 = true := by revert hc; cases y7 <;> simp [Region.binds]
       obtain ⟨a3, l3, c3, rfl, H3⟩ := h.o3 e3
       obtain ⟨a7, l7, c7, rfl, H7⟩ := h.o7 e7
       clear hc hi
       refine wpOp_go rfl rfl (fun K hK => ?_)
       go_wp2_with (first | (go_at_call 64; go_must (refine (hmul3 x a3 l3 c3 a7 l7 c7 H3 H7).mono ?_; rintro e x2 ⟨a9, l9, c9, rfl, H9, bb⟩)) | fail)
       exact hK.out _ _ ⟨_,_,_,_,_,_,_,_,true,_,_,_,_,_,_,_,_,_,_,_,rfl,Or.inl ⟨rfl, { h.grow bb with o8 := fun _ => ⟨a9, l9, c9, rfl, H9⟩ }⟩⟩
      ·clear hc hi
       refine wpOp_go rfl rfl (fun K hK => ?_)
       go_wp2_with fail
       exact hK.out _ _ ⟨_,_,_,_,_,_,_,_,_,true,_,_,_,_,_,_,_,_,_,_,rfl,Or.inl ⟨rfl, { h.grow ((Below.refl _ _).alloc (Nat.le_refl _) _) with o9 := fun _ => ⟨_, rfl, h.bel.size, Blk.new _ _ _⟩ }⟩⟩
      ·have e0 : y0 = true := by revert hc; cases y0 <;> simp [Region.binds]
       have e1 : y1 = true := by revert hc; cases y1 <;> simp [Region.binds]
       have e2 : y2 = true := by revert hc; cases y2 <;> simp [Region.binds]
       have e3 : y3 = true := by revert hc; cases y3 <;> simp [Region.binds]
       have e4 : y4 = true := by revert hc; cases y4 <;> simp [Region.binds]
       have e5 : y5 = true := by revert hc; cases y5 <;> simp [Region.binds]
       have e6 : y6 = true := by revert hc; cases y6 <;> simp [Region.binds]
       have e7 : y7 = true := by revert hc; cases y7 <;> simp [Region.binds]
       have e8 : y8 = true := by revert hc; cases y8 <;> simp [Region.binds]
       have e9 : y9 = true := by revert hc; cases y9 <;> simp [Region.binds]
       obtain ⟨a8, l8, c8, rfl, H8⟩ := h.o8 e8
       obtain ⟨X9, rfl, lX9, K9⟩ := h.o9 e9
       clear hc hi
       subst e0 e1 e2 e3 e4 e5 e6 e7 e8 e9
       have bl := h.bel
       have xx := K9.at 0
       have xf := K9.free 0
       have KX := Bx.of K9
       clear h
       refine wpOp_go rfl rfl (fun K hK => ?_)
       go_wp2_with fail
       exact hK.out _ _ ⟨true,true,true,true,true,true,true,true,true,true,_,_,_,_,_,_,_,_,_,_,rfl,Or.inr (⟨rfl, X9, a8, l8, c8, rfl, rfl, lX9, below_put bl lX9 _, H8.box KX, KX.set _⟩)⟩
     ·rcases (show i = 0 ∨ i = 1 ∨ i = 2 ∨ i = 3 ∨ i = 4 ∨ i = 5 ∨ i = 6 ∨ i = 7 ∨ i = 8 ∨ i = 9 ∨ i = 10 by omega) with rfl | rfl | rfl | rfl | rfl | rfl | rfl | rfl | rfl | rfl | rfl <;> simp at hc
    ·rintro listed a x ⟨y0, y1, y2, y3, y4, y5, y6, y7, y8, y9, t28, t29, t30, t31, t32, t33, t34, t35, t36, t8, rfl, h⟩ hn
     have al := all_listed (by decide +kernel) hn
     rcases h with ⟨rfl, h⟩ | ⟨rfl, h⟩
     ·have z := al 10 (by decide)
      simp at z
     ·obtain ⟨Z, P7, M7, C7, rfl, rfl, lZ, bl, H7, KZ⟩ := h
      refine hJ _ _ ?_
      go_meet
      case rel => exact ⟨Z, P7, M7, C7, rfl, lZ, bl, H7, KZ⟩
    ·exact ⟨false, false, false, false, false, false, false, false, false, false, undef, undef, undef, undef, undef, undef, undef, undef, undef, undef, rfl, Or.inl ⟨rfl, { bel := (Below.refl _ _).drew, o0 := (by intro q; cases q), o1 := (by intro q; cases q), o2 := (by intro q; cases q), o3 := (by intro q; cases q), o4 := (by intro q; cases q), o5 := (by intro q; cases q), o6 := (by intro q; cases q), o7 := (by intro q; cases q), o8 := (by intro q; cases q), o9 := (by intro q; cases q) }⟩⟩
   case rest =>
    rename World => we
    obtain ⟨V, P8, M8, C8, rfl, lV, bl3, H8, KV⟩ := hcut
    replace K0 := K0.grow bl3
    replace K1 := K1.grow bl3
    replace K2 := K2.grow bl3
    replace H7 := H7.grow bl3
    replace KZ := KZ.below bl3
    have pe := bel' pd bl3
    clear pd bl3 h1 h2 h3 h4 H5 H6 KX KY hmul2 hmul3
    cases gg with
    | true =>
     have Cz : ∀ x, Below we.heap.size we x → Calls Tryz.prog 48 #[.agg #[.slice P7 M7 C7]] x fun e w' => e = .returned (.bool z) ∧ Below x.heap.size x w' := fun x b => by
      have := IsZero_n (H7.grow b)
      rw [hz] at this
      exact this
     go_wp2_with fail
     go_cut [] from 37 to 49 (fun wf => ∃ x0, wf = ((x0.setCell ⟨w.heap.size + 1 + 1, 0, none⟩ (.bool (!z))).setCell ⟨w.heap.size + 1 + 1, 1, none⟩ (.slice P7 M7 C7)).setCell ⟨w.heap.size + 1 + 1, 2, none⟩ (.slice P8 M8 C8) ∧ Below we.heap.size we x0)
     case first =>
      rename_i hm hJ
      refine wp_region_held (S := fun _ => True) (by kernel_rfl) (any_inv (fun listed a x => ∃ (y0 y1 y2 y3 y4 y5 y6 y7 y8 y9 y10 y11 y12 : Bool) (t37 t38 t39 t40 t41 t42 t43 t44 t45 t46 t47 t48 t49 : Value), a = ⟨#[.agg #[.bool g1, .slice P1 M1 C1, .slice P2 M2 C2], .agg #[.bool g2, .slice P3 M3 C3, .slice P4 M4 C4], .pointer (some ⟨w.heap.size, 0, none⟩), .pointer (some ⟨w.heap.size + 1, 0, none⟩), .pointer (some ⟨w.heap.size + 1 + 1, 0, none⟩), .pointer (some ⟨X, 0, none⟩), .pointer (some ⟨Y, 0, none⟩), .pointer (some ⟨Z, 0, none⟩), .pointer (some ⟨V, 0, none⟩), u9, u10, u11, u12, u13, u14, u15, u16, u17, u18, u19, u20, u21, u22, u23, u24, u25, u26, u27, u28, u29, u30, u31, u32, u33, u34, u35, u36, t37, t38, t39, t40, t41, t42, t43, t44, t45, t46, t47, t48, t49], []⟩ ∧ ((listed = #[y0, y1, y2, y3, y4, y5, y6, y7, y8, y9, y10, y11, y12, false] ∧ FT4 we x (.pointer (some ⟨w.heap.size, 0, none⟩)) (.bool g1) (.pointer (some ⟨w.heap.size + 1, 0, none⟩)) (.bool g2) (.bool true) (.bool true) (.agg #[.slice P7 M7 C7]) (.bool z) (.bool (!z)) (.bool (!z)) (.agg #[.slice P7 M7 C7]) (.agg #[.slice P8 M8 C8]) (.agg #[.bool (!z), .slice P7 M7 C7, .slice P8 M8 C8]) y0 y1 y2 y3 y4 y5 y6 y7 y8 y9 y10 y11 y12 t37 t38 t39 t40 t41 t42 t43 t44 t45 t46 t47 t48 t49) ∨ (listed = #[true, true, true, true, true, true, true, true, true, true, true, true, true, true] ∧ ∃ x0, x = ((x0.setCell ⟨w.heap.size + 1 + 1, 0, none⟩ (.bool (!z))).setCell ⟨w.heap.size + 1 + 1, 1, none⟩ (.slice P7 M7 C7)).setCell ⟨w.heap.size + 1 + 1, 2, none⟩ (.slice P8 M8 C8) ∧ Below we.heap.size we x0))) ?_ ?_ _ _ _ _ (by decide) ?_)
      ·rintro listed a x i ⟨y0, y1, y2, y3, y4, y5, y6, y7, y8, y9, y10, y11, y12, t37, t38, t39, t40, t41, t42, t43, t44, t45, t46, t47, t48, t49, rfl, h⟩ hi
       have hr : i < 14 := List.mem_range.1 (List.mem_filter.1 hi).1
       have hc := (List.mem_filter.1 hi).2
       rcases h with ⟨rfl, h⟩ | ⟨rfl, h⟩
       ·rcases (show i = 0 ∨ i = 1 ∨ i = 2 ∨ i = 3 ∨ i = 4 ∨ i = 5 ∨ i = 6 ∨ i = 7 ∨ i = 8 ∨ i = 9 ∨ i = 10 ∨ i = 11 ∨ i = 12 ∨ i = 13 by omega) with rfl | rfl | rfl | rfl | rfl | rfl | rfl | rfl | rfl | rfl | rfl | rfl | rfl | rfl
        ·clear hc hi
         refine wpOp_go rfl rfl (fun K hK => ?_)
         go_wp2_with fail
         exact hK.out _ _ ⟨true,_,_,_,_,_,_,_,_,_,_,_,_,.pointer (some ⟨w.heap.size, 0, none⟩),_,_,_,_,_,_,_,_,_,_,_,_,rfl,Or.inl ⟨rfl, { h with o0 := fun _ => rfl }⟩⟩
        ·have e0 : y0 = true := by revert hc; cases y0 <;> simp [Region.binds]
         have r0 := h.o0 e0; subst r0
         clear hc hi
         have kd := (K0.grow h.bel).c0
         refine wpOp_go rfl rfl (fun K hK => ?_)
         go_wp2_with fail
         exact hK.out _ _ ⟨_,true,_,_,_,_,_,_,_,_,_,_,_,_,.bool g1,_,_,_,_,_,_,_,_,_,_,_,rfl,Or.inl ⟨rfl, { h with o1 := fun _ => rfl }⟩⟩
        ·clear hc hi
         refine wpOp_go rfl rfl (fun K hK => ?_)
         go_wp2_with fail
         exact hK.out _ _ ⟨_,_,true,_,_,_,_,_,_,_,_,_,_,_,_,.pointer (some ⟨w.heap.size + 1, 0, none⟩),_,_,_,_,_,_,_,_,_,_,rfl,Or.inl ⟨rfl, { h with o2 := fun _ => rfl }⟩⟩
        ·have e2 : y2 = true := by revert hc; cases y2 <;> simp [Region.binds]
         have r2 := h.o2 e2; subst r2
         clear hc hi
         have kd := (K1.grow h.bel).c0
         refine wpOp_go rfl rfl (fun K hK => ?_)
         go_wp2_with fail
         exact hK.out _ _ ⟨_,_,_,true,_,_,_,_,_,_,_,_,_,_,_,_,.bool g2,_,_,_,_,_,_,_,_,_,rfl,Or.inl ⟨rfl, { h with o3 := fun _ => rfl }⟩⟩
        ·have e1 : y1 = true := by revert hc; cases y1 <;> simp [Region.binds]
         have e3 : y3 = true := by revert hc; cases y3 <;> simp [Region.binds]
         have r1 := h.o1 e1; subst r1
         have r3 := h.o3 e3; subst r3
         clear hc hi
         refine wpOp_go rfl rfl (fun K hK => ?_)
         go_wp2_with fail
         rw [show (!(g1 == g2)) = true from hg]
         exact hK.out _ _ ⟨_,_,_,_,true,_,_,_,_,_,_,_,_,_,_,_,_,.bool true,_,_,_,_,_,_,_,_,rfl,Or.inl ⟨rfl, { h with o4 := fun _ => rfl }⟩⟩
        ·have e4 : y4 = true := by revert hc; cases y4 <;> simp [Region.binds]
         have r4 := h.o4 e4; subst r4
         clear hc hi
         refine wpOp_go rfl rfl (fun K hK => ?_)
         go_wp2_with fail
         exact hK.out _ _ ⟨_,_,_,_,_,true,_,_,_,_,_,_,_,_,_,_,_,_,.bool true,_,_,_,_,_,_,_,rfl,Or.inl ⟨rfl, { h with o5 := fun _ => rfl }⟩⟩
        ·have e5 : y5 = true := by revert hc; cases y5 <;> simp [Region.binds]
         have r5 := h.o5 e5; subst r5
         clear hc hi
         have kd := (KZ.below h.bel).1
         refine wpOp_go rfl rfl (fun K hK => ?_)
         go_wp2_with fail
         exact hK.out _ _ ⟨_,_,_,_,_,_,true,_,_,_,_,_,_,_,_,_,_,_,_,.agg #[.slice P7 M7 C7],_,_,_,_,_,_,rfl,Or.inl ⟨rfl, { h with o6 := fun _ => rfl }⟩⟩
        ·have e5 : y5 = true := by revert hc; cases y5 <;> simp [Region.binds]
         have e6 : y6 = true := by revert hc; cases y6 <;> simp [Region.binds]
         have r5 := h.o5 e5; subst r5
         have r6 := h.o6 e6; subst r6
         clear hc hi
         refine wpOp_go rfl rfl (fun K hK => ?_)
         go_wp2_with (first | (go_at_call 48; go_must (refine (Cz x h.bel).mono ?_; rintro e x2 ⟨rfl, bb⟩)) | fail)
         exact hK.out _ _ ⟨_,_,_,_,_,_,_,true,_,_,_,_,_,_,_,_,_,_,_,_,_,_,_,_,_,_,rfl,Or.inl ⟨rfl, { h.grow bb with o7 := fun _ => rfl }⟩⟩
        ·have e5 : y5 = true := by revert hc; cases y5 <;> simp [Region.binds]
         have e7 : y7 = true := by revert hc; cases y7 <;> simp [Region.binds]
         have r5 := h.o5 e5; subst r5
         have r7 := h.o7 e7; subst r7
         clear hc hi
         refine wpOp_go rfl rfl (fun K hK => ?_)
         go_wp2_with fail
         exact hK.out _ _ ⟨_,_,_,_,_,_,_,_,true,_,_,_,_,_,_,_,_,_,_,_,_,.bool (!z),_,_,_,_,rfl,Or.inl ⟨rfl, { h with o8 := fun _ => rfl }⟩⟩
        ·have e5 : y5 = true := by revert hc; cases y5 <;> simp [Region.binds]
         have e8 : y8 = true := by revert hc; cases y8 <;> simp [Region.binds]
         have r5 := h.o5 e5; subst r5
         have r8 := h.o8 e8; subst r8
         clear hc hi
         refine wpOp_go rfl rfl (fun K hK => ?_)
         go_wp2_with fail
         exact hK.out _ _ ⟨_,_,_,_,_,_,_,_,_,true,_,_,_,_,_,_,_,_,_,_,_,_,.bool (!z),_,_,_,rfl,Or.inl ⟨rfl, { h with o9 := fun _ => rfl }⟩⟩
        ·clear hc hi
         have kd := (KZ.below h.bel).1
         refine wpOp_go rfl rfl (fun K hK => ?_)
         go_wp2_with fail
         exact hK.out _ _ ⟨_,_,_,_,_,_,_,_,_,_,true,_,_,_,_,_,_,_,_,_,_,_,_,.agg #[.slice P7 M7 C7],_,_,rfl,Or.inl ⟨rfl, { h with o10 := fun _ => rfl }⟩⟩
        ·clear hc hi
         have kd := (KV.below h.bel).1
         refine wpOp_go rfl rfl (fun K hK => ?_)
         go_wp2_with fail
         exact hK.out _ _ ⟨_,_,_,_,_,_,_,_,_,_,_,true,_,_,_,_,_,_,_,_,_,_,_,_,.agg #[.slice P8 M8 C8],_,rfl,Or.inl ⟨rfl, { h with o11 := fun _ => rfl }⟩⟩
        ·have e9 : y9 = true := by revert hc; cases y9 <;> simp [Region.binds]
         have e10 : y10 = true := by revert hc; cases y10 <;> simp [Region.binds]
         have e11 : y11 = true := by revert hc; cases y11 <;> simp [Region.binds]
         have r9 := h.o9 e9; subst r9
         have r10 := h.o10 e10; subst r10
         have r11 := h.o11 e11; subst r11
         clear hc hi
         refine wpOp_go rfl rfl (fun K hK => ?_)
         go_wp2_with fail
         exact hK.out _ _ ⟨_,_,_,_,_,_,_,_,_,_,_,_,true,_,_,_,_,_,_,_,_,_,_,_,_,.agg #[.bool (!z), .slice P7 M7 C7, .slice P8 M8 C8],rfl,Or.inl ⟨rfl, { h with o12 := fun _ => rfl }⟩⟩
        ·have e0 : y0 = true := by revert hc; cases y0 <;> simp [Region.binds]
         have e1 : y1 = true := by revert hc; cases y1 <;> simp [Region.binds]
         have e2 : y2 = true := by revert hc; cases y2 <;> simp [Region.binds]
         have e3 : y3 = true := by revert hc; cases y3 <;> simp [Region.binds]
         have e4 : y4 = true := by revert hc; cases y4 <;> simp [Region.binds]
         have e5 : y5 = true := by revert hc; cases y5 <;> simp [Region.binds]
         have e6 : y6 = true := by revert hc; cases y6 <;> simp [Region.binds]
         have e7 : y7 = true := by revert hc; cases y7 <;> simp [Region.binds]
         have e8 : y8 = true := by revert hc; cases y8 <;> simp [Region.binds]
         have e9 : y9 = true := by revert hc; cases y9 <;> simp [Region.binds]
         have e10 : y10 = true := by revert hc; cases y10 <;> simp [Region.binds]
         have e11 : y11 = true := by revert hc; cases y11 <;> simp [Region.binds]
         have e12 : y12 = true := by revert hc; cases y12 <;> simp [Region.binds]
         have r12 := h.o12 e12; subst r12
         clear hc hi
         subst e0 e1 e2 e3 e4 e5 e6 e7 e8 e9 e10 e11 e12
         have bl := h.bel
         have kr := K2.grow h.bel
         have kr0 := kr.c0
         have kr1 := kr.c1
         have kr2 := kr.c2
         have kf0 := kr.f0
         have kf1 := kr.f1
         have kf2 := kr.f2
         clear h kr
         refine wpOp_go rfl rfl (fun K hK => ?_)
         go_wp2_with fail
         exact hK.out _ _ ⟨true,true,true,true,true,true,true,true,true,true,true,true,true,_,_,_,_,_,_,_,_,_,_,_,_,_,rfl,Or.inr (⟨rfl, x, rfl, bl⟩)⟩
       ·rcases (show i = 0 ∨ i = 1 ∨ i = 2 ∨ i = 3 ∨ i = 4 ∨ i = 5 ∨ i = 6 ∨ i = 7 ∨ i = 8 ∨ i = 9 ∨ i = 10 ∨ i = 11 ∨ i = 12 ∨ i = 13 by omega) with rfl | rfl | rfl | rfl | rfl | rfl | rfl | rfl | rfl | rfl | rfl | rfl | rfl | rfl <;> simp at hc
      ·rintro listed a x ⟨y0, y1, y2, y3, y4, y5, y6, y7, y8, y9, y10, y11, y12, t37, t38, t39, t40, t41, t42, t43, t44, t45, t46, t47, t48, t49, rfl, h⟩ hn
       have al := all_listed (by decide +kernel) hn
       rcases h with ⟨rfl, h⟩ | ⟨rfl, h⟩
       ·have z := al 13 (by decide)
        simp at z
       ·obtain ⟨x0, rfl, bl⟩ := h
        refine hJ _ _ ?_
        go_meet
        case rel => exact ⟨x0, rfl, bl⟩
      ·exact ⟨false, false, false, false, false, false, false, false, false, false, false, false, false, undef, undef, undef, undef, undef, undef, undef, undef, undef, undef, undef, undef, undef, rfl, Or.inl ⟨rfl, { bel := (Below.refl _ _).drew, o0 := (by intro q; cases q), o1 := (by intro q; cases q), o2 := (by intro q; cases q), o3 := (by intro q; cases q), o4 := (by intro q; cases q), o5 := (by intro q; cases q), o6 := (by intro q; cases q), o7 := (by intro q; cases q), o8 := (by intro q; cases q), o9 := (by intro q; cases q), o10 := (by intro q; cases q), o11 := (by intro q; cases q), o12 := (by intro q; cases q) }⟩⟩
     case rest =>
      obtain ⟨x0, rfl, bl4⟩ := hcut
      have kr := K2.grow bl4
      have q7 := (H7.grow bl4).putF (x := .bool (!z)) (y := .slice P7 M7 C7) (z := .slice P8 M8 C8) kr
      have q8 := (H8.grow bl4).putF (x := .bool (!z)) (y := .slice P7 M7 C7) (z := .slice P8 M8 C8) kr
      obtain ⟨z0, z1, z2⟩ := kr.put (.bool (!z)) (.slice P7 M7 C7) (.slice P8 M8 C8)
      have bE := bset3 (n := w.heap.size + 1 + 1) (x := .bool (!z)) (y := .slice P7 M7 C7) (z := .slice P8 M8 C8) (bel' pe bl4) (by omega)
      go_wp2_with fail
      generalize ((x0.setCell ⟨w.heap.size + 1 + 1, 0, none⟩ (.bool (!z))).setCell ⟨w.heap.size + 1 + 1, 1, none⟩ (.slice P7 M7 C7)).setCell ⟨w.heap.size + 1 + 1, 2, none⟩ (.slice P8 M8 C8) = WE at *
      exact bodyPost_ret (v := .agg #[.bool (!z), .slice P7 M7 C7, .slice P8 M8 C8]) (by simp [results, Tryz.results42, go_sem, z0, z1, z2]) rfl ⟨_, _, _, _, _, _, rfl, q7, q8, bE⟩
    | false =>
     go_wp2_with fail
     go_cut [] from 37 to 49 (fun wf => ∃ x0, wf = ((x0.setCell ⟨w.heap.size + 1 + 1, 0, none⟩ (.bool false)).setCell ⟨w.heap.size + 1 + 1, 1, none⟩ (.slice P7 M7 C7)).setCell ⟨w.heap.size + 1 + 1, 2, none⟩ (.slice P8 M8 C8) ∧ Below we.heap.size we x0)
     case first =>
      rename_i hm hJ
      refine wp_region_held (S := fun _ => True) (by kernel_rfl) (any_inv (fun listed a x => ∃ (y0 y1 y2 y3 y4 y5 y6 y7 y8 y9 y10 y11 y12 : Bool) (t37 t38 t39 t40 t41 t42 t43 t44 t45 t46 t47 t48 t49 : Value), a = ⟨#[.agg #[.bool g1, .slice P1 M1 C1, .slice P2 M2 C2], .agg #[.bool g2, .slice P3 M3 C3, .slice P4 M4 C4], .pointer (some ⟨w.heap.size, 0, none⟩), .pointer (some ⟨w.heap.size + 1, 0, none⟩), .pointer (some ⟨w.heap.size + 1 + 1, 0, none⟩), .pointer (some ⟨X, 0, none⟩), .pointer (some ⟨Y, 0, none⟩), .pointer (some ⟨Z, 0, none⟩), .pointer (some ⟨V, 0, none⟩), u9, u10, u11, u12, u13, u14, u15, u16, u17, u18, u19, u20, u21, u22, u23, u24, u25, u26, u27, u28, u29, u30, u31, u32, u33, u34, u35, u36, t37, t38, t39, t40, t41, t42, t43, t44, t45, t46, t47, t48, t49], []⟩ ∧ ((listed = #[y0, y1, y2, y3, y4, y5, y6, y7, y8, y9, y10, y11, y12, false] ∧ FT5 we x (.pointer (some ⟨w.heap.size, 0, none⟩)) (.bool g1) (.pointer (some ⟨w.heap.size + 1, 0, none⟩)) (.bool g2) (.bool false) (.bool false) (.bool false) (.agg #[.slice P7 M7 C7]) (.agg #[.slice P8 M8 C8]) (.agg #[.bool false, .slice P7 M7 C7, .slice P8 M8 C8]) y0 y1 y2 y3 y4 y5 y6 y7 y8 y9 y10 y11 y12 t37 t38 t39 t40 t41 t42 t43 t44 t45 t46 t47 t48 t49) ∨ (listed = #[true, true, true, true, true, true, true, true, true, true, true, true, true, true] ∧ ∃ x0, x = ((x0.setCell ⟨w.heap.size + 1 + 1, 0, none⟩ (.bool false)).setCell ⟨w.heap.size + 1 + 1, 1, none⟩ (.slice P7 M7 C7)).setCell ⟨w.heap.size + 1 + 1, 2, none⟩ (.slice P8 M8 C8) ∧ Below we.heap.size we x0))) ?_ ?_ _ _ _ _ (by decide) ?_)
      ·rintro listed a x i ⟨y0, y1, y2, y3, y4, y5, y6, y7, y8, y9, y10, y11, y12, t37, t38, t39, t40, t41, t42, t43, t44, t45, t46, t47, t48, t49, rfl, h⟩ hi
       have hr : i < 14 := List.mem_range.1 (List.mem_filter.1 hi).1
       have hc := (List.mem_filter.1 hi).2
       rcases h with ⟨rfl, h⟩ | ⟨rfl, h⟩
       ·rcases (show i = 0 ∨ i = 1 ∨ i = 2 ∨ i = 3 ∨ i = 4 ∨ i = 5 ∨ i = 6 ∨ i = 7 ∨ i = 8 ∨ i = 9 ∨ i = 10 ∨ i = 11 ∨ i = 12 ∨ i = 13 by omega) with rfl | rfl | rfl | rfl | rfl | rfl | rfl | rfl | rfl | rfl | rfl | rfl | rfl | rfl
        ·clear hc hi
         refine wpOp_go rfl rfl (fun K hK => ?_)
         go_wp2_with fail
         exact hK.out _ _ ⟨true,_,_,_,_,_,_,_,_,_,_,_,_,.pointer (some ⟨w.heap.size, 0, none⟩),_,_,_,_,_,_,_,_,_,_,_,_,rfl,Or.inl ⟨rfl, { h with o0 := fun _ => rfl }⟩⟩
        ·have e0 : y0 = true := by revert hc; cases y0 <;> simp [Region.binds]
         have r0 := h.o0 e0; subst r0
         clear hc hi
         have kd := (K0.grow h.bel).c0
         refine wpOp_go rfl rfl (fun K hK => ?_)
         go_wp2_with fail
         exact hK.out _ _ ⟨_,true,_,_,_,_,_,_,_,_,_,_,_,_,.bool g1,_,_,_,_,_,_,_,_,_,_,_,rfl,Or.inl ⟨rfl, { h with o1 := fun _ => rfl }⟩⟩
        ·clear hc hi
         refine wpOp_go rfl rfl (fun K hK => ?_)
         go_wp2_with fail
         exact hK.out _ _ ⟨_,_,true,_,_,_,_,_,_,_,_,_,_,_,_,.pointer (some ⟨w.heap.size + 1, 0, none⟩),_,_,_,_,_,_,_,_,_,_,rfl,Or.inl ⟨rfl, { h with o2 := fun _ => rfl }⟩⟩
        ·have e2 : y2 = true := by revert hc; cases y2 <;> simp [Region.binds]
         have r2 := h.o2 e2; subst r2
         clear hc hi
         have kd := (K1.grow h.bel).c0
         refine wpOp_go rfl rfl (fun K hK => ?_)
         go_wp2_with fail
         exact hK.out _ _ ⟨_,_,_,true,_,_,_,_,_,_,_,_,_,_,_,_,.bool g2,_,_,_,_,_,_,_,_,_,rfl,Or.inl ⟨rfl, { h with o3 := fun _ => rfl }⟩⟩
        ·have e1 : y1 = true := by revert hc; cases y1 <;> simp [Region.binds]
         have e3 : y3 = true := by revert hc; cases y3 <;> simp [Region.binds]
         have r1 := h.o1 e1; subst r1
         have r3 := h.o3 e3; subst r3
         clear hc hi
         refine wpOp_go rfl rfl (fun K hK => ?_)
         go_wp2_with fail
         rw [show (!(g1 == g2)) = false from hg]
         exact hK.out _ _ ⟨_,_,_,_,true,_,_,_,_,_,_,_,_,_,_,_,_,.bool false,_,_,_,_,_,_,_,_,rfl,Or.inl ⟨rfl, { h with o4 := fun _ => rfl }⟩⟩
        ·have e4 : y4 = true := by revert hc; cases y4 <;> simp [Region.binds]
         have r4 := h.o4 e4; subst r4
         clear hc hi
         refine wpOp_go rfl rfl (fun K hK => ?_)
         go_wp2_with fail
         exact hK.out _ _ ⟨_,_,_,_,_,true,_,_,_,_,_,_,_,_,_,_,_,_,.bool false,_,_,_,_,_,_,_,rfl,Or.inl ⟨rfl, { h with o5 := fun _ => rfl }⟩⟩
        ·have e5 : y5 = true := by revert hc; cases y5 <;> simp [Region.binds]
         have r5 := h.o5 e5; subst r5
         clear hc hi
         exact wpOp_skip rfl rfl ⟨y0, y1, y2, y3, y4, y5, true, y7, y8, y9, y10, y11, y12, t37, t38, t39, t40, t41, _, _, t44, t45, t46, t47, t48, t49, rfl, Or.inl ⟨rfl, { h with o6 := fun _ => rfl }⟩⟩
        ·have e5 : y5 = true := by revert hc; cases y5 <;> simp [Region.binds]
         have r5 := h.o5 e5; subst r5
         clear hc hi
         exact wpOp_skip rfl rfl ⟨y0, y1, y2, y3, y4, y5, y6, true, y8, y9, y10, y11, y12, t37, t38, t39, t40, t41, _, t43, _, t45, t46, t47, t48, t49, rfl, Or.inl ⟨rfl, { h with o7 := fun _ => rfl }⟩⟩
        ·have e5 : y5 = true := by revert hc; cases y5 <;> simp [Region.binds]
         have r5 := h.o5 e5; subst r5
         clear hc hi
         exact wpOp_skip rfl rfl ⟨y0, y1, y2, y3, y4, y5, y6, y7, true, y9, y10, y11, y12, t37, t38, t39, t40, t41, _, t43, t44, _, t46, t47, t48, t49, rfl, Or.inl ⟨rfl, { h with o8 := fun _ => rfl }⟩⟩
        ·have e5 : y5 = true := by revert hc; cases y5 <;> simp [Region.binds]
         have e8 : y8 = true := by revert hc; cases y8 <;> simp [Region.binds]
         have r5 := h.o5 e5; subst r5
         have r8 := h.o8 e8; subst r8
         clear hc hi
         refine wpOp_go rfl rfl (fun K hK => ?_)
         go_wp2_with fail
         exact hK.out _ _ ⟨_,_,_,_,_,_,_,_,_,true,_,_,_,_,_,_,_,_,_,_,_,_,.bool false,_,_,_,rfl,Or.inl ⟨rfl, { h with o9 := fun _ => rfl }⟩⟩
        ·clear hc hi
         have kd := (KZ.below h.bel).1
         refine wpOp_go rfl rfl (fun K hK => ?_)
         go_wp2_with fail
         exact hK.out _ _ ⟨_,_,_,_,_,_,_,_,_,_,true,_,_,_,_,_,_,_,_,_,_,_,_,.agg #[.slice P7 M7 C7],_,_,rfl,Or.inl ⟨rfl, { h with o10 := fun _ => rfl }⟩⟩
        ·clear hc hi
         have kd := (KV.below h.bel).1
         refine wpOp_go rfl rfl (fun K hK => ?_)
         go_wp2_with fail
         exact hK.out _ _ ⟨_,_,_,_,_,_,_,_,_,_,_,true,_,_,_,_,_,_,_,_,_,_,_,_,.agg #[.slice P8 M8 C8],_,rfl,Or.inl ⟨rfl, { h with o11 := fun _ => rfl }⟩⟩
        ·have e9 : y9 = true := by revert hc; cases y9 <;> simp [Region.binds]
         have e10 : y10 = true := by revert hc; cases y10 <;> simp [Region.binds]
         have e11 : y11 = true := by revert hc; cases y11 <;> simp [Region.binds]
         have r9 := h.o9 e9; subst r9
         have r10 := h.o10 e10; subst r10
         have r11 := h.o11 e11; subst r11
         clear hc hi
         refine wpOp_go rfl rfl (fun K hK => ?_)
         go_wp2_with fail
         exact hK.out _ _ ⟨_,_,_,_,_,_,_,_,_,_,_,_,true,_,_,_,_,_,_,_,_,_,_,_,_,.agg #[.bool false, .slice P7 M7 C7, .slice P8 M8 C8],rfl,Or.inl ⟨rfl, { h with o12 := fun _ => rfl }⟩⟩
        ·have e0 : y0 = true := by revert hc; cases y0 <;> simp [Region.binds]
         have e1 : y1 = true := by revert hc; cases y1 <;> simp [Region.binds]
         have e2 : y2 = true := by revert hc; cases y2 <;> simp [Region.binds]
         have e3 : y3 = true := by revert hc; cases y3 <;> simp [Region.binds]
         have e4 : y4 = true := by revert hc; cases y4 <;> simp [Region.binds]
         have e5 : y5 = true := by revert hc; cases y5 <;> simp [Region.binds]
         have e6 : y6 = true := by revert hc; cases y6 <;> simp [Region.binds]
         have e7 : y7 = true := by revert hc; cases y7 <;> simp [Region.binds]
         have e8 : y8 = true := by revert hc; cases y8 <;> simp [Region.binds]
         have e9 : y9 = true := by revert hc; cases y9 <;> simp [Region.binds]
         have e10 : y10 = true := by revert hc; cases y10 <;> simp [Region.binds]
         have e11 : y11 = true := by revert hc; cases y11 <;> simp [Region.binds]
         have e12 : y12 = true := by revert hc; cases y12 <;> simp [Region.binds]
         have r12 := h.o12 e12; subst r12
         clear hc hi
         subst e0 e1 e2 e3 e4 e5 e6 e7 e8 e9 e10 e11 e12
         have bl := h.bel
         have kr := K2.grow h.bel
         have kr0 := kr.c0
         have kr1 := kr.c1
         have kr2 := kr.c2
         have kf0 := kr.f0
         have kf1 := kr.f1
         have kf2 := kr.f2
         clear h kr
         refine wpOp_go rfl rfl (fun K hK => ?_)
         go_wp2_with fail
         exact hK.out _ _ ⟨true,true,true,true,true,true,true,true,true,true,true,true,true,_,_,_,_,_,_,_,_,_,_,_,_,_,rfl,Or.inr (⟨rfl, x, rfl, bl⟩)⟩
       ·rcases (show i = 0 ∨ i = 1 ∨ i = 2 ∨ i = 3 ∨ i = 4 ∨ i = 5 ∨ i = 6 ∨ i = 7 ∨ i = 8 ∨ i = 9 ∨ i = 10 ∨ i = 11 ∨ i = 12 ∨ i = 13 by omega) with rfl | rfl | rfl | rfl | rfl | rfl | rfl | rfl | rfl | rfl | rfl | rfl | rfl | rfl <;> simp at hc
      ·rintro listed a x ⟨y0, y1, y2, y3, y4, y5, y6, y7, y8, y9, y10, y11, y12, t37, t38, t39, t40, t41, t42, t43, t44, t45, t46, t47, t48, t49, rfl, h⟩ hn
       have al := all_listed (by decide +kernel) hn
       rcases h with ⟨rfl, h⟩ | ⟨rfl, h⟩
       ·have z := al 13 (by decide)
        simp at z
       ·obtain ⟨x0, rfl, bl⟩ := h
        refine hJ _ _ ?_
        go_meet
        case rel => exact ⟨x0, rfl, bl⟩
      ·exact ⟨false, false, false, false, false, false, false, false, false, false, false, false, false, undef, undef, undef, undef, undef, undef, undef, undef, undef, undef, undef, undef, undef, rfl, Or.inl ⟨rfl, { bel := (Below.refl _ _).drew, o0 := (by intro q; cases q), o1 := (by intro q; cases q), o2 := (by intro q; cases q), o3 := (by intro q; cases q), o4 := (by intro q; cases q), o5 := (by intro q; cases q), o6 := (by intro q; cases q), o7 := (by intro q; cases q), o8 := (by intro q; cases q), o9 := (by intro q; cases q), o10 := (by intro q; cases q), o11 := (by intro q; cases q), o12 := (by intro q; cases q) }⟩⟩
     case rest =>
      obtain ⟨x0, rfl, bl4⟩ := hcut
      have kr := K2.grow bl4
      have q7 := (H7.grow bl4).putF (x := .bool false) (y := .slice P7 M7 C7) (z := .slice P8 M8 C8) kr
      have q8 := (H8.grow bl4).putF (x := .bool false) (y := .slice P7 M7 C7) (z := .slice P8 M8 C8) kr
      obtain ⟨z0, z1, z2⟩ := kr.put (.bool false) (.slice P7 M7 C7) (.slice P8 M8 C8)
      have bE := bset3 (n := w.heap.size + 1 + 1) (x := .bool false) (y := .slice P7 M7 C7) (z := .slice P8 M8 C8) (bel' pe bl4) (by omega)
      go_wp2_with fail
      generalize ((x0.setCell ⟨w.heap.size + 1 + 1, 0, none⟩ (.bool false)).setCell ⟨w.heap.size + 1 + 1, 1, none⟩ (.slice P7 M7 C7)).setCell ⟨w.heap.size + 1 + 1, 2, none⟩ (.slice P8 M8 C8) = WE at *
      exact bodyPost_ret (v := .agg #[.bool false, .slice P7 M7 C7, .slice P8 M8 C8]) (by simp [results, Tryz.results42, go_sem, z0, z1, z2]) rfl ⟨_, _, _, _, _, _, rfl, q7, q8, bE⟩
end Go.Proofs.YtebilgnmnambnaaGreatDoor.Mo
