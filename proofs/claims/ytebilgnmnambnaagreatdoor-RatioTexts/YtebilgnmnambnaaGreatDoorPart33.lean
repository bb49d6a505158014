import Derived.Test.YtebilgnmnambnaaGreatDoorPart27
import Derived.Test.YtebilgnmnambnaaGreatDoorPart06
import Derived.Deep.DeepCutAuto

namespace Go.Proofs.YtebilgnmnambnaaGreatDoor.Mo
open Go.RowKit Tn
structure LO1 (W x : World) (V0 V1 V5 V6 V7 V9 V10 : Value) (N8 N11 : Int) (y0 y1 y2 y3 y4 y5 y6 y7 y8 y9 y10 y11 : Bool) (t11 t12 t13 t14 t15 t16 t17 t18 t19 t20 t21 t22 : Value) : Prop where
  bel : Below W.heap.size W x
  o0 : y0 = true → t11 = V0
  o1 : y1 = true → t12 = V1
  o5 : y5 = true → t16 = V5
  o6 : y6 = true → t17 = V6
  o7 : y7 = true → t18 = V7
  o9 : y9 = true → t20 = V9
  o10 : y10 = true → t21 = V10
  o8 : y8 = true → NV N8 t19 x
  o11 : y11 = true → NV N11 t22 x
  o2 : y2 = true → t13 = undef
  o3 : y3 = true → t14 = undef
  o4 : y4 = true → t15 = undef
  d1_0 : y1 = true → y0 = true
  d3_2 : y3 = true → y2 = true
  d5_1 : y5 = true → y1 = true
  d5_4 : y5 = true → y4 = true
  d8_3 : y8 = true → y3 = true
  d8_6 : y8 = true → y6 = true
  d8_7 : y8 = true → y7 = true
  d11_9 : y11 = true → y9 = true
  d11_10 : y11 = true → y10 = true
theorem LO1.grow {W x x' : World} {V0 V1 V5 V6 V7 V9 V10 : Value} {N8 N11 : Int} {y0 y1 y2 y3 y4 y5 y6 y7 y8 y9 y10 y11 : Bool} {t11 t12 t13 t14 t15 t16 t17 t18 t19 t20 t21 t22 : Value} (h : LO1 W x V0 V1 V5 V6 V7 V9 V10 N8 N11 y0 y1 y2 y3 y4 y5 y6 y7 y8 y9 y10 y11 t11 t12 t13 t14 t15 t16 t17 t18 t19 t20 t21 t22) (b : Below x.heap.size x x') : LO1 W x' V0 V1 V5 V6 V7 V9 V10 N8 N11 y0 y1 y2 y3 y4 y5 y6 y7 y8 y9 y10 y11 t11 t12 t13 t14 t15 t16 t17 t18 t19 t20 t21 t22 where
  bel := bel' h.bel b
  o0 := h.o0
  o1 := h.o1
  o5 := h.o5
  o6 := h.o6
  o7 := h.o7
  o9 := h.o9
  o10 := h.o10
  o2 := h.o2
  o3 := h.o3
  o4 := h.o4
  o8 := fun u => (h.o8 u).grow b
  o11 := fun u => (h.o11 u).grow b
  d1_0 := h.d1_0
  d3_2 := h.d3_2
  d5_1 := h.d5_1
  d5_4 := h.d5_4
  d8_3 := h.d8_3
  d8_6 := h.d8_6
  d8_7 := h.d8_7
  d11_9 := h.d11_9
  d11_10 := h.d11_10
set_option maxHeartbeats 3200000 in
set_option maxRecDepth 100000 in
theorem Lowest_raw (A1 A2 : Option Addr) (M1 C1 M2 C2 : Nat) (G P Q : Int) (w : World)
    (U0 : ∀ x, Below w.heap.size w x → Calls Tryz.prog 103 #[.agg #[.slice A1 M1 C1], .agg #[.slice A2 M2 C2]] x fun e w' => ∃ a l c, e = .returned (.agg #[.slice a l c]) ∧ Nn w' a l c G ∧ Below x.heap.size x w') (U1' : ∀ x a l c, Below w.heap.size w x → Nn x a l c G → Calls Tryz.prog 104 #[.agg #[.slice A1 M1 C1], .agg #[.slice a l c]] x fun e w' => ∃ a l c, e = .returned (.agg #[.slice a l c]) ∧ Nn w' a l c P ∧ Below x.heap.size x w') (U2' : ∀ x a l c, Below w.heap.size w x → Nn x a l c G → Calls Tryz.prog 104 #[.agg #[.slice A2 M2 C2], .agg #[.slice a l c]] x fun e w' => ∃ a l c, e = .returned (.agg #[.slice a l c]) ∧ Nn w' a l c Q ∧ Below x.heap.size x w') :
    Calls Tryz.prog 182 #[.bool false, .agg #[.slice A1 M1 C1], .agg #[.slice A2 M2 C2]] w fun e w' => ∃ a l c a' l' c', e = .returned (.agg #[.bool false, .slice a l c, .slice a' l' c']) ∧ Nn w' a l c P ∧ Nn w' a' l' c' Q ∧ Below w.heap.size w w' := by
  have K1 := ((Bx.new w (.slice A1 M1 C1) 65).alloc (.cells #[.slice A2 M2 C2] 65)).alloc (.cells #[.bool false, .slice none 0 0, .slice none 0 0] 67)
  have K2 := (Bx.new (w.alloc (.cells #[.slice A1 M1 C1] 65)) (.slice A2 M2 C2) 65).alloc (.cells #[.bool false, .slice none 0 0, .slice none 0 0] 67)
  have KR := Rb.new ((w.alloc (.cells #[.slice A1 M1 C1] 65)).alloc (.cells #[.slice A2 M2 C2] 65)) (.bool false) (.slice none 0 0) (.slice none 0 0) 67
  have pr : Below w.heap.size w (((w.alloc (.cells #[.slice A1 M1 C1] 65)).alloc (.cells #[.slice A2 M2 C2] 65)).alloc (.cells #[.bool false, .slice none 0 0, .slice none 0 0] 67)) := (((Below.refl _ _).alloc (Nat.le_refl _) _).alloc (by simp) _).alloc (by simp; omega) _
  simp only [World.size_alloc] at K2 KR
  have k1 := K1.1
  have k2 := K2.1
  go_enter Tryz.func182, Tryz.ntmps182
  go_wp2_with (first
    | (go_at_call 103; refine (U0 _ pr).mono ?_; rintro e w1 ⟨A3, M3, C3, rfl, n3, b1⟩; have al := (Below.refl w1.heap.size w1).alloc (Nat.le_refl _) (.cells #[.slice A3 M3 C3] 65); have KZ := Bx.new w1 (.slice A3 M3 C3) 65; have bb := bel' b1 al; have pW := bel' pr bb)
    | fail)
  replace K1 := K1.below bb
  replace K2 := K2.below bb
  replace KR := KR.grow bb
  have n3' := n3.grow al
  have U1 := fun x b => U1' x A3 M3 C3 (bel' pW b) (n3'.grow b)
  have U2 := fun x b => U2' x A3 M3 C3 (bel' pW b) (n3'.grow b)
  generalize w1.heap.size = Z at *
  generalize w1.alloc (.cells #[.slice A3 M3 C3] 65) = W at *
  clear U0 U1' U2' bb al n3 b1 k1 k2 pr
  go_cut [] from 11 to 23 (fun wd => ∃ x0 a1 l1 c1 a2 l2 c2, wd = ((x0.setCell ⟨w.heap.size + 1 + 1, 0, none⟩ (.bool false)).setCell ⟨w.heap.size + 1 + 1, 1, none⟩ (.slice a1 l1 c1)).setCell ⟨w.heap.size + 1 + 1, 2, none⟩ (.slice a2 l2 c2) ∧ Nn x0 a1 l1 c1 P ∧ Nn x0 a2 l2 c2 Q ∧ Below W.heap.size W x0)
  case first =>
    rename_i hm hJ
    refine wp_region_held (S := fun _ => True) (by kernel_rfl) (any_inv (fun listed a x => ∃ (y0 y1 y2 y3 y4 y5 y6 y7 y8 y9 y10 y11 : Bool) (t11 t12 t13 t14 t15 t16 t17 t18 t19 t20 t21 t22 : Value) (z23 : Value), a = ⟨#[.bool false, .agg #[.slice A1 M1 C1], .agg #[.slice A2 M2 C2], undef, .pointer (some ⟨w.heap.size, 0, none⟩), .pointer (some ⟨w.heap.size + 1, 0, none⟩), .pointer (some ⟨w.heap.size + 1 + 1, 0, none⟩), .pointer (some ⟨Z, 0, none⟩), .agg #[.slice A1 M1 C1], .agg #[.slice A2 M2 C2], .agg #[.slice A3 M3 C3], t11, t12, t13, t14, t15, t16, t17, t18, t19, t20, t21, t22, z23], []⟩ ∧ ((listed = #[y0, y1, y2, y3, y4, y5, y6, y7, y8, y9, y10, y11, false, false] ∧ LO1 W x (.bool false) (.bool false) (.bool false) (.agg #[.slice A1 M1 C1]) (.agg #[.slice A3 M3 C3]) (.agg #[.slice A2 M2 C2]) (.agg #[.slice A3 M3 C3]) (P) (Q) y0 y1 y2 y3 y4 y5 y6 y7 y8 y9 y10 y11 t11 t12 t13 t14 t15 t16 t17 t18 t19 t20 t21 t22 ∧ z23 = undef) ∨ (listed = #[true, true, true, true, true, true, true, true, true, true, true, true, true, false] ∧ ∃ a1 l1 c1 a2 l2 c2, z23 = .agg #[.bool false, .slice a1 l1 c1, .slice a2 l2 c2] ∧ Nn x a1 l1 c1 P ∧ Nn x a2 l2 c2 Q ∧ Below W.heap.size W x) ∨ (listed = #[true, true, true, true, true, true, true, true, true, true, true, true, true, true] ∧ ∃ x0 a1 l1 c1 a2 l2 c2, x = ((x0.setCell ⟨w.heap.size + 1 + 1, 0, none⟩ (.bool false)).setCell ⟨w.heap.size + 1 + 1, 1, none⟩ (.slice a1 l1 c1)).setCell ⟨w.heap.size + 1 + 1, 2, none⟩ (.slice a2 l2 c2) ∧ Nn x0 a1 l1 c1 P ∧ Nn x0 a2 l2 c2 Q ∧ Below W.heap.size W x0))) ?_ ?_ _ _ _ _ (by decide) ?_)
    · rintro listed a x i ⟨y0, y1, y2, y3, y4, y5, y6, y7, y8, y9, y10, y11, t11, t12, t13, t14, t15, t16, t17, t18, t19, t20, t21, t22, z23, rfl, h⟩ hi
      have hr : i < 14 := List.mem_range.1 (List.mem_filter.1 hi).1
      have hc := (List.mem_filter.1 hi).2
      rcases h with ⟨rfl, h⟩ | ⟨rfl, h⟩ | ⟨rfl, h⟩
      · rcases (show i = 0 ∨ i = 1 ∨ i = 2 ∨ i = 3 ∨ i = 4 ∨ i = 5 ∨ i = 6 ∨ i = 7 ∨ i = 8 ∨ i = 9 ∨ i = 10 ∨ i = 11 ∨ i = 12 ∨ i = 13 by omega) with rfl | rfl | rfl | rfl | rfl | rfl | rfl | rfl | rfl | rfl | rfl | rfl | rfl | rfl
        · obtain ⟨h, rfl⟩ := h
          clear hc hi
          refine wpOp_go rfl rfl (fun K hK => ?_)
          go_wp2_with fail
          exact hK.out _ _ ⟨true,_,_,_,_,_,_,_,_,_,_,_,.bool false,_,_,_,_,_,_,_,_,_,_,_,undef,rfl,Or.inl ⟨rfl, ⟨{ h with o0 := fun _ => rfl, d1_0 := fun _ => rfl }, rfl⟩⟩⟩
        · obtain ⟨h, rfl⟩ := h
          have e0 : y0 = true := by revert hc; cases y0 <;> simp [Region.binds]
          have r0 := h.o0 e0; subst r0
          clear hc hi
          refine wpOp_go rfl rfl (fun K hK => ?_)
          go_wp2_with fail
          exact hK.out _ _ ⟨_,true,_,_,_,_,_,_,_,_,_,_,_,.bool false,_,_,_,_,_,_,_,_,_,_,undef,rfl,Or.inl ⟨rfl, ⟨{ h with o1 := fun _ => rfl, d1_0 := fun _ => e0, d5_1 := fun _ => rfl }, rfl⟩⟩⟩
        · obtain ⟨h, rfl⟩ := h
          have e1 : y1 = true := by revert hc; cases y1 <;> simp [Region.binds]
          have r1 := h.o1 e1; subst r1
          clear hc hi
          exact wpOp_skip rfl rfl ⟨y0, y1, true, y3, y4, y5, y6, y7, y8, y9, y10, y11, t11, _, _, t14, t15, t16, t17, t18, t19, t20, t21, t22, undef, rfl, Or.inl ⟨rfl, ⟨{ h with o2 := fun _ => rfl, d3_2 := fun _ => rfl }, rfl⟩⟩⟩
        · obtain ⟨h, rfl⟩ := h
          have e2 : y2 = true := by revert hc; cases y2 <;> simp [Region.binds]
          have e1 : y1 = true := by revert hc; cases y1 <;> simp [Region.binds]
          have r1 := h.o1 e1; subst r1
          clear hc hi
          exact wpOp_skip rfl rfl ⟨y0, y1, y2, true, y4, y5, y6, y7, y8, y9, y10, y11, t11, _, t13, _, t15, t16, t17, t18, t19, t20, t21, t22, undef, rfl, Or.inl ⟨rfl, ⟨{ h with o3 := fun _ => rfl, d3_2 := fun _ => e2, d8_3 := fun _ => rfl }, rfl⟩⟩⟩
        · obtain ⟨h, rfl⟩ := h
          have e1 : y1 = true := by revert hc; cases y1 <;> simp [Region.binds]
          have r1 := h.o1 e1; subst r1
          clear hc hi
          exact wpOp_skip rfl rfl ⟨y0, y1, y2, y3, true, y5, y6, y7, y8, y9, y10, y11, t11, _, t13, t14, _, t16, t17, t18, t19, t20, t21, t22, undef, rfl, Or.inl ⟨rfl, ⟨{ h with o4 := fun _ => rfl, d5_4 := fun _ => rfl }, rfl⟩⟩⟩
        · obtain ⟨h, rfl⟩ := h
          have e1 : y1 = true := by revert hc; cases y1 <;> simp [Region.binds]
          have e4 : y4 = true := by revert hc; cases y4 <;> simp [Region.binds]
          have r1 := h.o1 e1; subst r1
          have r4 := h.o4 e4; subst r4
          clear hc hi
          refine wpOp_go rfl rfl (fun K hK => ?_)
          go_wp2_with fail
          exact hK.out _ _ ⟨_,_,_,_,_,true,_,_,_,_,_,_,_,_,_,_,_,.bool false,_,_,_,_,_,_,undef,rfl,Or.inl ⟨rfl, ⟨{ h with o5 := fun _ => rfl, d5_1 := fun _ => e1, d5_4 := fun _ => e4 }, rfl⟩⟩⟩
        · obtain ⟨h, rfl⟩ := h
          clear hc hi
          have kd := (K1.below h.bel).1
          refine wpOp_go rfl rfl (fun K hK => ?_)
          go_wp2_with fail
          exact hK.out _ _ ⟨_,_,_,_,_,_,true,_,_,_,_,_,_,_,_,_,_,_,.agg #[.slice A1 M1 C1],_,_,_,_,_,undef,rfl,Or.inl ⟨rfl, ⟨{ h with o6 := fun _ => rfl, d8_6 := fun _ => rfl }, rfl⟩⟩⟩
        · obtain ⟨h, rfl⟩ := h
          clear hc hi
          have kd := (KZ.below h.bel).1
          refine wpOp_go rfl rfl (fun K hK => ?_)
          go_wp2_with fail
          exact hK.out _ _ ⟨_,_,_,_,_,_,_,true,_,_,_,_,_,_,_,_,_,_,_,.agg #[.slice A3 M3 C3],_,_,_,_,undef,rfl,Or.inl ⟨rfl, ⟨{ h with o7 := fun _ => rfl, d8_7 := fun _ => rfl }, rfl⟩⟩⟩
        · obtain ⟨h, rfl⟩ := h
          have e3 : y3 = true := by revert hc; cases y3 <;> simp [Region.binds]
          have e6 : y6 = true := by revert hc; cases y6 <;> simp [Region.binds]
          have e7 : y7 = true := by revert hc; cases y7 <;> simp [Region.binds]
          have r6 := h.o6 e6; subst r6
          have r7 := h.o7 e7; subst r7
          clear hc hi
          refine wpOp_go rfl rfl (fun K hK => ?_)
          go_wp2_with (first | (go_at_call 104; go_must (refine (U1 x h.bel).mono ?_; rintro e x2 ⟨a9, l9, c9, rfl, H9, bb⟩)) | fail)
          exact hK.out _ _ ⟨_,_,_,_,_,_,_,_,true,_,_,_,_,_,_,_,_,_,_,_,_,_,_,_,undef,rfl,Or.inl ⟨rfl, ⟨{ h.grow bb with o8 := fun _ => ⟨a9, l9, c9, rfl, H9⟩, d8_3 := fun _ => e3, d8_6 := fun _ => e6, d8_7 := fun _ => e7 }, rfl⟩⟩⟩
        · obtain ⟨h, rfl⟩ := h
          clear hc hi
          have kd := (K2.below h.bel).1
          refine wpOp_go rfl rfl (fun K hK => ?_)
          go_wp2_with fail
          exact hK.out _ _ ⟨_,_,_,_,_,_,_,_,_,true,_,_,_,_,_,_,_,_,_,_,_,.agg #[.slice A2 M2 C2],_,_,undef,rfl,Or.inl ⟨rfl, ⟨{ h with o9 := fun _ => rfl, d11_9 := fun _ => rfl }, rfl⟩⟩⟩
        · obtain ⟨h, rfl⟩ := h
          clear hc hi
          have kd := (KZ.below h.bel).1
          refine wpOp_go rfl rfl (fun K hK => ?_)
          go_wp2_with fail
          exact hK.out _ _ ⟨_,_,_,_,_,_,_,_,_,_,true,_,_,_,_,_,_,_,_,_,_,_,.agg #[.slice A3 M3 C3],_,undef,rfl,Or.inl ⟨rfl, ⟨{ h with o10 := fun _ => rfl, d11_10 := fun _ => rfl }, rfl⟩⟩⟩
        · obtain ⟨h, rfl⟩ := h
          have e9 : y9 = true := by revert hc; cases y9 <;> simp [Region.binds]
          have e10 : y10 = true := by revert hc; cases y10 <;> simp [Region.binds]
          have r9 := h.o9 e9; subst r9
          have r10 := h.o10 e10; subst r10
          clear hc hi
          refine wpOp_go rfl rfl (fun K hK => ?_)
          go_wp2_with (first | (go_at_call 104; go_must (refine (U2 x h.bel).mono ?_; rintro e x2 ⟨a9, l9, c9, rfl, H9, bb⟩)) | fail)
          exact hK.out _ _ ⟨_,_,_,_,_,_,_,_,_,_,_,true,_,_,_,_,_,_,_,_,_,_,_,_,undef,rfl,Or.inl ⟨rfl, ⟨{ h.grow bb with o11 := fun _ => ⟨a9, l9, c9, rfl, H9⟩, d11_9 := fun _ => e9, d11_10 := fun _ => e10 }, rfl⟩⟩⟩
        · obtain ⟨h, rfl⟩ := h
          have e5 : y5 = true := by revert hc; cases y5 <;> simp [Region.binds]
          have e8 : y8 = true := by revert hc; cases y8 <;> simp [Region.binds]
          have e11 : y11 = true := by revert hc; cases y11 <;> simp [Region.binds]
          have e1 := h.d5_1 e5
          have e3 := h.d8_3 e8
          have e4 := h.d5_4 e5
          have e6 := h.d8_6 e8
          have e7 := h.d8_7 e8
          have e9 := h.d11_9 e11
          have e10 := h.d11_10 e11
          have e0 := h.d1_0 e1
          have e2 := h.d3_2 e3
          have r5 := h.o5 e5; subst r5
          obtain ⟨a8, l8, c8, rfl, H8⟩ := h.o8 e8
          obtain ⟨a11, l11, c11, rfl, H11⟩ := h.o11 e11
          clear hc hi
          subst e0 e1 e2 e3 e4 e5 e6 e7 e8 e9 e10 e11
          have bl := h.bel
          clear h
          refine wpOp_go rfl rfl (fun K hK => ?_)
          go_wp2_with fail
          exact hK.out _ _ ⟨true,true,true,true,true,true,true,true,true,true,true,true,_,_,_,_,_,_,_,_,_,_,_,_,_,rfl,Or.inr (Or.inl ⟨rfl, a8, l8, c8, a11, l11, c11, rfl, H8, H11, bl⟩)⟩
        · simp [Region.binds] at hc
      · rcases (show i = 0 ∨ i = 1 ∨ i = 2 ∨ i = 3 ∨ i = 4 ∨ i = 5 ∨ i = 6 ∨ i = 7 ∨ i = 8 ∨ i = 9 ∨ i = 10 ∨ i = 11 ∨ i = 12 ∨ i = 13 by omega) with rfl | rfl | rfl | rfl | rfl | rfl | rfl | rfl | rfl | rfl | rfl | rfl | rfl | rfl
        · simp at hc
        · simp at hc
        · simp at hc
        · simp at hc
        · simp at hc
        · simp at hc
        · simp at hc
        · simp at hc
        · simp at hc
        · simp at hc
        · simp at hc
        · simp at hc
        · simp at hc
        · clear hc hi
          obtain ⟨a1, l1, c1, a2, l2, c2, rfl, H1, H2, bl⟩ := h
          have kr := KR.grow bl
          have kr0 := kr.c0
          have kr1 := kr.c1
          have kr2 := kr.c2
          have kf0 := kr.f0
          have kf1 := kr.f1
          have kf2 := kr.f2
          clear kr
          refine wpOp_go rfl rfl (fun K hK => ?_)
          go_wp2_with fail
          exact hK.out _ _ ⟨true,true,true,true,true,true,true,true,true,true,true,true,_,_,_,_,_,_,_,_,_,_,_,_,_,rfl,Or.inr (Or.inr (⟨rfl, x, a1, l1, c1, a2, l2, c2, rfl, H1, H2, bl⟩))⟩
      · rcases (show i = 0 ∨ i = 1 ∨ i = 2 ∨ i = 3 ∨ i = 4 ∨ i = 5 ∨ i = 6 ∨ i = 7 ∨ i = 8 ∨ i = 9 ∨ i = 10 ∨ i = 11 ∨ i = 12 ∨ i = 13 by omega) with rfl | rfl | rfl | rfl | rfl | rfl | rfl | rfl | rfl | rfl | rfl | rfl | rfl | rfl <;> simp at hc
    · rintro listed a x ⟨y0, y1, y2, y3, y4, y5, y6, y7, y8, y9, y10, y11, t11, t12, t13, t14, t15, t16, t17, t18, t19, t20, t21, t22, z23, rfl, h⟩ hn
      have al := all_listed (by decide +kernel) hn
      rcases h with ⟨rfl, h⟩ | ⟨rfl, h⟩ | ⟨rfl, h⟩
      · have z := al 12 (by decide)
        simp at z
      · have z := al 13 (by decide)
        simp at z
      · obtain ⟨x0, a1, l1, c1, a2, l2, c2, rfl, H1, H2, bl⟩ := h
        refine hJ _ _ ?_
        go_meet
        case rel => exact ⟨x0, a1, l1, c1, a2, l2, c2, rfl, H1, H2, bl⟩
    · exact ⟨false, false, false, false, false, false, false, false, false, false, false, false, undef, undef, undef, undef, undef, undef, undef, undef, undef, undef, undef, undef, undef, rfl, Or.inl ⟨rfl, ⟨{ bel := (Below.refl _ _).drew, o0 := (by intro q; cases q), o1 := (by intro q; cases q), o2 := (by intro q; cases q), o3 := (by intro q; cases q), o4 := (by intro q; cases q), o5 := (by intro q; cases q), o6 := (by intro q; cases q), o7 := (by intro q; cases q), o8 := (by intro q; cases q), o9 := (by intro q; cases q), o10 := (by intro q; cases q), o11 := (by intro q; cases q), d1_0 := (by intro q; cases q), d3_2 := (by intro q; cases q), d5_1 := (by intro q; cases q), d5_4 := (by intro q; cases q), d8_3 := (by intro q; cases q), d8_6 := (by intro q; cases q), d8_7 := (by intro q; cases q), d11_9 := (by intro q; cases q), d11_10 := (by intro q; cases q) }, rfl⟩⟩⟩
  case rest =>
    obtain ⟨x0, a1, l1, c1, a2, l2, c2, rfl, H1, H2, bl⟩ := hcut
    have kr := KR.grow bl
    have q7 := H1.putF (x := .bool false) (y := .slice a1 l1 c1) (z := .slice a2 l2 c2) kr
    have q8 := H2.putF (x := .bool false) (y := .slice a1 l1 c1) (z := .slice a2 l2 c2) kr
    obtain ⟨z0, z1, z2⟩ := kr.put (.bool false) (.slice a1 l1 c1) (.slice a2 l2 c2)
    have bE := bset3 (n := w.heap.size + 1 + 1) (x := .bool false) (y := .slice a1 l1 c1) (z := .slice a2 l2 c2) (bel' pW bl) (by omega)
    go_wp2_with fail
    generalize ((x0.setCell ⟨w.heap.size + 1 + 1, 0, none⟩ (.bool false)).setCell ⟨w.heap.size + 1 + 1, 1, none⟩ (.slice a1 l1 c1)).setCell ⟨w.heap.size + 1 + 1, 2, none⟩ (.slice a2 l2 c2) = WE at *
    exact bodyPost_ret (v := .agg #[.bool false, .slice a1 l1 c1, .slice a2 l2 c2]) (by simp [results, Tryz.results182, go_sem, z0, z1, z2]) rfl ⟨a1, l1, c1, a2, l2, c2, rfl, q7, q8, bE⟩
theorem mk_num (N D : Nat) (h : D ≠ 0) : (mkRat (N : Int) D).num = ((N / Nat.gcd N D : Nat) : Int) ∧ (mkRat (N : Int) D).den = D / Nat.gcd N D := by
  rw [Rat.num_mkRat, Rat.den_mkRat, if_neg h, if_neg h, Nat.gcd_comm]
  simp
theorem Lowest_p (A1 A2 : Option Addr) (M1 C1 M2 C2 N D : Nat) (m : Nat) (w : World) (h1 : Nn w A1 M1 C1 (N : Int)) (h2 : Nn w A2 M2 C2 (D : Int)) (hD : D ≠ 0) (b1 : (N : Int) < pw m) (b2 : (D : Int) < pw m) (hm : m ≤ 1000000) :
    Calls Tryz.prog 182 #[.bool false, .agg #[.slice A1 M1 C1], .agg #[.slice A2 M2 C2]] w fun e w' => ∃ v, e = .returned v ∧ PF w' v (mkRat (N : Int) D) ∧ Below w.heap.size w w' := by
  obtain ⟨e1, e2⟩ := mk_num N D hD
  have g0 : 0 < Nat.gcd N D := Nat.gcd_pos_of_pos_right _ (by omega)
  have eg : (Int.gcd (N : Int) (D : Int) : Int) = ((Nat.gcd N D : Nat) : Int) := by simp [Int.gcd]
  refine (Lowest_raw A1 A2 M1 C1 M2 C2 ((Nat.gcd N D : Nat) : Int) ((N / Nat.gcd N D : Nat) : Int) ((D / Nat.gcd N D : Nat) : Int) w (fun x b => ?_) (fun x a l c b k => ?_) (fun x a l c b k => ?_)).mono ?_
  · have := GCD_n (h1.grow b) (h2.grow b) b1 b2 hm
    rw [eg] at this
    exact this
  · have := by_n (h1.grow b) k b1 (by omega) hm
    rw [← Int.natCast_ediv] at this
    exact this
  · have := by_n (h2.grow b) k b2 (by omega) hm
    rw [← Int.natCast_ediv] at this
    exact this
  · rintro e w' ⟨a, l, c, a', l', c', rfl, n1, n2, b⟩
    exact ⟨_, rfl, ⟨a, l, c, a', l', c', by rw [e1, decide_eq_false (Int.not_lt.2 (Int.natCast_nonneg _))], by rw [e1]; exact n1, by rw [e2]; exact n2⟩, b⟩
end Go.Proofs.YtebilgnmnambnaaGreatDoor.Mo

namespace Go.Proofs.YtebilgnmnambnaaGreatDoor.Mo
open Go.RowKit Tn
structure LO2 (W x : World) (V0 V1 V2 V3 V4 V5 V6 V7 V9 V10 : Value) (N8 N11 : Int) (y0 y1 y2 y3 y4 y5 y6 y7 y8 y9 y10 y11 : Bool) (t11 t12 t13 t14 t15 t16 t17 t18 t19 t20 t21 t22 : Value) : Prop where
  bel : Below W.heap.size W x
  o0 : y0 = true → t11 = V0
  o1 : y1 = true → t12 = V1
  o2 : y2 = true → t13 = V2
  o3 : y3 = true → t14 = V3
  o4 : y4 = true → t15 = V4
  o5 : y5 = true → t16 = V5
  o6 : y6 = true → t17 = V6
  o7 : y7 = true → t18 = V7
  o9 : y9 = true → t20 = V9
  o10 : y10 = true → t21 = V10
  o8 : y8 = true → NV N8 t19 x
  o11 : y11 = true → NV N11 t22 x
  d1_0 : y1 = true → y0 = true
  d3_2 : y3 = true → y2 = true
  d5_1 : y5 = true → y1 = true
  d5_4 : y5 = true → y4 = true
  d8_3 : y8 = true → y3 = true
  d8_6 : y8 = true → y6 = true
  d8_7 : y8 = true → y7 = true
  d11_9 : y11 = true → y9 = true
  d11_10 : y11 = true → y10 = true
theorem LO2.grow {W x x' : World} {V0 V1 V2 V3 V4 V5 V6 V7 V9 V10 : Value} {N8 N11 : Int} {y0 y1 y2 y3 y4 y5 y6 y7 y8 y9 y10 y11 : Bool} {t11 t12 t13 t14 t15 t16 t17 t18 t19 t20 t21 t22 : Value} (h : LO2 W x V0 V1 V2 V3 V4 V5 V6 V7 V9 V10 N8 N11 y0 y1 y2 y3 y4 y5 y6 y7 y8 y9 y10 y11 t11 t12 t13 t14 t15 t16 t17 t18 t19 t20 t21 t22) (b : Below x.heap.size x x') : LO2 W x' V0 V1 V2 V3 V4 V5 V6 V7 V9 V10 N8 N11 y0 y1 y2 y3 y4 y5 y6 y7 y8 y9 y10 y11 t11 t12 t13 t14 t15 t16 t17 t18 t19 t20 t21 t22 where
  bel := bel' h.bel b
  o0 := h.o0
  o1 := h.o1
  o2 := h.o2
  o3 := h.o3
  o4 := h.o4
  o5 := h.o5
  o6 := h.o6
  o7 := h.o7
  o9 := h.o9
  o10 := h.o10
  o8 := fun u => (h.o8 u).grow b
  o11 := fun u => (h.o11 u).grow b
  d1_0 := h.d1_0
  d3_2 := h.d3_2
  d5_1 := h.d5_1
  d5_4 := h.d5_4
  d8_3 := h.d8_3
  d8_6 := h.d8_6
  d8_7 := h.d8_7
  d11_9 := h.d11_9
  d11_10 := h.d11_10
set_option maxHeartbeats 3200000 in
set_option maxRecDepth 100000 in
theorem LowestN_raw (A1 A2 : Option Addr) (M1 C1 M2 C2 : Nat) (G P Q : Int) (z b : Bool) (w : World) (hb : (!z) = b) (IZ' : ∀ x, Below w.heap.size w x → Calls Tryz.prog 48 #[.agg #[.slice A1 M1 C1]] x fun e w' => e = .returned (.bool z) ∧ Below x.heap.size x w')
    (U0 : ∀ x, Below w.heap.size w x → Calls Tryz.prog 103 #[.agg #[.slice A1 M1 C1], .agg #[.slice A2 M2 C2]] x fun e w' => ∃ a l c, e = .returned (.agg #[.slice a l c]) ∧ Nn w' a l c G ∧ Below x.heap.size x w') (U1' : ∀ x a l c, Below w.heap.size w x → Nn x a l c G → Calls Tryz.prog 104 #[.agg #[.slice A1 M1 C1], .agg #[.slice a l c]] x fun e w' => ∃ a l c, e = .returned (.agg #[.slice a l c]) ∧ Nn w' a l c P ∧ Below x.heap.size x w') (U2' : ∀ x a l c, Below w.heap.size w x → Nn x a l c G → Calls Tryz.prog 104 #[.agg #[.slice A2 M2 C2], .agg #[.slice a l c]] x fun e w' => ∃ a l c, e = .returned (.agg #[.slice a l c]) ∧ Nn w' a l c Q ∧ Below x.heap.size x w') :
    Calls Tryz.prog 182 #[.bool true, .agg #[.slice A1 M1 C1], .agg #[.slice A2 M2 C2]] w fun e w' => ∃ a l c a' l' c', e = .returned (.agg #[.bool b, .slice a l c, .slice a' l' c']) ∧ Nn w' a l c P ∧ Nn w' a' l' c' Q ∧ Below w.heap.size w w' := by
  have K1 := ((Bx.new w (.slice A1 M1 C1) 65).alloc (.cells #[.slice A2 M2 C2] 65)).alloc (.cells #[.bool false, .slice none 0 0, .slice none 0 0] 67)
  have K2 := (Bx.new (w.alloc (.cells #[.slice A1 M1 C1] 65)) (.slice A2 M2 C2) 65).alloc (.cells #[.bool false, .slice none 0 0, .slice none 0 0] 67)
  have KR := Rb.new ((w.alloc (.cells #[.slice A1 M1 C1] 65)).alloc (.cells #[.slice A2 M2 C2] 65)) (.bool false) (.slice none 0 0) (.slice none 0 0) 67
  have pr : Below w.heap.size w (((w.alloc (.cells #[.slice A1 M1 C1] 65)).alloc (.cells #[.slice A2 M2 C2] 65)).alloc (.cells #[.bool false, .slice none 0 0, .slice none 0 0] 67)) := (((Below.refl _ _).alloc (Nat.le_refl _) _).alloc (by simp) _).alloc (by simp; omega) _
  simp only [World.size_alloc] at K2 KR
  have k1 := K1.1
  have k2 := K2.1
  go_enter Tryz.func182, Tryz.ntmps182
  go_wp2_with (first
    | (go_at_call 103; refine (U0 _ pr).mono ?_; rintro e w1 ⟨A3, M3, C3, rfl, n3, b1⟩; have al := (Below.refl w1.heap.size w1).alloc (Nat.le_refl _) (.cells #[.slice A3 M3 C3] 65); have KZ := Bx.new w1 (.slice A3 M3 C3) 65; have bb := bel' b1 al; have pW := bel' pr bb)
    | fail)
  replace K1 := K1.below bb
  replace K2 := K2.below bb
  replace KR := KR.grow bb
  have n3' := n3.grow al
  have U1 := fun x b => U1' x A3 M3 C3 (bel' pW b) (n3'.grow b)
  have U2 := fun x b => U2' x A3 M3 C3 (bel' pW b) (n3'.grow b)
  have IZ := fun x b => IZ' x (bel' pW b)
  generalize w1.heap.size = Z at *
  generalize w1.alloc (.cells #[.slice A3 M3 C3] 65) = W at *
  clear U0 U1' U2' IZ' bb al n3 b1 k1 k2 pr
  go_cut [] from 11 to 23 (fun wd => ∃ x0 a1 l1 c1 a2 l2 c2, wd = ((x0.setCell ⟨w.heap.size + 1 + 1, 0, none⟩ (.bool b)).setCell ⟨w.heap.size + 1 + 1, 1, none⟩ (.slice a1 l1 c1)).setCell ⟨w.heap.size + 1 + 1, 2, none⟩ (.slice a2 l2 c2) ∧ Nn x0 a1 l1 c1 P ∧ Nn x0 a2 l2 c2 Q ∧ Below W.heap.size W x0)
  case first =>
    rename_i hm hJ
    refine wp_region_held (S := fun _ => True) (by kernel_rfl) (any_inv (fun listed a x => ∃ (y0 y1 y2 y3 y4 y5 y6 y7 y8 y9 y10 y11 : Bool) (t11 t12 t13 t14 t15 t16 t17 t18 t19 t20 t21 t22 : Value) (z23 : Value), a = ⟨#[.bool true, .agg #[.slice A1 M1 C1], .agg #[.slice A2 M2 C2], undef, .pointer (some ⟨w.heap.size, 0, none⟩), .pointer (some ⟨w.heap.size + 1, 0, none⟩), .pointer (some ⟨w.heap.size + 1 + 1, 0, none⟩), .pointer (some ⟨Z, 0, none⟩), .agg #[.slice A1 M1 C1], .agg #[.slice A2 M2 C2], .agg #[.slice A3 M3 C3], t11, t12, t13, t14, t15, t16, t17, t18, t19, t20, t21, t22, z23], []⟩ ∧ ((listed = #[y0, y1, y2, y3, y4, y5, y6, y7, y8, y9, y10, y11, false, false] ∧ LO2 W x (.bool true) (.bool true) (.agg #[.slice A1 M1 C1]) (.bool z) (.bool b) (.bool b) (.agg #[.slice A1 M1 C1]) (.agg #[.slice A3 M3 C3]) (.agg #[.slice A2 M2 C2]) (.agg #[.slice A3 M3 C3]) (P) (Q) y0 y1 y2 y3 y4 y5 y6 y7 y8 y9 y10 y11 t11 t12 t13 t14 t15 t16 t17 t18 t19 t20 t21 t22 ∧ z23 = undef) ∨ (listed = #[true, true, true, true, true, true, true, true, true, true, true, true, true, false] ∧ ∃ a1 l1 c1 a2 l2 c2, z23 = .agg #[.bool b, .slice a1 l1 c1, .slice a2 l2 c2] ∧ Nn x a1 l1 c1 P ∧ Nn x a2 l2 c2 Q ∧ Below W.heap.size W x) ∨ (listed = #[true, true, true, true, true, true, true, true, true, true, true, true, true, true] ∧ ∃ x0 a1 l1 c1 a2 l2 c2, x = ((x0.setCell ⟨w.heap.size + 1 + 1, 0, none⟩ (.bool b)).setCell ⟨w.heap.size + 1 + 1, 1, none⟩ (.slice a1 l1 c1)).setCell ⟨w.heap.size + 1 + 1, 2, none⟩ (.slice a2 l2 c2) ∧ Nn x0 a1 l1 c1 P ∧ Nn x0 a2 l2 c2 Q ∧ Below W.heap.size W x0))) ?_ ?_ _ _ _ _ (by decide) ?_)
    · rintro listed a x i ⟨y0, y1, y2, y3, y4, y5, y6, y7, y8, y9, y10, y11, t11, t12, t13, t14, t15, t16, t17, t18, t19, t20, t21, t22, z23, rfl, h⟩ hi
      have hr : i < 14 := List.mem_range.1 (List.mem_filter.1 hi).1
      have hc := (List.mem_filter.1 hi).2
      rcases h with ⟨rfl, h⟩ | ⟨rfl, h⟩ | ⟨rfl, h⟩
      · rcases (show i = 0 ∨ i = 1 ∨ i = 2 ∨ i = 3 ∨ i = 4 ∨ i = 5 ∨ i = 6 ∨ i = 7 ∨ i = 8 ∨ i = 9 ∨ i = 10 ∨ i = 11 ∨ i = 12 ∨ i = 13 by omega) with rfl | rfl | rfl | rfl | rfl | rfl | rfl | rfl | rfl | rfl | rfl | rfl | rfl | rfl
        · obtain ⟨h, rfl⟩ := h
          clear hc hi
          refine wpOp_go rfl rfl (fun K hK => ?_)
          go_wp2_with fail
          exact hK.out _ _ ⟨true,_,_,_,_,_,_,_,_,_,_,_,.bool true,_,_,_,_,_,_,_,_,_,_,_,undef,rfl,Or.inl ⟨rfl, ⟨{ h with o0 := fun _ => rfl, d1_0 := fun _ => rfl }, rfl⟩⟩⟩
        · obtain ⟨h, rfl⟩ := h
          have e0 : y0 = true := by revert hc; cases y0 <;> simp [Region.binds]
          have r0 := h.o0 e0; subst r0
          clear hc hi
          refine wpOp_go rfl rfl (fun K hK => ?_)
          go_wp2_with fail
          exact hK.out _ _ ⟨_,true,_,_,_,_,_,_,_,_,_,_,_,.bool true,_,_,_,_,_,_,_,_,_,_,undef,rfl,Or.inl ⟨rfl, ⟨{ h with o1 := fun _ => rfl, d1_0 := fun _ => e0, d5_1 := fun _ => rfl }, rfl⟩⟩⟩
        · obtain ⟨h, rfl⟩ := h
          have e1 : y1 = true := by revert hc; cases y1 <;> simp [Region.binds]
          have r1 := h.o1 e1; subst r1
          clear hc hi
          have kd := (K1.below h.bel).1
          refine wpOp_go rfl rfl (fun K hK => ?_)
          go_wp2_with fail
          exact hK.out _ _ ⟨_,_,true,_,_,_,_,_,_,_,_,_,_,_,.agg #[.slice A1 M1 C1],_,_,_,_,_,_,_,_,_,undef,rfl,Or.inl ⟨rfl, ⟨{ h with o2 := fun _ => rfl, d3_2 := fun _ => rfl }, rfl⟩⟩⟩
        · obtain ⟨h, rfl⟩ := h
          have e1 : y1 = true := by revert hc; cases y1 <;> simp [Region.binds]
          have e2 : y2 = true := by revert hc; cases y2 <;> simp [Region.binds]
          have r1 := h.o1 e1; subst r1
          have r2 := h.o2 e2; subst r2
          clear hc hi
          refine wpOp_go rfl rfl (fun K hK => ?_)
          go_wp2_with (first | (go_at_call 48; go_must (refine (IZ x h.bel).mono ?_; rintro e x2 ⟨rfl, bb⟩)) | fail)
          exact hK.out _ _ ⟨_,_,_,true,_,_,_,_,_,_,_,_,_,_,_,_,_,_,_,_,_,_,_,_,undef,rfl,Or.inl ⟨rfl, ⟨{ h.grow bb with o3 := fun _ => rfl, d3_2 := fun _ => e2, d8_3 := fun _ => rfl }, rfl⟩⟩⟩
        · obtain ⟨h, rfl⟩ := h
          have e1 : y1 = true := by revert hc; cases y1 <;> simp [Region.binds]
          have e3 : y3 = true := by revert hc; cases y3 <;> simp [Region.binds]
          have r1 := h.o1 e1; subst r1
          have r3 := h.o3 e3; subst r3
          clear hc hi
          refine wpOp_go rfl rfl (fun K hK => ?_)
          go_wp2_with fail
          exact hK.out _ _ ⟨_,_,_,_,true,_,_,_,_,_,_,_,_,_,_,_,.bool b,_,_,_,_,_,_,_,undef,rfl,Or.inl ⟨rfl, ⟨{ h with o4 := fun _ => rfl, d5_4 := fun _ => rfl }, rfl⟩⟩⟩
        · obtain ⟨h, rfl⟩ := h
          have e1 : y1 = true := by revert hc; cases y1 <;> simp [Region.binds]
          have e4 : y4 = true := by revert hc; cases y4 <;> simp [Region.binds]
          have r1 := h.o1 e1; subst r1
          have r4 := h.o4 e4; subst r4
          clear hc hi
          refine wpOp_go rfl rfl (fun K hK => ?_)
          go_wp2_with fail
          exact hK.out _ _ ⟨_,_,_,_,_,true,_,_,_,_,_,_,_,_,_,_,_,.bool b,_,_,_,_,_,_,undef,rfl,Or.inl ⟨rfl, ⟨{ h with o5 := fun _ => rfl, d5_1 := fun _ => e1, d5_4 := fun _ => e4 }, rfl⟩⟩⟩
        · obtain ⟨h, rfl⟩ := h
          clear hc hi
          have kd := (K1.below h.bel).1
          refine wpOp_go rfl rfl (fun K hK => ?_)
          go_wp2_with fail
          exact hK.out _ _ ⟨_,_,_,_,_,_,true,_,_,_,_,_,_,_,_,_,_,_,.agg #[.slice A1 M1 C1],_,_,_,_,_,undef,rfl,Or.inl ⟨rfl, ⟨{ h with o6 := fun _ => rfl, d8_6 := fun _ => rfl }, rfl⟩⟩⟩
        · obtain ⟨h, rfl⟩ := h
          clear hc hi
          have kd := (KZ.below h.bel).1
          refine wpOp_go rfl rfl (fun K hK => ?_)
          go_wp2_with fail
          exact hK.out _ _ ⟨_,_,_,_,_,_,_,true,_,_,_,_,_,_,_,_,_,_,_,.agg #[.slice A3 M3 C3],_,_,_,_,undef,rfl,Or.inl ⟨rfl, ⟨{ h with o7 := fun _ => rfl, d8_7 := fun _ => rfl }, rfl⟩⟩⟩
        · obtain ⟨h, rfl⟩ := h
          have e3 : y3 = true := by revert hc; cases y3 <;> simp [Region.binds]
          have e6 : y6 = true := by revert hc; cases y6 <;> simp [Region.binds]
          have e7 : y7 = true := by revert hc; cases y7 <;> simp [Region.binds]
          have r6 := h.o6 e6; subst r6
          have r7 := h.o7 e7; subst r7
          clear hc hi
          refine wpOp_go rfl rfl (fun K hK => ?_)
          go_wp2_with (first | (go_at_call 104; go_must (refine (U1 x h.bel).mono ?_; rintro e x2 ⟨a9, l9, c9, rfl, H9, bb⟩)) | fail)
          exact hK.out _ _ ⟨_,_,_,_,_,_,_,_,true,_,_,_,_,_,_,_,_,_,_,_,_,_,_,_,undef,rfl,Or.inl ⟨rfl, ⟨{ h.grow bb with o8 := fun _ => ⟨a9, l9, c9, rfl, H9⟩, d8_3 := fun _ => e3, d8_6 := fun _ => e6, d8_7 := fun _ => e7 }, rfl⟩⟩⟩
        · obtain ⟨h, rfl⟩ := h
          clear hc hi
          have kd := (K2.below h.bel).1
          refine wpOp_go rfl rfl (fun K hK => ?_)
          go_wp2_with fail
          exact hK.out _ _ ⟨_,_,_,_,_,_,_,_,_,true,_,_,_,_,_,_,_,_,_,_,_,.agg #[.slice A2 M2 C2],_,_,undef,rfl,Or.inl ⟨rfl, ⟨{ h with o9 := fun _ => rfl, d11_9 := fun _ => rfl }, rfl⟩⟩⟩
        · obtain ⟨h, rfl⟩ := h
          clear hc hi
          have kd := (KZ.below h.bel).1
          refine wpOp_go rfl rfl (fun K hK => ?_)
          go_wp2_with fail
          exact hK.out _ _ ⟨_,_,_,_,_,_,_,_,_,_,true,_,_,_,_,_,_,_,_,_,_,_,.agg #[.slice A3 M3 C3],_,undef,rfl,Or.inl ⟨rfl, ⟨{ h with o10 := fun _ => rfl, d11_10 := fun _ => rfl }, rfl⟩⟩⟩
        · obtain ⟨h, rfl⟩ := h
          have e9 : y9 = true := by revert hc; cases y9 <;> simp [Region.binds]
          have e10 : y10 = true := by revert hc; cases y10 <;> simp [Region.binds]
          have r9 := h.o9 e9; subst r9
          have r10 := h.o10 e10; subst r10
          clear hc hi
          refine wpOp_go rfl rfl (fun K hK => ?_)
          go_wp2_with (first | (go_at_call 104; go_must (refine (U2 x h.bel).mono ?_; rintro e x2 ⟨a9, l9, c9, rfl, H9, bb⟩)) | fail)
          exact hK.out _ _ ⟨_,_,_,_,_,_,_,_,_,_,_,true,_,_,_,_,_,_,_,_,_,_,_,_,undef,rfl,Or.inl ⟨rfl, ⟨{ h.grow bb with o11 := fun _ => ⟨a9, l9, c9, rfl, H9⟩, d11_9 := fun _ => e9, d11_10 := fun _ => e10 }, rfl⟩⟩⟩
        · obtain ⟨h, rfl⟩ := h
          have e5 : y5 = true := by revert hc; cases y5 <;> simp [Region.binds]
          have e8 : y8 = true := by revert hc; cases y8 <;> simp [Region.binds]
          have e11 : y11 = true := by revert hc; cases y11 <;> simp [Region.binds]
          have e1 := h.d5_1 e5
          have e3 := h.d8_3 e8
          have e4 := h.d5_4 e5
          have e6 := h.d8_6 e8
          have e7 := h.d8_7 e8
          have e9 := h.d11_9 e11
          have e10 := h.d11_10 e11
          have e0 := h.d1_0 e1
          have e2 := h.d3_2 e3
          have r5 := h.o5 e5; subst r5
          obtain ⟨a8, l8, c8, rfl, H8⟩ := h.o8 e8
          obtain ⟨a11, l11, c11, rfl, H11⟩ := h.o11 e11
          clear hc hi
          subst e0 e1 e2 e3 e4 e5 e6 e7 e8 e9 e10 e11
          have bl := h.bel
          clear h
          refine wpOp_go rfl rfl (fun K hK => ?_)
          go_wp2_with fail
          exact hK.out _ _ ⟨true,true,true,true,true,true,true,true,true,true,true,true,_,_,_,_,_,_,_,_,_,_,_,_,_,rfl,Or.inr (Or.inl ⟨rfl, a8, l8, c8, a11, l11, c11, rfl, H8, H11, bl⟩)⟩
        · simp [Region.binds] at hc
      · rcases (show i = 0 ∨ i = 1 ∨ i = 2 ∨ i = 3 ∨ i = 4 ∨ i = 5 ∨ i = 6 ∨ i = 7 ∨ i = 8 ∨ i = 9 ∨ i = 10 ∨ i = 11 ∨ i = 12 ∨ i = 13 by omega) with rfl | rfl | rfl | rfl | rfl | rfl | rfl | rfl | rfl | rfl | rfl | rfl | rfl | rfl
        · simp at hc
        · simp at hc
        · simp at hc
        · simp at hc
        · simp at hc
        · simp at hc
        · simp at hc
        · simp at hc
        · simp at hc
        · simp at hc
        · simp at hc
        · simp at hc
        · simp at hc
        · clear hc hi
          obtain ⟨a1, l1, c1, a2, l2, c2, rfl, H1, H2, bl⟩ := h
          have kr := KR.grow bl
          have kr0 := kr.c0
          have kr1 := kr.c1
          have kr2 := kr.c2
          have kf0 := kr.f0
          have kf1 := kr.f1
          have kf2 := kr.f2
          clear kr
          refine wpOp_go rfl rfl (fun K hK => ?_)
          go_wp2_with fail
          exact hK.out _ _ ⟨true,true,true,true,true,true,true,true,true,true,true,true,_,_,_,_,_,_,_,_,_,_,_,_,_,rfl,Or.inr (Or.inr (⟨rfl, x, a1, l1, c1, a2, l2, c2, rfl, H1, H2, bl⟩))⟩
      · rcases (show i = 0 ∨ i = 1 ∨ i = 2 ∨ i = 3 ∨ i = 4 ∨ i = 5 ∨ i = 6 ∨ i = 7 ∨ i = 8 ∨ i = 9 ∨ i = 10 ∨ i = 11 ∨ i = 12 ∨ i = 13 by omega) with rfl | rfl | rfl | rfl | rfl | rfl | rfl | rfl | rfl | rfl | rfl | rfl | rfl | rfl <;> simp at hc
    · rintro listed a x ⟨y0, y1, y2, y3, y4, y5, y6, y7, y8, y9, y10, y11, t11, t12, t13, t14, t15, t16, t17, t18, t19, t20, t21, t22, z23, rfl, h⟩ hn
      have al := all_listed (by decide +kernel) hn
      rcases h with ⟨rfl, h⟩ | ⟨rfl, h⟩ | ⟨rfl, h⟩
      · have z := al 12 (by decide)
        simp at z
      · have z := al 13 (by decide)
        simp at z
      · obtain ⟨x0, a1, l1, c1, a2, l2, c2, rfl, H1, H2, bl⟩ := h
        refine hJ _ _ ?_
        go_meet
        case rel => exact ⟨x0, a1, l1, c1, a2, l2, c2, rfl, H1, H2, bl⟩
    · exact ⟨false, false, false, false, false, false, false, false, false, false, false, false, undef, undef, undef, undef, undef, undef, undef, undef, undef, undef, undef, undef, undef, rfl, Or.inl ⟨rfl, ⟨{ bel := (Below.refl _ _).drew, o0 := (by intro q; cases q), o1 := (by intro q; cases q), o2 := (by intro q; cases q), o3 := (by intro q; cases q), o4 := (by intro q; cases q), o5 := (by intro q; cases q), o6 := (by intro q; cases q), o7 := (by intro q; cases q), o8 := (by intro q; cases q), o9 := (by intro q; cases q), o10 := (by intro q; cases q), o11 := (by intro q; cases q), d1_0 := (by intro q; cases q), d3_2 := (by intro q; cases q), d5_1 := (by intro q; cases q), d5_4 := (by intro q; cases q), d8_3 := (by intro q; cases q), d8_6 := (by intro q; cases q), d8_7 := (by intro q; cases q), d11_9 := (by intro q; cases q), d11_10 := (by intro q; cases q) }, rfl⟩⟩⟩
  case rest =>
    obtain ⟨x0, a1, l1, c1, a2, l2, c2, rfl, H1, H2, bl⟩ := hcut
    have kr := KR.grow bl
    have q7 := H1.putF (x := .bool b) (y := .slice a1 l1 c1) (z := .slice a2 l2 c2) kr
    have q8 := H2.putF (x := .bool b) (y := .slice a1 l1 c1) (z := .slice a2 l2 c2) kr
    obtain ⟨z0, z1, z2⟩ := kr.put (.bool b) (.slice a1 l1 c1) (.slice a2 l2 c2)
    have bE := bset3 (n := w.heap.size + 1 + 1) (x := .bool b) (y := .slice a1 l1 c1) (z := .slice a2 l2 c2) (bel' pW bl) (by omega)
    go_wp2_with fail
    generalize ((x0.setCell ⟨w.heap.size + 1 + 1, 0, none⟩ (.bool b)).setCell ⟨w.heap.size + 1 + 1, 1, none⟩ (.slice a1 l1 c1)).setCell ⟨w.heap.size + 1 + 1, 2, none⟩ (.slice a2 l2 c2) = WE at *
    exact bodyPost_ret (v := .agg #[.bool b, .slice a1 l1 c1, .slice a2 l2 c2]) (by simp [results, Tryz.results182, go_sem, z0, z1, z2]) rfl ⟨a1, l1, c1, a2, l2, c2, rfl, q7, q8, bE⟩
theorem mk_neg (N D : Nat) (h : D ≠ 0) : (mkRat (-(N : Int)) D).num = -((N / Nat.gcd N D : Nat) : Int) ∧ (mkRat (-(N : Int)) D).den = D / Nat.gcd N D := by
  rw [Rat.num_mkRat, Rat.den_mkRat, if_neg h, if_neg h, Nat.gcd_comm]
  rw [Int.natAbs_neg, Int.natAbs_natCast]
  refine ⟨?_, rfl⟩
  rw [Int.neg_ediv_of_dvd (Int.natCast_dvd_natCast.2 (Nat.gcd_dvd_left _ _))]
  norm_cast
theorem LowestN_p (A1 A2 : Option Addr) (M1 C1 M2 C2 N D : Nat) (m : Nat) (w : World) (h1 : Nn w A1 M1 C1 (N : Int)) (h2 : Nn w A2 M2 C2 (D : Int)) (hD : D ≠ 0) (b1 : (N : Int) < pw m) (b2 : (D : Int) < pw m) (hm : m ≤ 1000000) :
    Calls Tryz.prog 182 #[.bool true, .agg #[.slice A1 M1 C1], .agg #[.slice A2 M2 C2]] w fun e w' => ∃ v, e = .returned v ∧ PF w' v (mkRat (-(N : Int)) D) ∧ Below w.heap.size w w' := by
  obtain ⟨e1, e2⟩ := mk_neg N D hD
  have g0 : 0 < Nat.gcd N D := Nat.gcd_pos_of_pos_right _ (by omega)
  have eg : (Int.gcd (N : Int) (D : Int) : Int) = ((Nat.gcd N D : Nat) : Int) := by simp [Int.gcd]
  have gl : Nat.gcd N D ≤ N ∨ N = 0 := by
    by_cases z : N = 0
    · exact Or.inr z
    · exact Or.inl (Nat.gcd_le_left _ (Nat.pos_of_ne_zero z))
  refine (LowestN_raw A1 A2 M1 C1 M2 C2 ((Nat.gcd N D : Nat) : Int) ((N / Nat.gcd N D : Nat) : Int) ((D / Nat.gcd N D : Nat) : Int) (decide ((N : Int) = 0)) _ w rfl (fun x b => IsZero_n (h1.grow b)) (fun x b => ?_) (fun x a l c b k => ?_) (fun x a l c b k => ?_)).mono ?_
  · have := GCD_n (h1.grow b) (h2.grow b) b1 b2 hm
    rw [eg] at this
    exact this
  · have := by_n (h1.grow b) k b1 (by omega) hm
    rw [← Int.natCast_ediv] at this
    exact this
  · have := by_n (h2.grow b) k b2 (by omega) hm
    rw [← Int.natCast_ediv] at this
    exact this
  · rintro e w' ⟨a, l, c, a', l', c', rfl, n1, n2, b⟩
    refine ⟨_, rfl, ⟨a, l, c, a', l', c', ?_, by rw [e1, Int.natAbs_neg]; exact n1, by rw [e2]; exact n2⟩, b⟩
    rw [e1]
    congr 3
    rcases gl with gl | gl
    · have : 0 < N / Nat.gcd N D := Nat.div_pos gl g0
      rw [decide_eq_false (by omega), decide_eq_true (by omega)]; rfl
    · rw [gl, decide_eq_true (by rfl), decide_eq_false (by simp)]; rfl
end Go.Proofs.YtebilgnmnambnaaGreatDoor.Mo
