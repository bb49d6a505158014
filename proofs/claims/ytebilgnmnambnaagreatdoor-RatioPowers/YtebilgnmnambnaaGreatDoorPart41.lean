import Derived.Test.YtebilgnmnambnaaGreatDoorPart40
import Derived.Test.YtebilgnmnambnaaGreatDoorPart10
import Derived.Test.YtebilgnmnambnaaGreatDoorPart38
import Derived.Test.YtebilgnmnambnaaGreatDoorPart11
import Derived.Test.YtebilgnmnambnaaGreatDoorPart29
import Derived.Test.YtebilgnmnambnaaGreatDoorPart37

namespace Go.Proofs.YtebilgnmnambnaaGreatDoor.Mo
open Go.RowKit Fu Tn Go.Lib Wt

structure PWN (W x : World) (V0 V1 V2 V3 V4 V5 V6 V7 V8 V9 V11 V12 V13 : Value) (N10 N14 : Int) (y0 y1 y2 y3 y4 y5 y6 y7 y8 y9 y10 y11 y12 y13 y14 : Bool) (t11 t12 t13 t14 t15 t16 t17 t18 t19 t20 t21 t22 t23 t24 t25 : Value) : Prop where
  bel : Below W.heap.size W x
  o0 : y0 = true → t11 = V0
  o1 : y1 = true → t12 = V1
  o2 : y2 = true → t13 = V2
  o3 : y3 = true → t14 = V3
  o4 : y4 = true → t15 = V4
  o5 : y5 = true → t16 = V5
  o6 : y6 = true → t17 = V6
  o7 : y7 = true → t18 = V7
  o8 : y8 = true → t19 = V8
  o9 : y9 = true → t20 = V9
  o11 : y11 = true → t22 = V11
  o12 : y12 = true → t23 = V12
  o13 : y13 = true → t24 = V13
  o10 : y10 = true → NV N10 t21 x
  o14 : y14 = true → NV N14 t25 x
  d1_0 : y1 = true → y0 = true
  d2_1 : y2 = true → y1 = true
  d4_3 : y4 = true → y3 = true
  d5_4 : y5 = true → y4 = true
  d6_2 : y6 = true → y2 = true
  d6_5 : y6 = true → y5 = true
  d8_7 : y8 = true → y7 = true
  d10_8 : y10 = true → y8 = true
  d10_9 : y10 = true → y9 = true
  d12_11 : y12 = true → y11 = true
  d14_12 : y14 = true → y12 = true
  d14_13 : y14 = true → y13 = true
theorem PWN.grow {W x x' : World} {V0 V1 V2 V3 V4 V5 V6 V7 V8 V9 V11 V12 V13 : Value} {N10 N14 : Int} {y0 y1 y2 y3 y4 y5 y6 y7 y8 y9 y10 y11 y12 y13 y14 : Bool} {t11 t12 t13 t14 t15 t16 t17 t18 t19 t20 t21 t22 t23 t24 t25 : Value} (h : PWN W x V0 V1 V2 V3 V4 V5 V6 V7 V8 V9 V11 V12 V13 N10 N14 y0 y1 y2 y3 y4 y5 y6 y7 y8 y9 y10 y11 y12 y13 y14 t11 t12 t13 t14 t15 t16 t17 t18 t19 t20 t21 t22 t23 t24 t25) (b : Below x.heap.size x x') : PWN W x' V0 V1 V2 V3 V4 V5 V6 V7 V8 V9 V11 V12 V13 N10 N14 y0 y1 y2 y3 y4 y5 y6 y7 y8 y9 y10 y11 y12 y13 y14 t11 t12 t13 t14 t15 t16 t17 t18 t19 t20 t21 t22 t23 t24 t25 where
  bel := bel' h.bel b
  o0 := h.o0
  o1 := h.o1
  o2 := h.o2
  o3 := h.o3
  o4 := h.o4
  o5 := h.o5
  o6 := h.o6
  o7 := h.o7
  o8 := h.o8
  o9 := h.o9
  o11 := h.o11
  o12 := h.o12
  o13 := h.o13
  o10 := fun u => (h.o10 u).grow b
  o14 := fun u => (h.o14 u).grow b
  d1_0 := h.d1_0
  d2_1 := h.d2_1
  d4_3 := h.d4_3
  d5_4 := h.d5_4
  d6_2 := h.d6_2
  d6_5 := h.d6_5
  d8_7 := h.d8_7
  d10_8 := h.d10_8
  d10_9 := h.d10_9
  d12_11 := h.d12_11
  d14_12 := h.d14_12
  d14_13 := h.d14_13
set_option maxHeartbeats 3200000 in
set_option maxRecDepth 100000 in
theorem Power_neg (A1 A2 : Option Addr) (M1 C1 M2 C2 : Nat) (m r2 P Q : Int) (b : Bool) (w : World) (m0 : 0 ≤ m) (hr : m.tmod 2 = r2) (hb : (r2 == 1) = b)
    (U1 : ∀ x, Below w.heap.size w x → Calls Tryz.prog 66 #[.agg #[.slice A1 M1 C1], .int .i64 m] x fun e w' => ∃ a l c, e = .returned (.agg #[.slice a l c]) ∧ Nn w' a l c P ∧ Below x.heap.size x w') (U2 : ∀ x, Below w.heap.size w x → Calls Tryz.prog 66 #[.agg #[.slice A2 M2 C2], .int .i64 m] x fun e w' => ∃ a l c, e = .returned (.agg #[.slice a l c]) ∧ Nn w' a l c Q ∧ Below x.heap.size x w') :
    Calls Tryz.prog 50 #[.agg #[.bool true, .slice A1 M1 C1, .slice A2 M2 C2], .int .i64 m] w fun e w' => ∃ a l c a' l' c', e = .returned (.agg #[.bool b, .slice a l c, .slice a' l' c']) ∧ Nn w' a l c P ∧ Nn w' a' l' c' Q ∧ Below w.heap.size w w' := by
  have K0 := (Rb.new w (.bool true) (.slice A1 M1 C1) (.slice A2 M2 C2) 67).alloc (.cells #[.bool false, .slice none 0 0, .slice none 0 0] 67)
  have K1 := Rb.new (w.alloc (.cells #[.bool true, .slice A1 M1 C1, .slice A2 M2 C2] 67)) (.bool false) (.slice none 0 0) (.slice none 0 0) 67
  have pr : Below w.heap.size w ((w.alloc (.cells #[.bool true, .slice A1 M1 C1, .slice A2 M2 C2] 67)).alloc (.cells #[.bool false, .slice none 0 0, .slice none 0 0] 67)) := ((Below.refl _ _).alloc (Nat.le_refl _) _).alloc (by simp) _
  simp only [World.size_alloc] at K1
  replace U1 := fun x b => U1 x (bel' pr b)
  replace U2 := fun x b => U2 x (bel' pr b)
  have hd : decide (m < 0) = false := decide_eq_false (by omega)
  go_enter Tryz.func50, Tryz.ntmps50
  go_upto_if 6 with fail
  generalize (w.alloc (.cells #[.bool true, .slice A1 M1 C1, .slice A2 M2 C2] 67)).alloc (.cells #[.bool false, .slice none 0 0, .slice none 0 0] 67) = W at *
  go_wp2_with fail
  go_cut [] from 11 to 26 (fun wd => ∃ x0 a1 l1 c1 a2 l2 c2, wd = ((x0.setCell ⟨w.heap.size + 1, 0, none⟩ (.bool b)).setCell ⟨w.heap.size + 1, 1, none⟩ (.slice a1 l1 c1)).setCell ⟨w.heap.size + 1, 2, none⟩ (.slice a2 l2 c2) ∧ Nn x0 a1 l1 c1 P ∧ Nn x0 a2 l2 c2 Q ∧ Below W.heap.size W x0)
  case first =>
    rename_i hm hJ
    refine wp_region_held (S := fun _ => True) (by kernel_rfl) (any_inv (fun listed a x => ∃ (y0 y1 y2 y3 y4 y5 y6 y7 y8 y9 y10 y11 y12 y13 y14 : Bool) (t11 t12 t13 t14 t15 t16 t17 t18 t19 t20 t21 t22 t23 t24 t25 : Value) (z26 : Value), a = ⟨#[.agg #[.bool true, .slice A1 M1 C1, .slice A2 M2 C2], .int .i64 m, .pointer (some ⟨w.heap.size, 0, none⟩), undef, .pointer (some ⟨w.heap.size + 1, 0, none⟩), .int .i64 m, .bool false, undef, undef, undef, undef, t11, t12, t13, t14, t15, t16, t17, t18, t19, t20, t21, t22, t23, t24, t25, z26], []⟩ ∧ ((listed = #[y0, y1, y2, y3, y4, y5, y6, y7, y8, y9, y10, y11, y12, y13, y14, false, false] ∧ PWN W x (.pointer (some ⟨w.heap.size, 0, none⟩)) (.bool true) (.bool true) (.int .i64 m) (.int .i64 r2) (.bool b) (.bool b) (.pointer (some ⟨w.heap.size, 1, none⟩)) (.agg #[.slice A1 M1 C1]) (.int .i64 m) (.pointer (some ⟨w.heap.size, 2, none⟩)) (.agg #[.slice A2 M2 C2]) (.int .i64 m) (P) (Q) y0 y1 y2 y3 y4 y5 y6 y7 y8 y9 y10 y11 y12 y13 y14 t11 t12 t13 t14 t15 t16 t17 t18 t19 t20 t21 t22 t23 t24 t25 ∧ z26 = undef) ∨ (listed = #[true, true, true, true, true, true, true, true, true, true, true, true, true, true, true, true, false] ∧ ∃ a1 l1 c1 a2 l2 c2, z26 = .agg #[.bool b, .slice a1 l1 c1, .slice a2 l2 c2] ∧ Nn x a1 l1 c1 P ∧ Nn x a2 l2 c2 Q ∧ Below W.heap.size W x) ∨ (listed = #[true, true, true, true, true, true, true, true, true, true, true, true, true, true, true, true, true] ∧ ∃ x0 a1 l1 c1 a2 l2 c2, x = ((x0.setCell ⟨w.heap.size + 1, 0, none⟩ (.bool b)).setCell ⟨w.heap.size + 1, 1, none⟩ (.slice a1 l1 c1)).setCell ⟨w.heap.size + 1, 2, none⟩ (.slice a2 l2 c2) ∧ Nn x0 a1 l1 c1 P ∧ Nn x0 a2 l2 c2 Q ∧ Below W.heap.size W x0))) ?_ ?_ _ _ _ _ (by decide) ?_)
    · rintro listed a x i ⟨y0, y1, y2, y3, y4, y5, y6, y7, y8, y9, y10, y11, y12, y13, y14, t11, t12, t13, t14, t15, t16, t17, t18, t19, t20, t21, t22, t23, t24, t25, z26, rfl, h⟩ hi
      have hr : i < 17 := List.mem_range.1 (List.mem_filter.1 hi).1
      have hc := (List.mem_filter.1 hi).2
      rcases h with ⟨rfl, h⟩ | ⟨rfl, h⟩ | ⟨rfl, h⟩
      · rcases (show i = 0 ∨ i = 1 ∨ i = 2 ∨ i = 3 ∨ i = 4 ∨ i = 5 ∨ i = 6 ∨ i = 7 ∨ i = 8 ∨ i = 9 ∨ i = 10 ∨ i = 11 ∨ i = 12 ∨ i = 13 ∨ i = 14 ∨ i = 15 ∨ i = 16 by omega) with rfl | rfl | rfl | rfl | rfl | rfl | rfl | rfl | rfl | rfl | rfl | rfl | rfl | rfl | rfl | rfl | rfl
        · obtain ⟨h, rfl⟩ := h
          clear hc hi
          refine wpOp_go rfl rfl (fun K hK => ?_)
          go_wp2_with fail
          exact hK.out _ _ ⟨true,_,_,_,_,_,_,_,_,_,_,_,_,_,_,.pointer (some ⟨w.heap.size, 0, none⟩),_,_,_,_,_,_,_,_,_,_,_,_,_,_,undef,rfl,Or.inl ⟨rfl, ⟨{ h with o0 := fun _ => rfl, d1_0 := fun _ => rfl }, rfl⟩⟩⟩
        · obtain ⟨h, rfl⟩ := h
          have e0 : y0 = true := by revert hc; cases y0 <;> simp [Region.binds]
          have r0 := h.o0 e0; subst r0
          clear hc hi
          have kd := (K0.grow h.bel).c0
          refine wpOp_go rfl rfl (fun K hK => ?_)
          go_wp2_with fail
          exact hK.out _ _ ⟨_,true,_,_,_,_,_,_,_,_,_,_,_,_,_,_,.bool true,_,_,_,_,_,_,_,_,_,_,_,_,_,undef,rfl,Or.inl ⟨rfl, ⟨{ h with o1 := fun _ => rfl, d1_0 := fun _ => e0, d2_1 := fun _ => rfl }, rfl⟩⟩⟩
        · obtain ⟨h, rfl⟩ := h
          have e1 : y1 = true := by revert hc; cases y1 <;> simp [Region.binds]
          have r1 := h.o1 e1; subst r1
          clear hc hi
          refine wpOp_go rfl rfl (fun K hK => ?_)
          go_wp2_with fail
          exact hK.out _ _ ⟨_,_,true,_,_,_,_,_,_,_,_,_,_,_,_,_,_,.bool true,_,_,_,_,_,_,_,_,_,_,_,_,undef,rfl,Or.inl ⟨rfl, ⟨{ h with o2 := fun _ => rfl, d2_1 := fun _ => e1, d6_2 := fun _ => rfl }, rfl⟩⟩⟩
        · obtain ⟨h, rfl⟩ := h
          have e2 : y2 = true := by revert hc; cases y2 <;> simp [Region.binds]
          have r2 := h.o2 e2; subst r2
          clear hc hi
          refine wpOp_go rfl rfl (fun K hK => ?_)
          go_wp2_with fail
          exact hK.out _ _ ⟨_,_,_,true,_,_,_,_,_,_,_,_,_,_,_,_,_,_,.int .i64 m,_,_,_,_,_,_,_,_,_,_,_,undef,rfl,Or.inl ⟨rfl, ⟨{ h with o3 := fun _ => rfl, d4_3 := fun _ => rfl }, rfl⟩⟩⟩
        · obtain ⟨h, rfl⟩ := h
          have e2 : y2 = true := by revert hc; cases y2 <;> simp [Region.binds]
          have e3 : y3 = true := by revert hc; cases y3 <;> simp [Region.binds]
          have r2 := h.o2 e2; subst r2
          have r3 := h.o3 e3; subst r3
          clear hc hi
          refine wpOp_go rfl rfl (fun K hK => ?_)
          go_wp2_with fail
          exact hK.out _ _ ⟨_,_,_,_,true,_,_,_,_,_,_,_,_,_,_,_,_,_,_,.int .i64 r2,_,_,_,_,_,_,_,_,_,_,undef,rfl,Or.inl ⟨rfl, ⟨{ h with o4 := fun _ => rfl, d4_3 := fun _ => e3, d5_4 := fun _ => rfl }, rfl⟩⟩⟩
        · obtain ⟨h, rfl⟩ := h
          have e2 : y2 = true := by revert hc; cases y2 <;> simp [Region.binds]
          have e4 : y4 = true := by revert hc; cases y4 <;> simp [Region.binds]
          have r2 := h.o2 e2; subst r2
          have r4 := h.o4 e4; subst r4
          clear hc hi
          refine wpOp_go rfl rfl (fun K hK => ?_)
          go_wp2_with fail
          exact hK.out _ _ ⟨_,_,_,_,_,true,_,_,_,_,_,_,_,_,_,_,_,_,_,_,.bool b,_,_,_,_,_,_,_,_,_,undef,rfl,Or.inl ⟨rfl, ⟨{ h with o5 := fun _ => rfl, d5_4 := fun _ => e4, d6_5 := fun _ => rfl }, rfl⟩⟩⟩
        · obtain ⟨h, rfl⟩ := h
          have e2 : y2 = true := by revert hc; cases y2 <;> simp [Region.binds]
          have e5 : y5 = true := by revert hc; cases y5 <;> simp [Region.binds]
          have r2 := h.o2 e2; subst r2
          have r5 := h.o5 e5; subst r5
          clear hc hi
          refine wpOp_go rfl rfl (fun K hK => ?_)
          go_wp2_with fail
          exact hK.out _ _ ⟨_,_,_,_,_,_,true,_,_,_,_,_,_,_,_,_,_,_,_,_,_,.bool b,_,_,_,_,_,_,_,_,undef,rfl,Or.inl ⟨rfl, ⟨{ h with o6 := fun _ => rfl, d6_2 := fun _ => e2, d6_5 := fun _ => e5 }, rfl⟩⟩⟩
        · obtain ⟨h, rfl⟩ := h
          clear hc hi
          refine wpOp_go rfl rfl (fun K hK => ?_)
          go_wp2_with fail
          exact hK.out _ _ ⟨_,_,_,_,_,_,_,true,_,_,_,_,_,_,_,_,_,_,_,_,_,_,.pointer (some ⟨w.heap.size, 1, none⟩),_,_,_,_,_,_,_,undef,rfl,Or.inl ⟨rfl, ⟨{ h with o7 := fun _ => rfl, d8_7 := fun _ => rfl }, rfl⟩⟩⟩
        · obtain ⟨h, rfl⟩ := h
          have e7 : y7 = true := by revert hc; cases y7 <;> simp [Region.binds]
          have r7 := h.o7 e7; subst r7
          clear hc hi
          have kd := (K0.grow h.bel).c1
          refine wpOp_go rfl rfl (fun K hK => ?_)
          go_wp2_with fail
          exact hK.out _ _ ⟨_,_,_,_,_,_,_,_,true,_,_,_,_,_,_,_,_,_,_,_,_,_,_,.agg #[.slice A1 M1 C1],_,_,_,_,_,_,undef,rfl,Or.inl ⟨rfl, ⟨{ h with o8 := fun _ => rfl, d8_7 := fun _ => e7, d10_8 := fun _ => rfl }, rfl⟩⟩⟩
        · obtain ⟨h, rfl⟩ := h
          clear hc hi
          refine wpOp_go rfl rfl (fun K hK => ?_)
          go_wp2_with fail
          exact hK.out _ _ ⟨_,_,_,_,_,_,_,_,_,true,_,_,_,_,_,_,_,_,_,_,_,_,_,_,.int .i64 m,_,_,_,_,_,undef,rfl,Or.inl ⟨rfl, ⟨{ h with o9 := fun _ => rfl, d10_9 := fun _ => rfl }, rfl⟩⟩⟩
        · obtain ⟨h, rfl⟩ := h
          have e8 : y8 = true := by revert hc; cases y8 <;> simp [Region.binds]
          have e9 : y9 = true := by revert hc; cases y9 <;> simp [Region.binds]
          have r8 := h.o8 e8; subst r8
          have r9 := h.o9 e9; subst r9
          clear hc hi
          refine wpOp_go rfl rfl (fun K hK => ?_)
          go_wp2_with (first | (go_at_call 66; go_must (refine (U1 x h.bel).mono ?_; rintro e x2 ⟨a9, l9, c9, rfl, H9, bb⟩)) | fail)
          exact hK.out _ _ ⟨_,_,_,_,_,_,_,_,_,_,true,_,_,_,_,_,_,_,_,_,_,_,_,_,_,_,_,_,_,_,undef,rfl,Or.inl ⟨rfl, ⟨{ h.grow bb with o10 := fun _ => ⟨a9, l9, c9, rfl, H9⟩, d10_8 := fun _ => e8, d10_9 := fun _ => e9 }, rfl⟩⟩⟩
        · obtain ⟨h, rfl⟩ := h
          clear hc hi
          refine wpOp_go rfl rfl (fun K hK => ?_)
          go_wp2_with fail
          exact hK.out _ _ ⟨_,_,_,_,_,_,_,_,_,_,_,true,_,_,_,_,_,_,_,_,_,_,_,_,_,_,.pointer (some ⟨w.heap.size, 2, none⟩),_,_,_,undef,rfl,Or.inl ⟨rfl, ⟨{ h with o11 := fun _ => rfl, d12_11 := fun _ => rfl }, rfl⟩⟩⟩
        · obtain ⟨h, rfl⟩ := h
          have e11 : y11 = true := by revert hc; cases y11 <;> simp [Region.binds]
          have r11 := h.o11 e11; subst r11
          clear hc hi
          have kd := (K0.grow h.bel).c2
          refine wpOp_go rfl rfl (fun K hK => ?_)
          go_wp2_with fail
          exact hK.out _ _ ⟨_,_,_,_,_,_,_,_,_,_,_,_,true,_,_,_,_,_,_,_,_,_,_,_,_,_,_,.agg #[.slice A2 M2 C2],_,_,undef,rfl,Or.inl ⟨rfl, ⟨{ h with o12 := fun _ => rfl, d12_11 := fun _ => e11, d14_12 := fun _ => rfl }, rfl⟩⟩⟩
        · obtain ⟨h, rfl⟩ := h
          clear hc hi
          refine wpOp_go rfl rfl (fun K hK => ?_)
          go_wp2_with fail
          exact hK.out _ _ ⟨_,_,_,_,_,_,_,_,_,_,_,_,_,true,_,_,_,_,_,_,_,_,_,_,_,_,_,_,.int .i64 m,_,undef,rfl,Or.inl ⟨rfl, ⟨{ h with o13 := fun _ => rfl, d14_13 := fun _ => rfl }, rfl⟩⟩⟩
        · obtain ⟨h, rfl⟩ := h
          have e12 : y12 = true := by revert hc; cases y12 <;> simp [Region.binds]
          have e13 : y13 = true := by revert hc; cases y13 <;> simp [Region.binds]
          have r12 := h.o12 e12; subst r12
          have r13 := h.o13 e13; subst r13
          clear hc hi
          refine wpOp_go rfl rfl (fun K hK => ?_)
          go_wp2_with (first | (go_at_call 66; go_must (refine (U2 x h.bel).mono ?_; rintro e x2 ⟨a9, l9, c9, rfl, H9, bb⟩)) | fail)
          exact hK.out _ _ ⟨_,_,_,_,_,_,_,_,_,_,_,_,_,_,true,_,_,_,_,_,_,_,_,_,_,_,_,_,_,_,undef,rfl,Or.inl ⟨rfl, ⟨{ h.grow bb with o14 := fun _ => ⟨a9, l9, c9, rfl, H9⟩, d14_12 := fun _ => e12, d14_13 := fun _ => e13 }, rfl⟩⟩⟩
        · obtain ⟨h, rfl⟩ := h
          have e6 : y6 = true := by revert hc; cases y6 <;> simp [Region.binds]
          have e10 : y10 = true := by revert hc; cases y10 <;> simp [Region.binds]
          have e14 : y14 = true := by revert hc; cases y14 <;> simp [Region.binds]
          have e2 := h.d6_2 e6
          have e5 := h.d6_5 e6
          have e8 := h.d10_8 e10
          have e9 := h.d10_9 e10
          have e12 := h.d14_12 e14
          have e13 := h.d14_13 e14
          have e1 := h.d2_1 e2
          have e4 := h.d5_4 e5
          have e7 := h.d8_7 e8
          have e11 := h.d12_11 e12
          have e0 := h.d1_0 e1
          have e3 := h.d4_3 e4
          have r6 := h.o6 e6; subst r6
          obtain ⟨a10, l10, c10, rfl, H10⟩ := h.o10 e10
          obtain ⟨a14, l14, c14, rfl, H14⟩ := h.o14 e14
          clear hc hi
          subst e0 e1 e2 e3 e4 e5 e6 e7 e8 e9 e10 e11 e12 e13 e14
          have bl := h.bel
          clear h
          refine wpOp_go rfl rfl (fun K hK => ?_)
          go_wp2_with fail
          exact hK.out _ _ ⟨true,true,true,true,true,true,true,true,true,true,true,true,true,true,true,_,_,_,_,_,_,_,_,_,_,_,_,_,_,_,_,rfl,Or.inr (Or.inl ⟨rfl, a10, l10, c10, a14, l14, c14, rfl, H10, H14, bl⟩)⟩
        · simp [Region.binds] at hc
      · rcases (show i = 0 ∨ i = 1 ∨ i = 2 ∨ i = 3 ∨ i = 4 ∨ i = 5 ∨ i = 6 ∨ i = 7 ∨ i = 8 ∨ i = 9 ∨ i = 10 ∨ i = 11 ∨ i = 12 ∨ i = 13 ∨ i = 14 ∨ i = 15 ∨ i = 16 by omega) with rfl | rfl | rfl | rfl | rfl | rfl | rfl | rfl | rfl | rfl | rfl | rfl | rfl | rfl | rfl | rfl | rfl
        · simp at hc
        · simp at hc
        · simp at hc
        · simp at hc
        · simp at hc
        · simp at hc
        · simp at hc
        · simp at hc
        · simp at hc
        · simp at hc
        · simp at hc
        · simp at hc
        · simp at hc
        · simp at hc
        · simp at hc
        · simp at hc
        · clear hc hi
          obtain ⟨a1, l1, c1, a2, l2, c2, rfl, H1, H2, bl⟩ := h
          have kr := K1.grow bl
          have kr0 := kr.c0
          have kr1 := kr.c1
          have kr2 := kr.c2
          have kf0 := kr.f0
          have kf1 := kr.f1
          have kf2 := kr.f2
          clear kr
          refine wpOp_go rfl rfl (fun K hK => ?_)
          go_wp2_with fail
          exact hK.out _ _ ⟨true,true,true,true,true,true,true,true,true,true,true,true,true,true,true,_,_,_,_,_,_,_,_,_,_,_,_,_,_,_,_,rfl,Or.inr (Or.inr (⟨rfl, x, a1, l1, c1, a2, l2, c2, rfl, H1, H2, bl⟩))⟩
      · rcases (show i = 0 ∨ i = 1 ∨ i = 2 ∨ i = 3 ∨ i = 4 ∨ i = 5 ∨ i = 6 ∨ i = 7 ∨ i = 8 ∨ i = 9 ∨ i = 10 ∨ i = 11 ∨ i = 12 ∨ i = 13 ∨ i = 14 ∨ i = 15 ∨ i = 16 by omega) with rfl | rfl | rfl | rfl | rfl | rfl | rfl | rfl | rfl | rfl | rfl | rfl | rfl | rfl | rfl | rfl | rfl <;> simp at hc
    · rintro listed a x ⟨y0, y1, y2, y3, y4, y5, y6, y7, y8, y9, y10, y11, y12, y13, y14, t11, t12, t13, t14, t15, t16, t17, t18, t19, t20, t21, t22, t23, t24, t25, z26, rfl, h⟩ hn
      have al := all_listed (by decide +kernel) hn
      rcases h with ⟨rfl, h⟩ | ⟨rfl, h⟩ | ⟨rfl, h⟩
      · have z := al 15 (by decide)
        simp at z
      · have z := al 16 (by decide)
        simp at z
      · obtain ⟨x0, a1, l1, c1, a2, l2, c2, rfl, H1, H2, bl⟩ := h
        refine hJ _ _ ?_
        go_meet
        case rel => exact ⟨x0, a1, l1, c1, a2, l2, c2, rfl, H1, H2, bl⟩
    · exact ⟨false, false, false, false, false, false, false, false, false, false, false, false, false, false, false, undef, undef, undef, undef, undef, undef, undef, undef, undef, undef, undef, undef, undef, undef, undef, undef, rfl, Or.inl ⟨rfl, ⟨{ bel := (Below.refl _ _).drew, o0 := (by intro q; cases q), o1 := (by intro q; cases q), o2 := (by intro q; cases q), o3 := (by intro q; cases q), o4 := (by intro q; cases q), o5 := (by intro q; cases q), o6 := (by intro q; cases q), o7 := (by intro q; cases q), o8 := (by intro q; cases q), o9 := (by intro q; cases q), o10 := (by intro q; cases q), o11 := (by intro q; cases q), o12 := (by intro q; cases q), o13 := (by intro q; cases q), o14 := (by intro q; cases q), d1_0 := (by intro q; cases q), d2_1 := (by intro q; cases q), d4_3 := (by intro q; cases q), d5_4 := (by intro q; cases q), d6_2 := (by intro q; cases q), d6_5 := (by intro q; cases q), d8_7 := (by intro q; cases q), d10_8 := (by intro q; cases q), d10_9 := (by intro q; cases q), d12_11 := (by intro q; cases q), d14_12 := (by intro q; cases q), d14_13 := (by intro q; cases q) }, rfl⟩⟩⟩
  case rest =>
    obtain ⟨x0, a1, l1, c1, a2, l2, c2, rfl, H1, H2, bl⟩ := hcut
    have kr := K1.grow bl
    have q7 := H1.putF (x := .bool b) (y := .slice a1 l1 c1) (z := .slice a2 l2 c2) kr
    have q8 := H2.putF (x := .bool b) (y := .slice a1 l1 c1) (z := .slice a2 l2 c2) kr
    obtain ⟨z0, z1, z2⟩ := kr.put (.bool b) (.slice a1 l1 c1) (.slice a2 l2 c2)
    have bE := bset3 (n := w.heap.size + 1) (x := .bool b) (y := .slice a1 l1 c1) (z := .slice a2 l2 c2) (bel' pr bl) (by omega)
    go_wp2_with fail
    generalize ((x0.setCell ⟨w.heap.size + 1, 0, none⟩ (.bool b)).setCell ⟨w.heap.size + 1, 1, none⟩ (.slice a1 l1 c1)).setCell ⟨w.heap.size + 1, 2, none⟩ (.slice a2 l2 c2) = WE at *
    exact bodyPost_ret (v := .agg #[.bool b, .slice a1 l1 c1, .slice a2 l2 c2]) (by simp [results, Tryz.results50, go_sem, z0, z1, z2]) rfl ⟨a1, l1, c1, a2, l2, c2, rfl, q7, q8, bE⟩
structure PWQ (W x : World) (V0 V1 V2 V3 V4 V5 V6 V7 V8 V9 V11 V12 V13 : Value) (N10 N14 : Int) (y0 y1 y2 y3 y4 y5 y6 y7 y8 y9 y10 y11 y12 y13 y14 : Bool) (t5 t6 t7 t8 t9 t10 t11 t12 t13 t14 t15 t16 t17 t18 t19 : Value) : Prop where
  bel : Below W.heap.size W x
  o0 : y0 = true → t5 = V0
  o1 : y1 = true → t6 = V1
  o2 : y2 = true → t7 = V2
  o3 : y3 = true → t8 = V3
  o4 : y4 = true → t9 = V4
  o5 : y5 = true → t10 = V5
  o6 : y6 = true → t11 = V6
  o7 : y7 = true → t12 = V7
  o8 : y8 = true → t13 = V8
  o9 : y9 = true → t14 = V9
  o11 : y11 = true → t16 = V11
  o12 : y12 = true → t17 = V12
  o13 : y13 = true → t18 = V13
  o10 : y10 = true → NLV N10 t15 x
  o14 : y14 = true → NLV N14 t19 x
  d1_0 : y1 = true → y0 = true
  d2_1 : y2 = true → y1 = true
  d4_3 : y4 = true → y3 = true
  d5_4 : y5 = true → y4 = true
  d6_2 : y6 = true → y2 = true
  d6_5 : y6 = true → y5 = true
  d8_7 : y8 = true → y7 = true
  d10_8 : y10 = true → y8 = true
  d10_9 : y10 = true → y9 = true
  d12_11 : y12 = true → y11 = true
  d14_12 : y14 = true → y12 = true
  d14_13 : y14 = true → y13 = true
theorem PWQ.grow {W x x' : World} {V0 V1 V2 V3 V4 V5 V6 V7 V8 V9 V11 V12 V13 : Value} {N10 N14 : Int} {y0 y1 y2 y3 y4 y5 y6 y7 y8 y9 y10 y11 y12 y13 y14 : Bool} {t5 t6 t7 t8 t9 t10 t11 t12 t13 t14 t15 t16 t17 t18 t19 : Value} (h : PWQ W x V0 V1 V2 V3 V4 V5 V6 V7 V8 V9 V11 V12 V13 N10 N14 y0 y1 y2 y3 y4 y5 y6 y7 y8 y9 y10 y11 y12 y13 y14 t5 t6 t7 t8 t9 t10 t11 t12 t13 t14 t15 t16 t17 t18 t19) (b : Below x.heap.size x x') : PWQ W x' V0 V1 V2 V3 V4 V5 V6 V7 V8 V9 V11 V12 V13 N10 N14 y0 y1 y2 y3 y4 y5 y6 y7 y8 y9 y10 y11 y12 y13 y14 t5 t6 t7 t8 t9 t10 t11 t12 t13 t14 t15 t16 t17 t18 t19 where
  bel := bel' h.bel b
  o0 := h.o0
  o1 := h.o1
  o2 := h.o2
  o3 := h.o3
  o4 := h.o4
  o5 := h.o5
  o6 := h.o6
  o7 := h.o7
  o8 := h.o8
  o9 := h.o9
  o11 := h.o11
  o12 := h.o12
  o13 := h.o13
  o10 := fun u => (h.o10 u).grow b
  o14 := fun u => (h.o14 u).grow b
  d1_0 := h.d1_0
  d2_1 := h.d2_1
  d4_3 := h.d4_3
  d5_4 := h.d5_4
  d6_2 := h.d6_2
  d6_5 := h.d6_5
  d8_7 := h.d8_7
  d10_8 := h.d10_8
  d10_9 := h.d10_9
  d12_11 := h.d12_11
  d14_12 := h.d14_12
  d14_13 := h.d14_13
set_option maxHeartbeats 3200000 in
set_option maxRecDepth 100000 in
theorem QPow_neg (A1 A2 : Option Addr) (M1 C1 M2 C2 : Nat) (m r2 P Q : Int) (b : Bool) (w : World) (hr : m.tmod 2 = r2) (hb : (r2 == 1) = b)
    (U1 : ∀ x, Below w.heap.size w x → Calls Tryz.prog 114 #[.slice A1 M1 C1, .int .i64 m] x fun e w' => ∃ a l c, e = .returned (.slice a l c) ∧ Nl w' a l c P ∧ Below x.heap.size x w') (U2 : ∀ x, Below w.heap.size w x → Calls Tryz.prog 114 #[.slice A2 M2 C2, .int .i64 m] x fun e w' => ∃ a l c, e = .returned (.slice a l c) ∧ Nl w' a l c Q ∧ Below x.heap.size x w') :
    Calls Tryz.prog 56 #[.agg #[.bool true, .slice A1 M1 C1, .slice A2 M2 C2], .int .i64 m] w fun e w' => ∃ a l c a' l' c', e = .returned (.agg #[.bool b, .slice a l c, .slice a' l' c']) ∧ Nl w' a l c P ∧ Nl w' a' l' c' Q ∧ Below w.heap.size w w' := by
  have K0 := (Rb.new w (.bool true) (.slice A1 M1 C1) (.slice A2 M2 C2) 56).alloc (.cells #[.bool false, .slice none 0 0, .slice none 0 0] 56)
  have K1 := Rb.new (w.alloc (.cells #[.bool true, .slice A1 M1 C1, .slice A2 M2 C2] 56)) (.bool false) (.slice none 0 0) (.slice none 0 0) 56
  have pr : Below w.heap.size w ((w.alloc (.cells #[.bool true, .slice A1 M1 C1, .slice A2 M2 C2] 56)).alloc (.cells #[.bool false, .slice none 0 0, .slice none 0 0] 56)) := ((Below.refl _ _).alloc (Nat.le_refl _) _).alloc (by simp) _
  simp only [World.size_alloc] at K1
  replace U1 := fun x b => U1 x (bel' pr b)
  replace U2 := fun x b => U2 x (bel' pr b)
  go_enter Tryz.func56, Tryz.ntmps56
  go_wp2_with fail
  generalize (w.alloc (.cells #[.bool true, .slice A1 M1 C1, .slice A2 M2 C2] 56)).alloc (.cells #[.bool false, .slice none 0 0, .slice none 0 0] 56) = W at *
  go_cut [] from 5 to 20 (fun wd => ∃ x0 a1 l1 c1 a2 l2 c2, wd = ((x0.setCell ⟨w.heap.size + 1, 0, none⟩ (.bool b)).setCell ⟨w.heap.size + 1, 1, none⟩ (.slice a1 l1 c1)).setCell ⟨w.heap.size + 1, 2, none⟩ (.slice a2 l2 c2) ∧ Nl x0 a1 l1 c1 P ∧ Nl x0 a2 l2 c2 Q ∧ Below W.heap.size W x0)
  case first =>
    rename_i hm hJ
    refine wp_region_held (S := fun _ => True) (by kernel_rfl) (any_inv (fun listed a x => ∃ (y0 y1 y2 y3 y4 y5 y6 y7 y8 y9 y10 y11 y12 y13 y14 : Bool) (t5 t6 t7 t8 t9 t10 t11 t12 t13 t14 t15 t16 t17 t18 t19 : Value) (z20 : Value), a = ⟨#[.agg #[.bool true, .slice A1 M1 C1, .slice A2 M2 C2], .int .i64 m, .pointer (some ⟨w.heap.size, 0, none⟩), undef, .pointer (some ⟨w.heap.size + 1, 0, none⟩), t5, t6, t7, t8, t9, t10, t11, t12, t13, t14, t15, t16, t17, t18, t19, z20], []⟩ ∧ ((listed = #[y0, y1, y2, y3, y4, y5, y6, y7, y8, y9, y10, y11, y12, y13, y14, false, false] ∧ PWQ W x (.pointer (some ⟨w.heap.size, 0, none⟩)) (.bool true) (.bool true) (.int .i64 m) (.int .i64 r2) (.bool b) (.bool b) (.pointer (some ⟨w.heap.size, 1, none⟩)) (.slice A1 M1 C1) (.int .i64 m) (.pointer (some ⟨w.heap.size, 2, none⟩)) (.slice A2 M2 C2) (.int .i64 m) (P) (Q) y0 y1 y2 y3 y4 y5 y6 y7 y8 y9 y10 y11 y12 y13 y14 t5 t6 t7 t8 t9 t10 t11 t12 t13 t14 t15 t16 t17 t18 t19 ∧ z20 = undef) ∨ (listed = #[true, true, true, true, true, true, true, true, true, true, true, true, true, true, true, true, false] ∧ ∃ a1 l1 c1 a2 l2 c2, z20 = .agg #[.bool b, .slice a1 l1 c1, .slice a2 l2 c2] ∧ Nl x a1 l1 c1 P ∧ Nl x a2 l2 c2 Q ∧ Below W.heap.size W x) ∨ (listed = #[true, true, true, true, true, true, true, true, true, true, true, true, true, true, true, true, true] ∧ ∃ x0 a1 l1 c1 a2 l2 c2, x = ((x0.setCell ⟨w.heap.size + 1, 0, none⟩ (.bool b)).setCell ⟨w.heap.size + 1, 1, none⟩ (.slice a1 l1 c1)).setCell ⟨w.heap.size + 1, 2, none⟩ (.slice a2 l2 c2) ∧ Nl x0 a1 l1 c1 P ∧ Nl x0 a2 l2 c2 Q ∧ Below W.heap.size W x0))) ?_ ?_ _ _ _ _ (by decide) ?_)
    · rintro listed a x i ⟨y0, y1, y2, y3, y4, y5, y6, y7, y8, y9, y10, y11, y12, y13, y14, t5, t6, t7, t8, t9, t10, t11, t12, t13, t14, t15, t16, t17, t18, t19, z20, rfl, h⟩ hi
      have hr : i < 17 := List.mem_range.1 (List.mem_filter.1 hi).1
      have hc := (List.mem_filter.1 hi).2
      rcases h with ⟨rfl, h⟩ | ⟨rfl, h⟩ | ⟨rfl, h⟩
      · rcases (show i = 0 ∨ i = 1 ∨ i = 2 ∨ i = 3 ∨ i = 4 ∨ i = 5 ∨ i = 6 ∨ i = 7 ∨ i = 8 ∨ i = 9 ∨ i = 10 ∨ i = 11 ∨ i = 12 ∨ i = 13 ∨ i = 14 ∨ i = 15 ∨ i = 16 by omega) with rfl | rfl | rfl | rfl | rfl | rfl | rfl | rfl | rfl | rfl | rfl | rfl | rfl | rfl | rfl | rfl | rfl
        · obtain ⟨h, rfl⟩ := h
          clear hc hi
          refine wpOp_go rfl rfl (fun K hK => ?_)
          go_wp2_with fail
          exact hK.out _ _ ⟨true,_,_,_,_,_,_,_,_,_,_,_,_,_,_,.pointer (some ⟨w.heap.size, 0, none⟩),_,_,_,_,_,_,_,_,_,_,_,_,_,_,undef,rfl,Or.inl ⟨rfl, ⟨{ h with o0 := fun _ => rfl, d1_0 := fun _ => rfl }, rfl⟩⟩⟩
        · obtain ⟨h, rfl⟩ := h
          have e0 : y0 = true := by revert hc; cases y0 <;> simp [Region.binds]
          have r0 := h.o0 e0; subst r0
          clear hc hi
          have kd := (K0.grow h.bel).c0
          refine wpOp_go rfl rfl (fun K hK => ?_)
          go_wp2_with fail
          exact hK.out _ _ ⟨_,true,_,_,_,_,_,_,_,_,_,_,_,_,_,_,.bool true,_,_,_,_,_,_,_,_,_,_,_,_,_,undef,rfl,Or.inl ⟨rfl, ⟨{ h with o1 := fun _ => rfl, d1_0 := fun _ => e0, d2_1 := fun _ => rfl }, rfl⟩⟩⟩
        · obtain ⟨h, rfl⟩ := h
          have e1 : y1 = true := by revert hc; cases y1 <;> simp [Region.binds]
          have r1 := h.o1 e1; subst r1
          clear hc hi
          refine wpOp_go rfl rfl (fun K hK => ?_)
          go_wp2_with fail
          exact hK.out _ _ ⟨_,_,true,_,_,_,_,_,_,_,_,_,_,_,_,_,_,.bool true,_,_,_,_,_,_,_,_,_,_,_,_,undef,rfl,Or.inl ⟨rfl, ⟨{ h with o2 := fun _ => rfl, d2_1 := fun _ => e1, d6_2 := fun _ => rfl }, rfl⟩⟩⟩
        · obtain ⟨h, rfl⟩ := h
          have e2 : y2 = true := by revert hc; cases y2 <;> simp [Region.binds]
          have r2 := h.o2 e2; subst r2
          clear hc hi
          refine wpOp_go rfl rfl (fun K hK => ?_)
          go_wp2_with fail
          exact hK.out _ _ ⟨_,_,_,true,_,_,_,_,_,_,_,_,_,_,_,_,_,_,.int .i64 m,_,_,_,_,_,_,_,_,_,_,_,undef,rfl,Or.inl ⟨rfl, ⟨{ h with o3 := fun _ => rfl, d4_3 := fun _ => rfl }, rfl⟩⟩⟩
        · obtain ⟨h, rfl⟩ := h
          have e2 : y2 = true := by revert hc; cases y2 <;> simp [Region.binds]
          have e3 : y3 = true := by revert hc; cases y3 <;> simp [Region.binds]
          have r2 := h.o2 e2; subst r2
          have r3 := h.o3 e3; subst r3
          clear hc hi
          refine wpOp_go rfl rfl (fun K hK => ?_)
          go_wp2_with fail
          exact hK.out _ _ ⟨_,_,_,_,true,_,_,_,_,_,_,_,_,_,_,_,_,_,_,.int .i64 r2,_,_,_,_,_,_,_,_,_,_,undef,rfl,Or.inl ⟨rfl, ⟨{ h with o4 := fun _ => rfl, d4_3 := fun _ => e3, d5_4 := fun _ => rfl }, rfl⟩⟩⟩
        · obtain ⟨h, rfl⟩ := h
          have e2 : y2 = true := by revert hc; cases y2 <;> simp [Region.binds]
          have e4 : y4 = true := by revert hc; cases y4 <;> simp [Region.binds]
          have r2 := h.o2 e2; subst r2
          have r4 := h.o4 e4; subst r4
          clear hc hi
          refine wpOp_go rfl rfl (fun K hK => ?_)
          go_wp2_with fail
          exact hK.out _ _ ⟨_,_,_,_,_,true,_,_,_,_,_,_,_,_,_,_,_,_,_,_,.bool b,_,_,_,_,_,_,_,_,_,undef,rfl,Or.inl ⟨rfl, ⟨{ h with o5 := fun _ => rfl, d5_4 := fun _ => e4, d6_5 := fun _ => rfl }, rfl⟩⟩⟩
        · obtain ⟨h, rfl⟩ := h
          have e2 : y2 = true := by revert hc; cases y2 <;> simp [Region.binds]
          have e5 : y5 = true := by revert hc; cases y5 <;> simp [Region.binds]
          have r2 := h.o2 e2; subst r2
          have r5 := h.o5 e5; subst r5
          clear hc hi
          refine wpOp_go rfl rfl (fun K hK => ?_)
          go_wp2_with fail
          exact hK.out _ _ ⟨_,_,_,_,_,_,true,_,_,_,_,_,_,_,_,_,_,_,_,_,_,.bool b,_,_,_,_,_,_,_,_,undef,rfl,Or.inl ⟨rfl, ⟨{ h with o6 := fun _ => rfl, d6_2 := fun _ => e2, d6_5 := fun _ => e5 }, rfl⟩⟩⟩
        · obtain ⟨h, rfl⟩ := h
          clear hc hi
          refine wpOp_go rfl rfl (fun K hK => ?_)
          go_wp2_with fail
          exact hK.out _ _ ⟨_,_,_,_,_,_,_,true,_,_,_,_,_,_,_,_,_,_,_,_,_,_,.pointer (some ⟨w.heap.size, 1, none⟩),_,_,_,_,_,_,_,undef,rfl,Or.inl ⟨rfl, ⟨{ h with o7 := fun _ => rfl, d8_7 := fun _ => rfl }, rfl⟩⟩⟩
        · obtain ⟨h, rfl⟩ := h
          have e7 : y7 = true := by revert hc; cases y7 <;> simp [Region.binds]
          have r7 := h.o7 e7; subst r7
          clear hc hi
          have kd := (K0.grow h.bel).c1
          refine wpOp_go rfl rfl (fun K hK => ?_)
          go_wp2_with fail
          exact hK.out _ _ ⟨_,_,_,_,_,_,_,_,true,_,_,_,_,_,_,_,_,_,_,_,_,_,_,.slice A1 M1 C1,_,_,_,_,_,_,undef,rfl,Or.inl ⟨rfl, ⟨{ h with o8 := fun _ => rfl, d8_7 := fun _ => e7, d10_8 := fun _ => rfl }, rfl⟩⟩⟩
        · obtain ⟨h, rfl⟩ := h
          clear hc hi
          refine wpOp_go rfl rfl (fun K hK => ?_)
          go_wp2_with fail
          exact hK.out _ _ ⟨_,_,_,_,_,_,_,_,_,true,_,_,_,_,_,_,_,_,_,_,_,_,_,_,.int .i64 m,_,_,_,_,_,undef,rfl,Or.inl ⟨rfl, ⟨{ h with o9 := fun _ => rfl, d10_9 := fun _ => rfl }, rfl⟩⟩⟩
        · obtain ⟨h, rfl⟩ := h
          have e8 : y8 = true := by revert hc; cases y8 <;> simp [Region.binds]
          have e9 : y9 = true := by revert hc; cases y9 <;> simp [Region.binds]
          have r8 := h.o8 e8; subst r8
          have r9 := h.o9 e9; subst r9
          clear hc hi
          refine wpOp_go rfl rfl (fun K hK => ?_)
          go_wp2_with (first | (go_at_call 114; go_must (refine (U1 x h.bel).mono ?_; rintro e x2 ⟨a9, l9, c9, rfl, H9, bb⟩)) | fail)
          exact hK.out _ _ ⟨_,_,_,_,_,_,_,_,_,_,true,_,_,_,_,_,_,_,_,_,_,_,_,_,_,_,_,_,_,_,undef,rfl,Or.inl ⟨rfl, ⟨{ h.grow bb with o10 := fun _ => ⟨a9, l9, c9, rfl, H9⟩, d10_8 := fun _ => e8, d10_9 := fun _ => e9 }, rfl⟩⟩⟩
        · obtain ⟨h, rfl⟩ := h
          clear hc hi
          refine wpOp_go rfl rfl (fun K hK => ?_)
          go_wp2_with fail
          exact hK.out _ _ ⟨_,_,_,_,_,_,_,_,_,_,_,true,_,_,_,_,_,_,_,_,_,_,_,_,_,_,.pointer (some ⟨w.heap.size, 2, none⟩),_,_,_,undef,rfl,Or.inl ⟨rfl, ⟨{ h with o11 := fun _ => rfl, d12_11 := fun _ => rfl }, rfl⟩⟩⟩
        · obtain ⟨h, rfl⟩ := h
          have e11 : y11 = true := by revert hc; cases y11 <;> simp [Region.binds]
          have r11 := h.o11 e11; subst r11
          clear hc hi
          have kd := (K0.grow h.bel).c2
          refine wpOp_go rfl rfl (fun K hK => ?_)
          go_wp2_with fail
          exact hK.out _ _ ⟨_,_,_,_,_,_,_,_,_,_,_,_,true,_,_,_,_,_,_,_,_,_,_,_,_,_,_,.slice A2 M2 C2,_,_,undef,rfl,Or.inl ⟨rfl, ⟨{ h with o12 := fun _ => rfl, d12_11 := fun _ => e11, d14_12 := fun _ => rfl }, rfl⟩⟩⟩
        · obtain ⟨h, rfl⟩ := h
          clear hc hi
          refine wpOp_go rfl rfl (fun K hK => ?_)
          go_wp2_with fail
          exact hK.out _ _ ⟨_,_,_,_,_,_,_,_,_,_,_,_,_,true,_,_,_,_,_,_,_,_,_,_,_,_,_,_,.int .i64 m,_,undef,rfl,Or.inl ⟨rfl, ⟨{ h with o13 := fun _ => rfl, d14_13 := fun _ => rfl }, rfl⟩⟩⟩
        · obtain ⟨h, rfl⟩ := h
          have e12 : y12 = true := by revert hc; cases y12 <;> simp [Region.binds]
          have e13 : y13 = true := by revert hc; cases y13 <;> simp [Region.binds]
          have r12 := h.o12 e12; subst r12
          have r13 := h.o13 e13; subst r13
          clear hc hi
          refine wpOp_go rfl rfl (fun K hK => ?_)
          go_wp2_with (first | (go_at_call 114; go_must (refine (U2 x h.bel).mono ?_; rintro e x2 ⟨a9, l9, c9, rfl, H9, bb⟩)) | fail)
          exact hK.out _ _ ⟨_,_,_,_,_,_,_,_,_,_,_,_,_,_,true,_,_,_,_,_,_,_,_,_,_,_,_,_,_,_,undef,rfl,Or.inl ⟨rfl, ⟨{ h.grow bb with o14 := fun _ => ⟨a9, l9, c9, rfl, H9⟩, d14_12 := fun _ => e12, d14_13 := fun _ => e13 }, rfl⟩⟩⟩
        · obtain ⟨h, rfl⟩ := h
          have e6 : y6 = true := by revert hc; cases y6 <;> simp [Region.binds]
          have e10 : y10 = true := by revert hc; cases y10 <;> simp [Region.binds]
          have e14 : y14 = true := by revert hc; cases y14 <;> simp [Region.binds]
          have e2 := h.d6_2 e6
          have e5 := h.d6_5 e6
          have e8 := h.d10_8 e10
          have e9 := h.d10_9 e10
          have e12 := h.d14_12 e14
          have e13 := h.d14_13 e14
          have e1 := h.d2_1 e2
          have e4 := h.d5_4 e5
          have e7 := h.d8_7 e8
          have e11 := h.d12_11 e12
          have e0 := h.d1_0 e1
          have e3 := h.d4_3 e4
          have r6 := h.o6 e6; subst r6
          obtain ⟨a10, l10, c10, rfl, H10⟩ := h.o10 e10
          obtain ⟨a14, l14, c14, rfl, H14⟩ := h.o14 e14
          clear hc hi
          subst e0 e1 e2 e3 e4 e5 e6 e7 e8 e9 e10 e11 e12 e13 e14
          have bl := h.bel
          clear h
          refine wpOp_go rfl rfl (fun K hK => ?_)
          go_wp2_with fail
          exact hK.out _ _ ⟨true,true,true,true,true,true,true,true,true,true,true,true,true,true,true,_,_,_,_,_,_,_,_,_,_,_,_,_,_,_,_,rfl,Or.inr (Or.inl ⟨rfl, a10, l10, c10, a14, l14, c14, rfl, H10, H14, bl⟩)⟩
        · simp [Region.binds] at hc
      · rcases (show i = 0 ∨ i = 1 ∨ i = 2 ∨ i = 3 ∨ i = 4 ∨ i = 5 ∨ i = 6 ∨ i = 7 ∨ i = 8 ∨ i = 9 ∨ i = 10 ∨ i = 11 ∨ i = 12 ∨ i = 13 ∨ i = 14 ∨ i = 15 ∨ i = 16 by omega) with rfl | rfl | rfl | rfl | rfl | rfl | rfl | rfl | rfl | rfl | rfl | rfl | rfl | rfl | rfl | rfl | rfl
        · simp at hc
        · simp at hc
        · simp at hc
        · simp at hc
        · simp at hc
        · simp at hc
        · simp at hc
        · simp at hc
        · simp at hc
        · simp at hc
        · simp at hc
        · simp at hc
        · simp at hc
        · simp at hc
        · simp at hc
        · simp at hc
        · clear hc hi
          obtain ⟨a1, l1, c1, a2, l2, c2, rfl, H1, H2, bl⟩ := h
          have kr := K1.grow bl
          have kr0 := kr.c0
          have kr1 := kr.c1
          have kr2 := kr.c2
          have kf0 := kr.f0
          have kf1 := kr.f1
          have kf2 := kr.f2
          clear kr
          refine wpOp_go rfl rfl (fun K hK => ?_)
          go_wp2_with fail
          exact hK.out _ _ ⟨true,true,true,true,true,true,true,true,true,true,true,true,true,true,true,_,_,_,_,_,_,_,_,_,_,_,_,_,_,_,_,rfl,Or.inr (Or.inr (⟨rfl, x, a1, l1, c1, a2, l2, c2, rfl, H1, H2, bl⟩))⟩
      · rcases (show i = 0 ∨ i = 1 ∨ i = 2 ∨ i = 3 ∨ i = 4 ∨ i = 5 ∨ i = 6 ∨ i = 7 ∨ i = 8 ∨ i = 9 ∨ i = 10 ∨ i = 11 ∨ i = 12 ∨ i = 13 ∨ i = 14 ∨ i = 15 ∨ i = 16 by omega) with rfl | rfl | rfl | rfl | rfl | rfl | rfl | rfl | rfl | rfl | rfl | rfl | rfl | rfl | rfl | rfl | rfl <;> simp at hc
    · rintro listed a x ⟨y0, y1, y2, y3, y4, y5, y6, y7, y8, y9, y10, y11, y12, y13, y14, t5, t6, t7, t8, t9, t10, t11, t12, t13, t14, t15, t16, t17, t18, t19, z20, rfl, h⟩ hn
      have al := all_listed (by decide +kernel) hn
      rcases h with ⟨rfl, h⟩ | ⟨rfl, h⟩ | ⟨rfl, h⟩
      · have z := al 15 (by decide)
        simp at z
      · have z := al 16 (by decide)
        simp at z
      · obtain ⟨x0, a1, l1, c1, a2, l2, c2, rfl, H1, H2, bl⟩ := h
        refine hJ _ _ ?_
        go_meet
        case rel => exact ⟨x0, a1, l1, c1, a2, l2, c2, rfl, H1, H2, bl⟩
    · exact ⟨false, false, false, false, false, false, false, false, false, false, false, false, false, false, false, undef, undef, undef, undef, undef, undef, undef, undef, undef, undef, undef, undef, undef, undef, undef, undef, rfl, Or.inl ⟨rfl, ⟨{ bel := (Below.refl _ _).drew, o0 := (by intro q; cases q), o1 := (by intro q; cases q), o2 := (by intro q; cases q), o3 := (by intro q; cases q), o4 := (by intro q; cases q), o5 := (by intro q; cases q), o6 := (by intro q; cases q), o7 := (by intro q; cases q), o8 := (by intro q; cases q), o9 := (by intro q; cases q), o10 := (by intro q; cases q), o11 := (by intro q; cases q), o12 := (by intro q; cases q), o13 := (by intro q; cases q), o14 := (by intro q; cases q), d1_0 := (by intro q; cases q), d2_1 := (by intro q; cases q), d4_3 := (by intro q; cases q), d5_4 := (by intro q; cases q), d6_2 := (by intro q; cases q), d6_5 := (by intro q; cases q), d8_7 := (by intro q; cases q), d10_8 := (by intro q; cases q), d10_9 := (by intro q; cases q), d12_11 := (by intro q; cases q), d14_12 := (by intro q; cases q), d14_13 := (by intro q; cases q) }, rfl⟩⟩⟩
  case rest =>
    obtain ⟨x0, a1, l1, c1, a2, l2, c2, rfl, H1, H2, bl⟩ := hcut
    have kr := K1.grow bl
    have q7 := H1.putF (x := .bool b) (y := .slice a1 l1 c1) (z := .slice a2 l2 c2) kr
    have q8 := H2.putF (x := .bool b) (y := .slice a1 l1 c1) (z := .slice a2 l2 c2) kr
    obtain ⟨z0, z1, z2⟩ := kr.put (.bool b) (.slice a1 l1 c1) (.slice a2 l2 c2)
    have bE := bset3 (n := w.heap.size + 1) (x := .bool b) (y := .slice a1 l1 c1) (z := .slice a2 l2 c2) (bel' pr bl) (by omega)
    go_wp2_with fail
    generalize ((x0.setCell ⟨w.heap.size + 1, 0, none⟩ (.bool b)).setCell ⟨w.heap.size + 1, 1, none⟩ (.slice a1 l1 c1)).setCell ⟨w.heap.size + 1, 2, none⟩ (.slice a2 l2 c2) = WE at *
    exact bodyPost_ret (v := .agg #[.bool b, .slice a1 l1 c1, .slice a2 l2 c2]) (by simp [results, Tryz.results56, go_sem, z0, z1, z2]) rfl ⟨a1, l1, c1, a2, l2, c2, rfl, q7, q8, bE⟩
end Go.Proofs.YtebilgnmnambnaaGreatDoor.Mo

namespace Go.Proofs.YtebilgnmnambnaaGreatDoor.Mo
open Go.RowKit Fu Tn Go.Lib Ip

theorem Bd.ps {r : Rat} {B K : Nat} (h : Bd r B) (hB : B ≤ 64 * K) : PS r K := ⟨lt_64 h.1 hB, lt_64 h.2 hB⟩
theorem Bd.qs {r : Rat} {B K : Nat} (h : Bd r B) (hB : B ≤ 30 * K) : L.QS r K := ⟨lt_30 h.1 hB, lt_30 h.2 hB⟩
end Go.Proofs.YtebilgnmnambnaaGreatDoor.Mo

namespace Go.Proofs.YtebilgnmnambnaaGreatDoor.Mo
open Go.RowKit Fu Tn Go.Lib Ip

theorem PF.putF {w : World} {n : Nat} {v : Value} {r : Rat} {x y z : Value} {g : Bool} {a1 a2 : Option Addr} {n1 c1 n2 c2 : Nat} (h : PF w v r) (R : Rb w n (.bool g) (.slice a1 n1 c1) (.slice a2 n2 c2)) : PF (((w.setCell ⟨n, 0, none⟩ x).setCell ⟨n, 1, none⟩ y).setCell ⟨n, 2, none⟩ z) v r := by
  obtain ⟨a, l, c, a', l', c', e, h1, h2⟩ := h
  exact ⟨a, l, c, a', l', c', e, h1.putF R, h2.putF R⟩
end Go.Proofs.YtebilgnmnambnaaGreatDoor.Mo

namespace Go.Proofs.YtebilgnmnambnaaGreatDoor.Mo
open Go.RowKit Fu Tn Go.Lib Ip

/-- A power, of either sign. -/
def gp (r : Rat) (n : Int) : Rat := if 0 ≤ n then r ^ n.toNat else r⁻¹ ^ (-n).toNat
theorem gp_up (r : Rat) (m : Nat) : gp r (m : Int) = r ^ m := by unfold gp; rw [if_pos (by omega), Int.toNat_natCast]
theorem gp_down (r : Rat) {n : Int} {m : Nat} (h : n < 0) (e : -n = (m : Int)) : gp r n = r⁻¹ ^ m := by unfold gp; rw [if_neg (by omega), e, Int.toNat_natCast]
theorem Bd.gp {r : Rat} {B : Nat} (h : Bd r B) (h0 : r ≠ 0) (n : Int) {M : Nat} (hn : n.natAbs ≤ M) : Bd (gp r n) (B * M + 1) := by
  have q := Nat.mul_le_mul_left B hn
  by_cases c : 0 ≤ n
  · obtain ⟨m, rfl⟩ : ∃ m : Nat, n = m := ⟨n.toNat, by omega⟩
    rw [gp_up]
    exact (h.pow m).mono (by simp at q; omega)
  · obtain ⟨m, hm⟩ : ∃ m : Nat, -n = (m : Int) := ⟨(-n).toNat, by omega⟩
    rw [gp_down r (by omega) hm]
    have e : n.natAbs = m := by omega
    rw [e] at q
    exact ((h.inv h0).pow m).mono (by omega)
/-- What is told: an exact number, or that something is out of its range. -/
def gA (b : Bool) (r : Rat) : Value := if b then .tuple #[wrt r, .int .i64 0] else .tuple #[.agg #[.string ⟨#[]⟩, .string ⟨#[]⟩], .int .i64 1]
/-- What a nominal rate comes to in a part of the year. -/
def ea (k n : Int) : Rat := ((n * 10000000 + k : Int) : Rat) * ((n * 10000000 : Int) : Rat)⁻¹
end Go.Proofs.YtebilgnmnambnaaGreatDoor.Mo

namespace Go.Proofs.YtebilgnmnambnaaGreatDoor.Mo
open Go.RowKit Fu Tn Go.Lib Wt Ip

theorem sign_pow {x : Int} (hx : x < 0) : ∀ n : Nat, (n % 2 = 0 → 0 < x ^ n) ∧ (n % 2 = 1 → x ^ n < 0)
  | 0 => ⟨fun _ => by rw [Int.pow_zero]; decide, fun h => absurd h (by decide)⟩
  | n + 1 => by
    obtain ⟨a, b⟩ := sign_pow hx n
    rw [Int.pow_succ]
    exact ⟨fun h => Int.mul_pos_of_neg_of_neg (b (by omega)) hx, fun h => Int.mul_neg_of_pos_of_neg (a (by omega)) hx⟩
theorem sign_dec {x : Int} (hx : x < 0) (n : Nat) : decide (x ^ n < 0) = (((n % 2 : Nat) : Int) == 1) := by
  obtain ⟨a, b⟩ := sign_pow hx n
  by_cases h : n % 2 = 0
  · rw [h]
    exact (decide_eq_false (by have := a h; omega)).trans rfl
  · have h1 : n % 2 = 1 := by omega
    rw [h1]
    exact (decide_eq_true (b h1)).trans rfl
theorem tmod_two (n : Nat) : ((n : Int)).tmod 2 = ((n % 2 : Nat) : Int) := by
  rw [Int.tmod_eq_emod_of_nonneg (by omega)]
  omega
/-- Power of the program, of any number, upwards. -/
theorem Power_all (v : Value) (r : Rat) (n K : Nat) (w : World) (h : PF w v r) (hn : n < 9223372036854775808) (hs : PS (r ^ n) K) (hK : K ≤ 400000) (hK1 : 1 < pw K) :
    Calls Tryz.prog 50 #[v, .int .i64 (n : Int)] w (Fa (r ^ n) w) := by
  obtain ⟨a, l, c, a', l', c', rfl, k1, k2⟩ := h
  have C : ∀ (a : Option Addr) (l c N : Nat), Nn w a l c (N : Int) → ((N ^ n : Nat) : Int) < pw K → ∀ x, Below w.heap.size w x → Calls Tryz.prog 66 #[.agg #[.slice a l c], .int .i64 (n : Int)] x fun e w' => ∃ a l c, e = .returned (.agg #[.slice a l c]) ∧ Nn w' a l c ((N ^ n : Nat) : Int) ∧ Below x.heap.size x w' :=
    fun a l c N k hb x b => Pow_n a l c N n x (k.grow b) hn hK1 hK hb
  have s1 : ((r.num.natAbs ^ n : Nat) : Int) < pw K := by have := hs.1; rwa [Rat.num_pow, Int.natAbs_pow] at this
  have s2 : ((r.den ^ n : Nat) : Int) < pw K := by have := hs.2; rwa [Rat.den_pow] at this
  by_cases h0 : r.num < 0
  · rw [decide_eq_true h0]
    refine (Power_neg a a' l c l' c' n _ _ _ _ w (by omega) rfl rfl (C a l c _ k1 s1) (C a' l' c' _ k2 s2)).mono ?_
    rintro e w' ⟨p, l, c, p', l', c', rfl, q1, q2, b⟩
    rw [tmod_two]
    exact ⟨_, p, l, c, p', l', c', rfl, ⟨p, l, c, p', l', c', by rw [Rat.num_pow, sign_dec h0], by rw [Rat.num_pow, Int.natAbs_pow]; exact q1, by rw [Rat.den_pow]; exact q2⟩, b⟩
  · rw [decide_eq_false h0]
    refine (Power_raw a a' a a' l c l' c' l c l' c' n n _ _ w (Or.inl ⟨by omega, rfl, ⟨rfl, rfl, rfl⟩, rfl, rfl, rfl⟩) (C a l c _ k1 s1) (C a' l' c' _ k2 s2)).mono ?_
    rintro e w' ⟨p, l, c, p', l', c', rfl, q1, q2, b⟩
    have e0 : decide ((r ^ n).num < 0) = false := by
      rw [Rat.num_pow]
      have := pow_nn (x := r.num) (by omega) n
      exact decide_eq_false (by omega)
    exact ⟨false, p, l, c, p', l', c', rfl, ⟨p, l, c, p', l', c', by rw [e0], by rw [Rat.num_pow, Int.natAbs_pow]; exact q1, by rw [Rat.den_pow]; exact q2⟩, b⟩
/-- Pow of the reference, of any number. -/
theorem QPow_all (v : Value) (r : Rat) (n K : Nat) (w : World) (h : L.IsQ w v r) (hn : n < 9223372036854775808) (hs : L.QS (r ^ n) K) (hK : K ≤ 100000000) (hK1 : 1 < Tl.pw K) :
    Calls Tryz.prog 56 #[v, .int .i64 n] w (Qf (r ^ n) w) := by
  by_cases h0 : r.num < 0
  · obtain ⟨a, l, c, a', l', c', rfl, n1, n2, _⟩ := nl_isq h
    rw [decide_eq_true h0]
    have C : ∀ (a : Option Addr) (l c N : Nat), Nl w a l c (N : Int) → ((N ^ n : Nat) : Int) < Tl.pw K → ∀ x, Below w.heap.size w x → Calls Tryz.prog 114 #[.slice a l c, .int .i64 (n : Int)] x fun e w' => ∃ a l c, e = .returned (.slice a l c) ∧ Nl w' a l c ((N ^ n : Nat) : Int) ∧ Below x.heap.size x w' := by
      intro a l c N k hb x b
      obtain ⟨xs, r1, n1, v1⟩ := k.grow b
      refine (L.Pow_any _ xs n K x r1 n1 hn (lt_npow v1 hb) hK1 (by omega)).mono ?_
      rintro e w' ⟨u, zs, rfl, q1, q2, q3, bb⟩
      obtain ⟨a, c, rfl, _⟩ := q1.2
      exact ⟨a, _, c, rfl, ⟨zs, q1, q2, by rw [q3, v1, ← Int.natCast_pow]⟩, bb⟩
    have s1 : ((r.num.natAbs ^ n : Nat) : Int) < Tl.pw K := by have := hs.1; rwa [Rat.num_pow, Int.natAbs_pow] at this
    have s2 : ((r.den ^ n : Nat) : Int) < Tl.pw K := by have := hs.2; rwa [Rat.den_pow] at this
    refine (QPow_neg a a' l c l' c' n _ _ _ _ w rfl rfl (C a l c _ n1 s1) (C a' l' c' _ n2 s2)).mono ?_
    rintro e w' ⟨p, l, c, p', l', c', rfl, q1, q2, b⟩
    rw [tmod_two, ← sign_dec h0, ← Rat.num_pow]
    exact ⟨_, p, l, c, p', l', c', rfl, isq_nl (by rw [Rat.num_pow, Int.natAbs_pow]; exact q1) (by rw [Rat.den_pow]; exact q2), b⟩
  · exact QPow_q v r n K w h (decide_eq_false h0) hn hs hK hK1
end Go.Proofs.YtebilgnmnambnaaGreatDoor.Mo
