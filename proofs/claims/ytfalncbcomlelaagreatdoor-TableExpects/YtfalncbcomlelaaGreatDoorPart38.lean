import Derived.Test.YtfalncbcomlelaaGreatDoorPart02
import Derived.Test.YtfalncbcomlelaaGreatDoorPart03
import Derived.Test.YtfalncbcomlelaaGreatDoorPart30
import Derived.Deep.DeepCutAuto
import Derived.Deep.RegionHeld3

namespace Go.Proofs.YtfalncbcomlelaaGreatDoor.Ta
open Go.RowKit
open Go.Proofs.YtfalncbcomlelaaGreatDoor.Mo (wpOp_skip undrew)

structure RO3 (W x : World) (V0 V1 V2 V3 V4 V5 V6 V7 V8 V9 V10 V11 V12 V13 V14 V15 V16 V17 V26 : Value) (y0 y1 y2 y3 y4 y5 y6 y7 y8 y9 y10 y11 y12 y13 y14 y15 y16 y17 y18 y19 y20 y21 y22 y23 y24 y25 y26 : Bool) (t5 t6 t7 t8 t9 t10 t11 t12 t13 t14 t15 t16 t17 t18 t19 t20 t21 t22 t23 t24 t25 t26 t27 t28 t29 t30 t31 : Value) : Prop where
  bel : Below W.heap.size W x
  o0 : y0 = true → t5 = V0
  o1 : y1 = true → t6 = V1
  o2 : y2 = true → t7 = V2
  o3 : y3 = true → t8 = V3
  o4 : y4 = true → t9 = V4
  o5 : y5 = true → t10 = V5
  o6 : y6 = true → t11 = V6
  o7 : y7 = true → t12 = V7
  o8 : y8 = true → t13 = V8
  o9 : y9 = true → t14 = V9
  o10 : y10 = true → t15 = V10
  o11 : y11 = true → t16 = V11
  o12 : y12 = true → t17 = V12
  o13 : y13 = true → t18 = V13
  o14 : y14 = true → t19 = V14
  o15 : y15 = true → t20 = V15
  o16 : y16 = true → t21 = V16
  o17 : y17 = true → t22 = V17
  o26 : y26 = true → t31 = V26
  o18 : y18 = true → t23 = undef
  o19 : y19 = true → t24 = undef
  o20 : y20 = true → t25 = undef
  o21 : y21 = true → t26 = undef
  o22 : y22 = true → t27 = undef
  o23 : y23 = true → t28 = undef
  o24 : y24 = true → t29 = undef
  o25 : y25 = true → t30 = undef
theorem RO3.grow {W x x' : World} {V0 V1 V2 V3 V4 V5 V6 V7 V8 V9 V10 V11 V12 V13 V14 V15 V16 V17 V26 : Value} {y0 y1 y2 y3 y4 y5 y6 y7 y8 y9 y10 y11 y12 y13 y14 y15 y16 y17 y18 y19 y20 y21 y22 y23 y24 y25 y26 : Bool} {t5 t6 t7 t8 t9 t10 t11 t12 t13 t14 t15 t16 t17 t18 t19 t20 t21 t22 t23 t24 t25 t26 t27 t28 t29 t30 t31 : Value} (h : RO3 W x V0 V1 V2 V3 V4 V5 V6 V7 V8 V9 V10 V11 V12 V13 V14 V15 V16 V17 V26 y0 y1 y2 y3 y4 y5 y6 y7 y8 y9 y10 y11 y12 y13 y14 y15 y16 y17 y18 y19 y20 y21 y22 y23 y24 y25 y26 t5 t6 t7 t8 t9 t10 t11 t12 t13 t14 t15 t16 t17 t18 t19 t20 t21 t22 t23 t24 t25 t26 t27 t28 t29 t30 t31) (b : Below x.heap.size x x') : RO3 W x' V0 V1 V2 V3 V4 V5 V6 V7 V8 V9 V10 V11 V12 V13 V14 V15 V16 V17 V26 y0 y1 y2 y3 y4 y5 y6 y7 y8 y9 y10 y11 y12 y13 y14 y15 y16 y17 y18 y19 y20 y21 y22 y23 y24 y25 y26 t5 t6 t7 t8 t9 t10 t11 t12 t13 t14 t15 t16 t17 t18 t19 t20 t21 t22 t23 t24 t25 t26 t27 t28 t29 t30 t31 where
  bel := bel' h.bel b
  o0 := h.o0
  o1 := h.o1
  o2 := h.o2
  o3 := h.o3
  o4 := h.o4
  o5 := h.o5
  o6 := h.o6
  o7 := h.o7
  o8 := h.o8
  o9 := h.o9
  o10 := h.o10
  o11 := h.o11
  o12 := h.o12
  o13 := h.o13
  o14 := h.o14
  o15 := h.o15
  o16 := h.o16
  o17 := h.o17
  o26 := h.o26
  o18 := h.o18
  o19 := h.o19
  o20 := h.o20
  o21 := h.o21
  o22 := h.o22
  o23 := h.o23
  o24 := h.o24
  o25 := h.o25
set_option maxRecDepth 100000 in
set_option maxHeartbeats 3200000 in
theorem Of_no3 (s : ByteArray) (f en ys E : Int) (ar : Option Addr) (rl cr : Nat) (vs : Value) (w : World) (G1 : decide (0 ≤ ys) = true) (G2 : decide (f ≤ en) = true) (G3 : decide (en ≤ E) = false) (La : ∀ x, Calls Tryz.prog 90 #[.agg #[.string s, .int .i64 f, .slice ar rl cr, vs]] x fun e w' => e = .returned (.int .i64 E) ∧ Below x.heap.size x w') : Calls Tryz.prog 88 #[.agg #[.string s, .int .i64 f, .slice ar rl cr, vs], .agg #[.int .i64 en, .int .i64 ys]] w fun e w' => e = .returned (.bool false) ∧ Below w.heap.size w w' := by
  have KT := (Blk.new w #[.string s, .int .i64 f, .slice ar rl cr, vs] 46).alloc (.cells #[.int .i64 en, .int .i64 ys] 48)
  have KL := Blk.new (w.alloc (.cells #[.string s, .int .i64 f, .slice ar rl cr, vs] 46)) #[.int .i64 en, .int .i64 ys] 48
  have pr : Below w.heap.size w ((w.alloc (.cells #[.string s, .int .i64 f, .slice ar rl cr, vs] 46)).alloc (.cells #[.int .i64 en, .int .i64 ys] 48)) := ((Below.refl _ _).alloc (Nat.le_refl _) _).alloc (by simp) _
  simp only [World.size_alloc] at KL
  go_enter Tryz.func88, Tryz.ntmps88
  go_wp2_with fail
  generalize (w.alloc (.cells #[.string s, .int .i64 f, .slice ar rl cr, vs] 46)).alloc (.cells #[.int .i64 en, .int .i64 ys] 48) = W at *
  go_cut [4] from 5 to 31 (fun x wd => x = .bool false ∧ Below W.heap.size W wd)
  case first =>
    rename_i hm hJ
    refine wp_region_held (S := fun _ => True) (by kernel_rfl) (any_inv (fun listed a x => ∃ (y0 y1 y2 y3 y4 y5 y6 y7 y8 y9 y10 y11 y12 y13 y14 y15 y16 y17 y18 y19 y20 y21 y22 y23 y24 y25 y26 : Bool) (t5 t6 t7 t8 t9 t10 t11 t12 t13 t14 t15 t16 t17 t18 t19 t20 t21 t22 t23 t24 t25 t26 t27 t28 t29 t30 t31 : Value) (z4 : Value), a = ⟨#[.agg #[.string s, .int .i64 f, .slice ar rl cr, vs], .agg #[.int .i64 en, .int .i64 ys], .pointer (some ⟨w.heap.size, 0, none⟩), .pointer (some ⟨w.heap.size + 1, 0, none⟩), z4, t5, t6, t7, t8, t9, t10, t11, t12, t13, t14, t15, t16, t17, t18, t19, t20, t21, t22, t23, t24, t25, t26, t27, t28, t29, t30, t31], []⟩ ∧ ((listed = #[y0, y1, y2, y3, y4, y5, y6, y7, y8, y9, y10, y11, y12, y13, y14, y15, y16, y17, y18, y19, y20, y21, y22, y23, y24, y25, y26, false] ∧ RO3 W x (.pointer (some ⟨w.heap.size + 1, 1, none⟩)) (.int .i64 ys) (.bool true) (.bool true) (.pointer (some ⟨w.heap.size + 1, 0, none⟩)) (.int .i64 en) (.pointer (some ⟨w.heap.size, 1, none⟩)) (.int .i64 f) (.bool true) (.bool true) (.bool true) (.pointer (some ⟨w.heap.size + 1, 0, none⟩)) (.int .i64 en) (.agg #[.string s, .int .i64 f, .slice ar rl cr, vs]) (.int .i64 E) (.bool false) (.bool false) (.bool false) (.bool false) y0 y1 y2 y3 y4 y5 y6 y7 y8 y9 y10 y11 y12 y13 y14 y15 y16 y17 y18 y19 y20 y21 y22 y23 y24 y25 y26 t5 t6 t7 t8 t9 t10 t11 t12 t13 t14 t15 t16 t17 t18 t19 t20 t21 t22 t23 t24 t25 t26 t27 t28 t29 t30 t31 ∧ z4 = .bool false) ∨ (listed = #[true, true, true, true, true, true, true, true, true, true, true, true, true, true, true, true, true, true, true, true, true, true, true, true, true, true, true, true] ∧ z4 = .bool false ∧ Below W.heap.size W x))) ?_ ?_ _ _ _ _ (by decide) ?_)
    · rintro listed a x i ⟨y0, y1, y2, y3, y4, y5, y6, y7, y8, y9, y10, y11, y12, y13, y14, y15, y16, y17, y18, y19, y20, y21, y22, y23, y24, y25, y26, t5, t6, t7, t8, t9, t10, t11, t12, t13, t14, t15, t16, t17, t18, t19, t20, t21, t22, t23, t24, t25, t26, t27, t28, t29, t30, t31, z4, rfl, h⟩ hi
      have hr : i < 28 := List.mem_range.1 (List.mem_filter.1 hi).1
      have hc := (List.mem_filter.1 hi).2
      rcases h with ⟨rfl, h⟩ | ⟨rfl, h⟩
      · rcases (show i = 0 ∨ i = 1 ∨ i = 2 ∨ i = 3 ∨ i = 4 ∨ i = 5 ∨ i = 6 ∨ i = 7 ∨ i = 8 ∨ i = 9 ∨ i = 10 ∨ i = 11 ∨ i = 12 ∨ i = 13 ∨ i = 14 ∨ i = 15 ∨ i = 16 ∨ i = 17 ∨ i = 18 ∨ i = 19 ∨ i = 20 ∨ i = 21 ∨ i = 22 ∨ i = 23 ∨ i = 24 ∨ i = 25 ∨ i = 26 ∨ i = 27 by omega) with rfl | rfl | rfl | rfl | rfl | rfl | rfl | rfl | rfl | rfl | rfl | rfl | rfl | rfl | rfl | rfl | rfl | rfl | rfl | rfl | rfl | rfl | rfl | rfl | rfl | rfl | rfl | rfl
        · obtain ⟨h, rfl⟩ := h
          clear hc hi
          refine wpOp_go rfl rfl (fun K hK => ?_)
          go_wp2_with fail
          exact hK.out _ _ ⟨true, y1, y2, y3, y4, y5, y6, y7, y8, y9, y10, y11, y12, y13, y14, y15, y16, y17, y18, y19, y20, y21, y22, y23, y24, y25, y26, .pointer (some ⟨w.heap.size + 1, 1, none⟩), t6, t7, t8, t9, t10, t11, t12, t13, t14, t15, t16, t17, t18, t19, t20, t21, t22, t23, t24, t25, t26, t27, t28, t29, t30, t31, .bool false, rfl, Or.inl ⟨rfl, ⟨{ h with o0 := fun _ => rfl }, rfl⟩⟩⟩
        · obtain ⟨h, rfl⟩ := h
          have e0 : y0 = true := by revert hc; cases y0 <;> simp [Region.binds]
          have r0 := h.o0 e0; subst r0
          clear hc hi
          have kd := (KL.below h.bel KL.lt).at 1
          simp at kd
          refine wpOp_go rfl rfl (fun K hK => ?_)
          go_wp2_with fail
          exact hK.out _ _ ⟨y0, true, y2, y3, y4, y5, y6, y7, y8, y9, y10, y11, y12, y13, y14, y15, y16, y17, y18, y19, y20, y21, y22, y23, y24, y25, y26, _, .int .i64 ys, t7, t8, t9, t10, t11, t12, t13, t14, t15, t16, t17, t18, t19, t20, t21, t22, t23, t24, t25, t26, t27, t28, t29, t30, t31, .bool false, rfl, Or.inl ⟨rfl, ⟨{ h with o1 := fun _ => rfl }, rfl⟩⟩⟩
        · obtain ⟨h, rfl⟩ := h
          have e1 : y1 = true := by revert hc; cases y1 <;> simp [Region.binds]
          have r1 := h.o1 e1; subst r1
          clear hc hi
          refine wpOp_go rfl rfl (fun K hK => ?_)
          go_wp2_with fail
          exact hK.out _ _ ⟨y0, y1, true, y3, y4, y5, y6, y7, y8, y9, y10, y11, y12, y13, y14, y15, y16, y17, y18, y19, y20, y21, y22, y23, y24, y25, y26, t5, _, .bool true, t8, t9, t10, t11, t12, t13, t14, t15, t16, t17, t18, t19, t20, t21, t22, t23, t24, t25, t26, t27, t28, t29, t30, t31, .bool false, rfl, Or.inl ⟨rfl, ⟨{ h with o2 := fun _ => rfl }, rfl⟩⟩⟩
        · obtain ⟨h, rfl⟩ := h
          have e2 : y2 = true := by revert hc; cases y2 <;> simp [Region.binds]
          have r2 := h.o2 e2; subst r2
          clear hc hi
          refine wpOp_go rfl rfl (fun K hK => ?_)
          go_wp2_with fail
          exact hK.out _ _ ⟨y0, y1, y2, true, y4, y5, y6, y7, y8, y9, y10, y11, y12, y13, y14, y15, y16, y17, y18, y19, y20, y21, y22, y23, y24, y25, y26, t5, t6, _, .bool true, t9, t10, t11, t12, t13, t14, t15, t16, t17, t18, t19, t20, t21, t22, t23, t24, t25, t26, t27, t28, t29, t30, t31, .bool false, rfl, Or.inl ⟨rfl, ⟨{ h with o3 := fun _ => rfl }, rfl⟩⟩⟩
        · obtain ⟨h, rfl⟩ := h
          have e3 : y3 = true := by revert hc; cases y3 <;> simp [Region.binds]
          have r3 := h.o3 e3; subst r3
          clear hc hi
          refine wpOp_go rfl rfl (fun K hK => ?_)
          go_wp2_with fail
          exact hK.out _ _ ⟨y0, y1, y2, y3, true, y5, y6, y7, y8, y9, y10, y11, y12, y13, y14, y15, y16, y17, y18, y19, y20, y21, y22, y23, y24, y25, y26, t5, t6, t7, _, .pointer (some ⟨w.heap.size + 1, 0, none⟩), t10, t11, t12, t13, t14, t15, t16, t17, t18, t19, t20, t21, t22, t23, t24, t25, t26, t27, t28, t29, t30, t31, .bool false, rfl, Or.inl ⟨rfl, ⟨{ h with o4 := fun _ => rfl }, rfl⟩⟩⟩
        · obtain ⟨h, rfl⟩ := h
          have e3 : y3 = true := by revert hc; cases y3 <;> simp [Region.binds]
          have e4 : y4 = true := by revert hc; cases y4 <;> simp [Region.binds]
          have r3 := h.o3 e3; subst r3
          have r4 := h.o4 e4; subst r4
          clear hc hi
          have kd := (KL.below h.bel KL.lt).at 0
          simp at kd
          refine wpOp_go rfl rfl (fun K hK => ?_)
          go_wp2_with fail
          exact hK.out _ _ ⟨y0, y1, y2, y3, y4, true, y6, y7, y8, y9, y10, y11, y12, y13, y14, y15, y16, y17, y18, y19, y20, y21, y22, y23, y24, y25, y26, t5, t6, t7, _, _, .int .i64 en, t11, t12, t13, t14, t15, t16, t17, t18, t19, t20, t21, t22, t23, t24, t25, t26, t27, t28, t29, t30, t31, .bool false, rfl, Or.inl ⟨rfl, ⟨{ h with o5 := fun _ => rfl }, rfl⟩⟩⟩
        · obtain ⟨h, rfl⟩ := h
          have e3 : y3 = true := by revert hc; cases y3 <;> simp [Region.binds]
          have r3 := h.o3 e3; subst r3
          clear hc hi
          refine wpOp_go rfl rfl (fun K hK => ?_)
          go_wp2_with fail
          exact hK.out _ _ ⟨y0, y1, y2, y3, y4, y5, true, y7, y8, y9, y10, y11, y12, y13, y14, y15, y16, y17, y18, y19, y20, y21, y22, y23, y24, y25, y26, t5, t6, t7, _, t9, t10, .pointer (some ⟨w.heap.size, 1, none⟩), t12, t13, t14, t15, t16, t17, t18, t19, t20, t21, t22, t23, t24, t25, t26, t27, t28, t29, t30, t31, .bool false, rfl, Or.inl ⟨rfl, ⟨{ h with o6 := fun _ => rfl }, rfl⟩⟩⟩
        · obtain ⟨h, rfl⟩ := h
          have e3 : y3 = true := by revert hc; cases y3 <;> simp [Region.binds]
          have e6 : y6 = true := by revert hc; cases y6 <;> simp [Region.binds]
          have r3 := h.o3 e3; subst r3
          have r6 := h.o6 e6; subst r6
          clear hc hi
          have kd := (KT.below h.bel KT.lt).at 1
          simp at kd
          refine wpOp_go rfl rfl (fun K hK => ?_)
          go_wp2_with fail
          exact hK.out _ _ ⟨y0, y1, y2, y3, y4, y5, y6, true, y8, y9, y10, y11, y12, y13, y14, y15, y16, y17, y18, y19, y20, y21, y22, y23, y24, y25, y26, t5, t6, t7, _, t9, t10, _, .int .i64 f, t13, t14, t15, t16, t17, t18, t19, t20, t21, t22, t23, t24, t25, t26, t27, t28, t29, t30, t31, .bool false, rfl, Or.inl ⟨rfl, ⟨{ h with o7 := fun _ => rfl }, rfl⟩⟩⟩
        · obtain ⟨h, rfl⟩ := h
          have e3 : y3 = true := by revert hc; cases y3 <;> simp [Region.binds]
          have e5 : y5 = true := by revert hc; cases y5 <;> simp [Region.binds]
          have e7 : y7 = true := by revert hc; cases y7 <;> simp [Region.binds]
          have r3 := h.o3 e3; subst r3
          have r5 := h.o5 e5; subst r5
          have r7 := h.o7 e7; subst r7
          clear hc hi
          refine wpOp_go rfl rfl (fun K hK => ?_)
          go_wp2_with fail
          exact hK.out _ _ ⟨y0, y1, y2, y3, y4, y5, y6, y7, true, y9, y10, y11, y12, y13, y14, y15, y16, y17, y18, y19, y20, y21, y22, y23, y24, y25, y26, t5, t6, t7, _, t9, _, t11, _, .bool true, t14, t15, t16, t17, t18, t19, t20, t21, t22, t23, t24, t25, t26, t27, t28, t29, t30, t31, .bool false, rfl, Or.inl ⟨rfl, ⟨{ h with o8 := fun _ => rfl }, rfl⟩⟩⟩
        · obtain ⟨h, rfl⟩ := h
          have e3 : y3 = true := by revert hc; cases y3 <;> simp [Region.binds]
          have e8 : y8 = true := by revert hc; cases y8 <;> simp [Region.binds]
          have r3 := h.o3 e3; subst r3
          have r8 := h.o8 e8; subst r8
          clear hc hi
          refine wpOp_go rfl rfl (fun K hK => ?_)
          go_wp2_with fail
          exact hK.out _ _ ⟨y0, y1, y2, y3, y4, y5, y6, y7, y8, true, y10, y11, y12, y13, y14, y15, y16, y17, y18, y19, y20, y21, y22, y23, y24, y25, y26, t5, t6, t7, _, t9, t10, t11, t12, _, .bool true, t15, t16, t17, t18, t19, t20, t21, t22, t23, t24, t25, t26, t27, t28, t29, t30, t31, .bool false, rfl, Or.inl ⟨rfl, ⟨{ h with o9 := fun _ => rfl }, rfl⟩⟩⟩
        · obtain ⟨h, rfl⟩ := h
          have e9 : y9 = true := by revert hc; cases y9 <;> simp [Region.binds]
          have r9 := h.o9 e9; subst r9
          clear hc hi
          refine wpOp_go rfl rfl (fun K hK => ?_)
          go_wp2_with fail
          exact hK.out _ _ ⟨y0, y1, y2, y3, y4, y5, y6, y7, y8, y9, true, y11, y12, y13, y14, y15, y16, y17, y18, y19, y20, y21, y22, y23, y24, y25, y26, t5, t6, t7, t8, t9, t10, t11, t12, t13, _, .bool true, t16, t17, t18, t19, t20, t21, t22, t23, t24, t25, t26, t27, t28, t29, t30, t31, .bool false, rfl, Or.inl ⟨rfl, ⟨{ h with o10 := fun _ => rfl }, rfl⟩⟩⟩
        · obtain ⟨h, rfl⟩ := h
          have e10 : y10 = true := by revert hc; cases y10 <;> simp [Region.binds]
          have r10 := h.o10 e10; subst r10
          clear hc hi
          refine wpOp_go rfl rfl (fun K hK => ?_)
          go_wp2_with fail
          exact hK.out _ _ ⟨y0, y1, y2, y3, y4, y5, y6, y7, y8, y9, y10, true, y12, y13, y14, y15, y16, y17, y18, y19, y20, y21, y22, y23, y24, y25, y26, t5, t6, t7, t8, t9, t10, t11, t12, t13, t14, _, .pointer (some ⟨w.heap.size + 1, 0, none⟩), t17, t18, t19, t20, t21, t22, t23, t24, t25, t26, t27, t28, t29, t30, t31, .bool false, rfl, Or.inl ⟨rfl, ⟨{ h with o11 := fun _ => rfl }, rfl⟩⟩⟩
        · obtain ⟨h, rfl⟩ := h
          have e10 : y10 = true := by revert hc; cases y10 <;> simp [Region.binds]
          have e11 : y11 = true := by revert hc; cases y11 <;> simp [Region.binds]
          have r10 := h.o10 e10; subst r10
          have r11 := h.o11 e11; subst r11
          clear hc hi
          have kd := (KL.below h.bel KL.lt).at 0
          simp at kd
          refine wpOp_go rfl rfl (fun K hK => ?_)
          go_wp2_with fail
          exact hK.out _ _ ⟨y0, y1, y2, y3, y4, y5, y6, y7, y8, y9, y10, y11, true, y13, y14, y15, y16, y17, y18, y19, y20, y21, y22, y23, y24, y25, y26, t5, t6, t7, t8, t9, t10, t11, t12, t13, t14, _, _, .int .i64 en, t18, t19, t20, t21, t22, t23, t24, t25, t26, t27, t28, t29, t30, t31, .bool false, rfl, Or.inl ⟨rfl, ⟨{ h with o12 := fun _ => rfl }, rfl⟩⟩⟩
        · obtain ⟨h, rfl⟩ := h
          have e10 : y10 = true := by revert hc; cases y10 <;> simp [Region.binds]
          have r10 := h.o10 e10; subst r10
          clear hc hi
          have kd0 := (KT.below h.bel KT.lt).at 0
          have kd1 := (KT.below h.bel KT.lt).at 1
          have kd2 := (KT.below h.bel KT.lt).at 2
          have kd3 := (KT.below h.bel KT.lt).at 3
          simp at kd0 kd1 kd2 kd3
          refine wpOp_go rfl rfl (fun K hK => ?_)
          go_wp2_with fail
          exact hK.out _ _ ⟨y0, y1, y2, y3, y4, y5, y6, y7, y8, y9, y10, y11, y12, true, y14, y15, y16, y17, y18, y19, y20, y21, y22, y23, y24, y25, y26, t5, t6, t7, t8, t9, t10, t11, t12, t13, t14, _, t16, t17, .agg #[.string s, .int .i64 f, .slice ar rl cr, vs], t19, t20, t21, t22, t23, t24, t25, t26, t27, t28, t29, t30, t31, .bool false, rfl, Or.inl ⟨rfl, ⟨{ h with o13 := fun _ => rfl }, rfl⟩⟩⟩
        · obtain ⟨h, rfl⟩ := h
          have e10 : y10 = true := by revert hc; cases y10 <;> simp [Region.binds]
          have e13 : y13 = true := by revert hc; cases y13 <;> simp [Region.binds]
          have r10 := h.o10 e10; subst r10
          have r13 := h.o13 e13; subst r13
          clear hc hi
          refine wpOp_go rfl rfl (fun K hK => ?_)
          go_wp2_with (first | (go_at_call 90; go_must (refine (La x).mono ?_; rintro e x2 ⟨rfl, bb⟩)) | fail)
          exact hK.out _ _ ⟨y0, y1, y2, y3, y4, y5, y6, y7, y8, y9, y10, y11, y12, y13, true, y15, y16, y17, y18, y19, y20, y21, y22, y23, y24, y25, y26, t5, t6, t7, t8, t9, t10, t11, t12, t13, t14, _, t16, t17, _, _, t20, t21, t22, t23, t24, t25, t26, t27, t28, t29, t30, t31, .bool false, rfl, Or.inl ⟨rfl, ⟨{ h.grow bb with o14 := fun _ => rfl }, rfl⟩⟩⟩
        · obtain ⟨h, rfl⟩ := h
          have e10 : y10 = true := by revert hc; cases y10 <;> simp [Region.binds]
          have e12 : y12 = true := by revert hc; cases y12 <;> simp [Region.binds]
          have e14 : y14 = true := by revert hc; cases y14 <;> simp [Region.binds]
          have r10 := h.o10 e10; subst r10
          have r12 := h.o12 e12; subst r12
          have r14 := h.o14 e14; subst r14
          clear hc hi
          refine wpOp_go rfl rfl (fun K hK => ?_)
          go_wp2_with fail
          exact hK.out _ _ ⟨y0, y1, y2, y3, y4, y5, y6, y7, y8, y9, y10, y11, y12, y13, y14, true, y16, y17, y18, y19, y20, y21, y22, y23, y24, y25, y26, t5, t6, t7, t8, t9, t10, t11, t12, t13, t14, _, t16, _, t18, _, .bool false, t21, t22, t23, t24, t25, t26, t27, t28, t29, t30, t31, .bool false, rfl, Or.inl ⟨rfl, ⟨{ h with o15 := fun _ => rfl }, rfl⟩⟩⟩
        · obtain ⟨h, rfl⟩ := h
          have e10 : y10 = true := by revert hc; cases y10 <;> simp [Region.binds]
          have e15 : y15 = true := by revert hc; cases y15 <;> simp [Region.binds]
          have r10 := h.o10 e10; subst r10
          have r15 := h.o15 e15; subst r15
          clear hc hi
          refine wpOp_go rfl rfl (fun K hK => ?_)
          go_wp2_with fail
          exact hK.out _ _ ⟨y0, y1, y2, y3, y4, y5, y6, y7, y8, y9, y10, y11, y12, y13, y14, y15, true, y17, y18, y19, y20, y21, y22, y23, y24, y25, y26, t5, t6, t7, t8, t9, t10, t11, t12, t13, t14, _, t16, t17, t18, t19, _, .bool false, t22, t23, t24, t25, t26, t27, t28, t29, t30, t31, .bool false, rfl, Or.inl ⟨rfl, ⟨{ h with o16 := fun _ => rfl }, rfl⟩⟩⟩
        · obtain ⟨h, rfl⟩ := h
          have e16 : y16 = true := by revert hc; cases y16 <;> simp [Region.binds]
          have r16 := h.o16 e16; subst r16
          clear hc hi
          refine wpOp_go rfl rfl (fun K hK => ?_)
          go_wp2_with fail
          exact hK.out _ _ ⟨y0, y1, y2, y3, y4, y5, y6, y7, y8, y9, y10, y11, y12, y13, y14, y15, y16, true, y18, y19, y20, y21, y22, y23, y24, y25, y26, t5, t6, t7, t8, t9, t10, t11, t12, t13, t14, t15, t16, t17, t18, t19, t20, _, .bool false, t23, t24, t25, t26, t27, t28, t29, t30, t31, .bool false, rfl, Or.inl ⟨rfl, ⟨{ h with o17 := fun _ => rfl }, rfl⟩⟩⟩
        · obtain ⟨h, rfl⟩ := h
          have e17 : y17 = true := by revert hc; cases y17 <;> simp [Region.binds]
          have r17 := h.o17 e17; subst r17
          clear hc hi
          exact wpOp_skip rfl rfl ⟨y0, y1, y2, y3, y4, y5, y6, y7, y8, y9, y10, y11, y12, y13, y14, y15, y16, y17, true, y19, y20, y21, y22, y23, y24, y25, y26, t5, t6, t7, t8, t9, t10, t11, t12, t13, t14, t15, t16, t17, t18, t19, t20, t21, _, _, t24, t25, t26, t27, t28, t29, t30, t31, .bool false, rfl, Or.inl ⟨rfl, ⟨{ h with o18 := fun _ => rfl }, rfl⟩⟩⟩
        · obtain ⟨h, rfl⟩ := h
          have e17 : y17 = true := by revert hc; cases y17 <;> simp [Region.binds]
          have r17 := h.o17 e17; subst r17
          clear hc hi
          exact wpOp_skip rfl rfl ⟨y0, y1, y2, y3, y4, y5, y6, y7, y8, y9, y10, y11, y12, y13, y14, y15, y16, y17, y18, true, y20, y21, y22, y23, y24, y25, y26, t5, t6, t7, t8, t9, t10, t11, t12, t13, t14, t15, t16, t17, t18, t19, t20, t21, _, t23, _, t25, t26, t27, t28, t29, t30, t31, .bool false, rfl, Or.inl ⟨rfl, ⟨{ h with o19 := fun _ => rfl }, rfl⟩⟩⟩
        · obtain ⟨h, rfl⟩ := h
          have e17 : y17 = true := by revert hc; cases y17 <;> simp [Region.binds]
          have r17 := h.o17 e17; subst r17
          clear hc hi
          exact wpOp_skip rfl rfl ⟨y0, y1, y2, y3, y4, y5, y6, y7, y8, y9, y10, y11, y12, y13, y14, y15, y16, y17, y18, y19, true, y21, y22, y23, y24, y25, y26, t5, t6, t7, t8, t9, t10, t11, t12, t13, t14, t15, t16, t17, t18, t19, t20, t21, _, t23, t24, _, t26, t27, t28, t29, t30, t31, .bool false, rfl, Or.inl ⟨rfl, ⟨{ h with o20 := fun _ => rfl }, rfl⟩⟩⟩
        · obtain ⟨h, rfl⟩ := h
          have e17 : y17 = true := by revert hc; cases y17 <;> simp [Region.binds]
          have r17 := h.o17 e17; subst r17
          clear hc hi
          exact wpOp_skip rfl rfl ⟨y0, y1, y2, y3, y4, y5, y6, y7, y8, y9, y10, y11, y12, y13, y14, y15, y16, y17, y18, y19, y20, true, y22, y23, y24, y25, y26, t5, t6, t7, t8, t9, t10, t11, t12, t13, t14, t15, t16, t17, t18, t19, t20, t21, _, t23, t24, t25, _, t27, t28, t29, t30, t31, .bool false, rfl, Or.inl ⟨rfl, ⟨{ h with o21 := fun _ => rfl }, rfl⟩⟩⟩
        · obtain ⟨h, rfl⟩ := h
          have e17 : y17 = true := by revert hc; cases y17 <;> simp [Region.binds]
          have r17 := h.o17 e17; subst r17
          clear hc hi
          exact wpOp_skip rfl rfl ⟨y0, y1, y2, y3, y4, y5, y6, y7, y8, y9, y10, y11, y12, y13, y14, y15, y16, y17, y18, y19, y20, y21, true, y23, y24, y25, y26, t5, t6, t7, t8, t9, t10, t11, t12, t13, t14, t15, t16, t17, t18, t19, t20, t21, _, t23, t24, t25, t26, _, t28, t29, t30, t31, .bool false, rfl, Or.inl ⟨rfl, ⟨{ h with o22 := fun _ => rfl }, rfl⟩⟩⟩
        · obtain ⟨h, rfl⟩ := h
          have e17 : y17 = true := by revert hc; cases y17 <;> simp [Region.binds]
          have r17 := h.o17 e17; subst r17
          clear hc hi
          exact wpOp_skip rfl rfl ⟨y0, y1, y2, y3, y4, y5, y6, y7, y8, y9, y10, y11, y12, y13, y14, y15, y16, y17, y18, y19, y20, y21, y22, true, y24, y25, y26, t5, t6, t7, t8, t9, t10, t11, t12, t13, t14, t15, t16, t17, t18, t19, t20, t21, _, t23, t24, t25, t26, t27, _, t29, t30, t31, .bool false, rfl, Or.inl ⟨rfl, ⟨{ h with o23 := fun _ => rfl }, rfl⟩⟩⟩
        · obtain ⟨h, rfl⟩ := h
          have e17 : y17 = true := by revert hc; cases y17 <;> simp [Region.binds]
          have r17 := h.o17 e17; subst r17
          clear hc hi
          exact wpOp_skip rfl rfl ⟨y0, y1, y2, y3, y4, y5, y6, y7, y8, y9, y10, y11, y12, y13, y14, y15, y16, y17, y18, y19, y20, y21, y22, y23, true, y25, y26, t5, t6, t7, t8, t9, t10, t11, t12, t13, t14, t15, t16, t17, t18, t19, t20, t21, _, t23, t24, t25, t26, t27, t28, _, t30, t31, .bool false, rfl, Or.inl ⟨rfl, ⟨{ h with o24 := fun _ => rfl }, rfl⟩⟩⟩
        · obtain ⟨h, rfl⟩ := h
          have e17 : y17 = true := by revert hc; cases y17 <;> simp [Region.binds]
          have r17 := h.o17 e17; subst r17
          clear hc hi
          exact wpOp_skip rfl rfl ⟨y0, y1, y2, y3, y4, y5, y6, y7, y8, y9, y10, y11, y12, y13, y14, y15, y16, y17, y18, y19, y20, y21, y22, y23, y24, true, y26, t5, t6, t7, t8, t9, t10, t11, t12, t13, t14, t15, t16, t17, t18, t19, t20, t21, _, t23, t24, t25, t26, t27, t28, t29, _, t31, .bool false, rfl, Or.inl ⟨rfl, ⟨{ h with o25 := fun _ => rfl }, rfl⟩⟩⟩
        · obtain ⟨h, rfl⟩ := h
          have e17 : y17 = true := by revert hc; cases y17 <;> simp [Region.binds]
          have e25 : y25 = true := by revert hc; cases y25 <;> simp [Region.binds]
          have r17 := h.o17 e17; subst r17
          have r25 := h.o25 e25; subst r25
          clear hc hi
          refine wpOp_go rfl rfl (fun K hK => ?_)
          go_wp2_with fail
          exact hK.out _ _ ⟨y0, y1, y2, y3, y4, y5, y6, y7, y8, y9, y10, y11, y12, y13, y14, y15, y16, y17, y18, y19, y20, y21, y22, y23, y24, y25, true, t5, t6, t7, t8, t9, t10, t11, t12, t13, t14, t15, t16, t17, t18, t19, t20, t21, _, t23, t24, t25, t26, t27, t28, t29, _, .bool false, .bool false, rfl, Or.inl ⟨rfl, ⟨{ h with o26 := fun _ => rfl }, rfl⟩⟩⟩
        · obtain ⟨h, rfl⟩ := h
          have e0 : y0 = true := by revert hc; cases y0 <;> simp [Region.binds]
          have e1 : y1 = true := by revert hc; cases y1 <;> simp [Region.binds]
          have e2 : y2 = true := by revert hc; cases y2 <;> simp [Region.binds]
          have e3 : y3 = true := by revert hc; cases y3 <;> simp [Region.binds]
          have e4 : y4 = true := by revert hc; cases y4 <;> simp [Region.binds]
          have e5 : y5 = true := by revert hc; cases y5 <;> simp [Region.binds]
          have e6 : y6 = true := by revert hc; cases y6 <;> simp [Region.binds]
          have e7 : y7 = true := by revert hc; cases y7 <;> simp [Region.binds]
          have e8 : y8 = true := by revert hc; cases y8 <;> simp [Region.binds]
          have e9 : y9 = true := by revert hc; cases y9 <;> simp [Region.binds]
          have e10 : y10 = true := by revert hc; cases y10 <;> simp [Region.binds]
          have e11 : y11 = true := by revert hc; cases y11 <;> simp [Region.binds]
          have e12 : y12 = true := by revert hc; cases y12 <;> simp [Region.binds]
          have e13 : y13 = true := by revert hc; cases y13 <;> simp [Region.binds]
          have e14 : y14 = true := by revert hc; cases y14 <;> simp [Region.binds]
          have e15 : y15 = true := by revert hc; cases y15 <;> simp [Region.binds]
          have e16 : y16 = true := by revert hc; cases y16 <;> simp [Region.binds]
          have e17 : y17 = true := by revert hc; cases y17 <;> simp [Region.binds]
          have e18 : y18 = true := by revert hc; cases y18 <;> simp [Region.binds]
          have e19 : y19 = true := by revert hc; cases y19 <;> simp [Region.binds]
          have e20 : y20 = true := by revert hc; cases y20 <;> simp [Region.binds]
          have e21 : y21 = true := by revert hc; cases y21 <;> simp [Region.binds]
          have e22 : y22 = true := by revert hc; cases y22 <;> simp [Region.binds]
          have e23 : y23 = true := by revert hc; cases y23 <;> simp [Region.binds]
          have e24 : y24 = true := by revert hc; cases y24 <;> simp [Region.binds]
          have e25 : y25 = true := by revert hc; cases y25 <;> simp [Region.binds]
          have e26 : y26 = true := by revert hc; cases y26 <;> simp [Region.binds]
          have r26 := h.o26 e26; subst r26
          clear hc hi
          subst e0 e1 e2 e3 e4 e5 e6 e7 e8 e9 e10 e11 e12 e13 e14 e15 e16 e17 e18 e19 e20 e21 e22 e23 e24 e25 e26
          have bl := h.bel
          clear h
          refine wpOp_go rfl rfl (fun K hK => ?_)
          go_wp2_with fail
          exact hK.out _ _ ⟨true, true, true, true, true, true, true, true, true, true, true, true, true, true, true, true, true, true, true, true, true, true, true, true, true, true, true, t5, t6, t7, t8, t9, t10, t11, t12, t13, t14, t15, t16, t17, t18, t19, t20, t21, t22, t23, t24, t25, t26, t27, t28, t29, t30, _, _, rfl, Or.inr (⟨rfl, rfl, bl⟩)⟩
      · rcases (show i = 0 ∨ i = 1 ∨ i = 2 ∨ i = 3 ∨ i = 4 ∨ i = 5 ∨ i = 6 ∨ i = 7 ∨ i = 8 ∨ i = 9 ∨ i = 10 ∨ i = 11 ∨ i = 12 ∨ i = 13 ∨ i = 14 ∨ i = 15 ∨ i = 16 ∨ i = 17 ∨ i = 18 ∨ i = 19 ∨ i = 20 ∨ i = 21 ∨ i = 22 ∨ i = 23 ∨ i = 24 ∨ i = 25 ∨ i = 26 ∨ i = 27 by omega) with rfl | rfl | rfl | rfl | rfl | rfl | rfl | rfl | rfl | rfl | rfl | rfl | rfl | rfl | rfl | rfl | rfl | rfl | rfl | rfl | rfl | rfl | rfl | rfl | rfl | rfl | rfl | rfl <;> simp at hc
    · rintro listed a x ⟨y0, y1, y2, y3, y4, y5, y6, y7, y8, y9, y10, y11, y12, y13, y14, y15, y16, y17, y18, y19, y20, y21, y22, y23, y24, y25, y26, t5, t6, t7, t8, t9, t10, t11, t12, t13, t14, t15, t16, t17, t18, t19, t20, t21, t22, t23, t24, t25, t26, t27, t28, t29, t30, t31, z4, rfl, h⟩ hn
      have al := all_listed (by decide +kernel) hn
      rcases h with ⟨rfl, h⟩ | ⟨rfl, h⟩
      · have z := al 27 (by decide)
        simp at z
      · obtain ⟨rfl, bl⟩ := h
        refine hJ _ _ ?_
        go_meet
        case rel => exact ⟨rfl, bl⟩
    · exact ⟨false, false, false, false, false, false, false, false, false, false, false, false, false, false, false, false, false, false, false, false, false, false, false, false, false, false, false, undef, undef, undef, undef, undef, undef, undef, undef, undef, undef, undef, undef, undef, undef, undef, undef, undef, undef, undef, undef, undef, undef, undef, undef, undef, undef, undef, .bool false, rfl, Or.inl ⟨rfl, ⟨{ bel := (Below.refl _ _).drew, o0 := (by intro q; cases q), o1 := (by intro q; cases q), o2 := (by intro q; cases q), o3 := (by intro q; cases q), o4 := (by intro q; cases q), o5 := (by intro q; cases q), o6 := (by intro q; cases q), o7 := (by intro q; cases q), o8 := (by intro q; cases q), o9 := (by intro q; cases q), o10 := (by intro q; cases q), o11 := (by intro q; cases q), o12 := (by intro q; cases q), o13 := (by intro q; cases q), o14 := (by intro q; cases q), o15 := (by intro q; cases q), o16 := (by intro q; cases q), o17 := (by intro q; cases q), o18 := (by intro q; cases q), o19 := (by intro q; cases q), o20 := (by intro q; cases q), o21 := (by intro q; cases q), o22 := (by intro q; cases q), o23 := (by intro q; cases q), o24 := (by intro q; cases q), o25 := (by intro q; cases q), o26 := (by intro q; cases q) }, rfl⟩⟩⟩
  case rest =>
    obtain ⟨rfl, b2⟩ := hcut
    go_wp2_with fail
    go_ret
    exact ⟨rfl, bel' pr b2⟩
end Go.Proofs.YtfalncbcomlelaaGreatDoor.Ta
