import Derived.Test.YtebilgnmnambnaaGreatDoorPart39
import Derived.Test.YtebilgnmnambnaaGreatDoorPart06
import Derived.Deep.DeepCutAuto
import Derived.Test.YtebilgnmnambnaaGreatDoorPart10
import Derived.Test.YtebilgnmnambnaaGreatDoorPart21
import Derived.Deep.RegionHeld3

namespace Go.Proofs.YtebilgnmnambnaaGreatDoor.Mo
open Go.RowKit Fu Tn Go.Lib Wt

structure IP2 (W x : World) (V0 V1 V2 V6 V7 V8 V9 V11 V12 V13 : Value) (N10 N14 : Int) (y0 y1 y2 y3 y4 y5 y6 y7 y8 y9 y10 y11 y12 y13 y14 : Bool) (t11 t12 t13 t14 t15 t16 t17 t18 t19 t20 t21 t22 t23 t24 t25 : Value) : Prop where
  bel : Below W.heap.size W x
  o0 : y0 = true → t11 = V0
  o1 : y1 = true → t12 = V1
  o2 : y2 = true → t13 = V2
  o6 : y6 = true → t17 = V6
  o7 : y7 = true → t18 = V7
  o8 : y8 = true → t19 = V8
  o9 : y9 = true → t20 = V9
  o11 : y11 = true → t22 = V11
  o12 : y12 = true → t23 = V12
  o13 : y13 = true → t24 = V13
  o10 : y10 = true → NV N10 t21 x
  o14 : y14 = true → NV N14 t25 x
  o3 : y3 = true → t14 = undef
  o4 : y4 = true → t15 = undef
  o5 : y5 = true → t16 = undef
  d1_0 : y1 = true → y0 = true
  d2_1 : y2 = true → y1 = true
  d4_3 : y4 = true → y3 = true
  d5_4 : y5 = true → y4 = true
  d6_2 : y6 = true → y2 = true
  d6_5 : y6 = true → y5 = true
  d8_7 : y8 = true → y7 = true
  d10_8 : y10 = true → y8 = true
  d10_9 : y10 = true → y9 = true
  d12_11 : y12 = true → y11 = true
  d14_12 : y14 = true → y12 = true
  d14_13 : y14 = true → y13 = true
theorem IP2.grow {W x x' : World} {V0 V1 V2 V6 V7 V8 V9 V11 V12 V13 : Value} {N10 N14 : Int} {y0 y1 y2 y3 y4 y5 y6 y7 y8 y9 y10 y11 y12 y13 y14 : Bool} {t11 t12 t13 t14 t15 t16 t17 t18 t19 t20 t21 t22 t23 t24 t25 : Value} (h : IP2 W x V0 V1 V2 V6 V7 V8 V9 V11 V12 V13 N10 N14 y0 y1 y2 y3 y4 y5 y6 y7 y8 y9 y10 y11 y12 y13 y14 t11 t12 t13 t14 t15 t16 t17 t18 t19 t20 t21 t22 t23 t24 t25) (b : Below x.heap.size x x') : IP2 W x' V0 V1 V2 V6 V7 V8 V9 V11 V12 V13 N10 N14 y0 y1 y2 y3 y4 y5 y6 y7 y8 y9 y10 y11 y12 y13 y14 t11 t12 t13 t14 t15 t16 t17 t18 t19 t20 t21 t22 t23 t24 t25 where
  bel := bel' h.bel b
  o0 := h.o0
  o1 := h.o1
  o2 := h.o2
  o6 := h.o6
  o7 := h.o7
  o8 := h.o8
  o9 := h.o9
  o11 := h.o11
  o12 := h.o12
  o13 := h.o13
  o3 := h.o3
  o4 := h.o4
  o5 := h.o5
  o10 := fun u => (h.o10 u).grow b
  o14 := fun u => (h.o14 u).grow b
  d1_0 := h.d1_0
  d2_1 := h.d2_1
  d4_3 := h.d4_3
  d5_4 := h.d5_4
  d6_2 := h.d6_2
  d6_5 := h.d6_5
  d8_7 := h.d8_7
  d10_8 := h.d10_8
  d10_9 := h.d10_9
  d12_11 := h.d12_11
  d14_12 := h.d14_12
  d14_13 := h.d14_13
set_option maxHeartbeats 3200000 in
set_option maxRecDepth 100000 in
theorem Power_raw (B1 B2 A1 A2 : Option Addr) (J1 D1 J2 D2 M1 C1 M2 C2 : Nat) (n m P Q : Int) (w : World)
    (hc : (¬ n < 0 ∧ n = m ∧ (B1 = A1 ∧ J1 = M1 ∧ D1 = C1) ∧ B2 = A2 ∧ J2 = M2 ∧ D2 = C2) ∨ (n < 0 ∧ IntKind.i64.wrap (-n) = m ∧ (B1 = A2 ∧ J1 = M2 ∧ D1 = C2) ∧ B2 = A1 ∧ J2 = M1 ∧ D2 = C1))
    (U1 : ∀ x, Below w.heap.size w x → Calls Tryz.prog 66 #[.agg #[.slice A1 M1 C1], .int .i64 m] x fun e w' => ∃ a l c, e = .returned (.agg #[.slice a l c]) ∧ Nn w' a l c P ∧ Below x.heap.size x w') (U2 : ∀ x, Below w.heap.size w x → Calls Tryz.prog 66 #[.agg #[.slice A2 M2 C2], .int .i64 m] x fun e w' => ∃ a l c, e = .returned (.agg #[.slice a l c]) ∧ Nn w' a l c Q ∧ Below x.heap.size x w') :
    Calls Tryz.prog 50 #[.agg #[.bool false, .slice B1 J1 D1, .slice B2 J2 D2], .int .i64 n] w fun e w' => ∃ a l c a' l' c', e = .returned (.agg #[.bool false, .slice a l c, .slice a' l' c']) ∧ Nn w' a l c P ∧ Nn w' a' l' c' Q ∧ Below w.heap.size w w' := by
  have K0 := (Rb.new w (.bool false) (.slice B1 J1 D1) (.slice B2 J2 D2) 67).alloc (.cells #[.bool false, .slice none 0 0, .slice none 0 0] 67)
  have K1 := Rb.new (w.alloc (.cells #[.bool false, .slice B1 J1 D1, .slice B2 J2 D2] 67)) (.bool false) (.slice none 0 0) (.slice none 0 0) 67
  have pr : Below w.heap.size w ((w.alloc (.cells #[.bool false, .slice B1 J1 D1, .slice B2 J2 D2] 67)).alloc (.cells #[.bool false, .slice none 0 0, .slice none 0 0] 67)) := ((Below.refl _ _).alloc (Nat.le_refl _) _).alloc (by simp) _
  simp only [World.size_alloc] at K1
  have V := fun x => Inverse_any false B1 B2 J1 D1 J2 D2 x
  go_enter Tryz.func50, Tryz.ntmps50
  go_upto_if 6 with fail
  generalize (w.alloc (.cells #[.bool false, .slice B1 J1 D1, .slice B2 J2 D2] 67)).alloc (.cells #[.bool false, .slice none 0 0, .slice none 0 0] 67) = W at *
  go_cut [1] from 5 to 10 (fun v wc => v = .int .i64 m ∧ Rb wc w.heap.size (.bool false) (.slice A1 M1 C1) (.slice A2 M2 C2) ∧ Rb wc (w.heap.size + 1) (.bool false) (.slice none 0 0) (.slice none 0 0) ∧ Below w.heap.size w wc)
  case first =>
    rcases hc with ⟨h0, rfl, ⟨rfl, rfl, rfl⟩, rfl, rfl, rfl⟩ | ⟨h0, hm, ⟨rfl, rfl, rfl⟩, rfl, rfl, rfl⟩
    · go_wp2_with fail
      go_meet
      case rel => exact ⟨rfl, K0, K1, pr⟩
    · have k0 := K0.c0
      have k1 := K0.c1
      have k2 := K0.c2
      go_wp2_with (first
        | (go_at_call 43; refine (V _).mono ?_; rintro e w1 ⟨rfl, bb⟩; have u0 := (K0.grow bb).c0; have u1 := (K0.grow bb).c1; have u2 := (K0.grow bb).c2; have g0 := (K0.grow bb).f0; have g1 := (K0.grow bb).f1; have g2 := (K0.grow bb).f2)
        | fail)
      go_meet
      case rel => exact ⟨rfl, (K0.grow bb).sets _ _ _, (K1.grow bb).skip3 (by omega) _ _ _, bset3 (bel' pr bb) (Nat.le_refl _)⟩
  case rest =>
    clear K0 K1 pr V hc
    obtain ⟨rfl, K0, K1, pr⟩ := hcut
    replace U1 := fun x b => U1 x (bel' pr b)
    replace U2 := fun x b => U2 x (bel' pr b)
    go_wp2_with fail
    go_cut [] from 11 to 26 (fun wd => ∃ x0 a1 l1 c1 a2 l2 c2, wd = ((x0.setCell ⟨w.heap.size + 1, 0, none⟩ (.bool false)).setCell ⟨w.heap.size + 1, 1, none⟩ (.slice a1 l1 c1)).setCell ⟨w.heap.size + 1, 2, none⟩ (.slice a2 l2 c2) ∧ Nn x0 a1 l1 c1 P ∧ Nn x0 a2 l2 c2 Q ∧ Below wc.heap.size wc x0)
    case first =>
      rename_i hm hJ
      refine wp_region_held (S := fun _ => True) (by kernel_rfl) (any_inv (fun listed a x => ∃ (y0 y1 y2 y3 y4 y5 y6 y7 y8 y9 y10 y11 y12 y13 y14 : Bool) (t11 t12 t13 t14 t15 t16 t17 t18 t19 t20 t21 t22 t23 t24 t25 : Value) (z26 : Value), a = ⟨#[.agg #[.bool false, .slice B1 J1 D1, .slice B2 J2 D2], .int .i64 m, .pointer (some ⟨w.heap.size, 0, none⟩), undef, .pointer (some ⟨w.heap.size + 1, 0, none⟩), u5, u6, u7, u8, u9, u10, t11, t12, t13, t14, t15, t16, t17, t18, t19, t20, t21, t22, t23, t24, t25, z26], []⟩ ∧ ((listed = #[y0, y1, y2, y3, y4, y5, y6, y7, y8, y9, y10, y11, y12, y13, y14, false, false] ∧ IP2 wc x (.pointer (some ⟨w.heap.size, 0, none⟩)) (.bool false) (.bool false) (.bool false) (.pointer (some ⟨w.heap.size, 1, none⟩)) (.agg #[.slice A1 M1 C1]) (.int .i64 m) (.pointer (some ⟨w.heap.size, 2, none⟩)) (.agg #[.slice A2 M2 C2]) (.int .i64 m) (P) (Q) y0 y1 y2 y3 y4 y5 y6 y7 y8 y9 y10 y11 y12 y13 y14 t11 t12 t13 t14 t15 t16 t17 t18 t19 t20 t21 t22 t23 t24 t25 ∧ z26 = undef) ∨ (listed = #[true, true, true, true, true, true, true, true, true, true, true, true, true, true, true, true, false] ∧ ∃ a1 l1 c1 a2 l2 c2, z26 = .agg #[.bool false, .slice a1 l1 c1, .slice a2 l2 c2] ∧ Nn x a1 l1 c1 P ∧ Nn x a2 l2 c2 Q ∧ Below wc.heap.size wc x) ∨ (listed = #[true, true, true, true, true, true, true, true, true, true, true, true, true, true, true, true, true] ∧ ∃ x0 a1 l1 c1 a2 l2 c2, x = ((x0.setCell ⟨w.heap.size + 1, 0, none⟩ (.bool false)).setCell ⟨w.heap.size + 1, 1, none⟩ (.slice a1 l1 c1)).setCell ⟨w.heap.size + 1, 2, none⟩ (.slice a2 l2 c2) ∧ Nn x0 a1 l1 c1 P ∧ Nn x0 a2 l2 c2 Q ∧ Below wc.heap.size wc x0))) ?_ ?_ _ _ _ _ (by decide) ?_)
      · rintro listed a x i ⟨y0, y1, y2, y3, y4, y5, y6, y7, y8, y9, y10, y11, y12, y13, y14, t11, t12, t13, t14, t15, t16, t17, t18, t19, t20, t21, t22, t23, t24, t25, z26, rfl, h⟩ hi
        have hr : i < 17 := List.mem_range.1 (List.mem_filter.1 hi).1
        have hc := (List.mem_filter.1 hi).2
        rcases h with ⟨rfl, h⟩ | ⟨rfl, h⟩ | ⟨rfl, h⟩
        · rcases (show i = 0 ∨ i = 1 ∨ i = 2 ∨ i = 3 ∨ i = 4 ∨ i = 5 ∨ i = 6 ∨ i = 7 ∨ i = 8 ∨ i = 9 ∨ i = 10 ∨ i = 11 ∨ i = 12 ∨ i = 13 ∨ i = 14 ∨ i = 15 ∨ i = 16 by omega) with rfl | rfl | rfl | rfl | rfl | rfl | rfl | rfl | rfl | rfl | rfl | rfl | rfl | rfl | rfl | rfl | rfl
          · obtain ⟨h, rfl⟩ := h
            clear hc hi
            refine wpOp_go rfl rfl (fun K hK => ?_)
            go_wp2_with fail
            exact hK.out _ _ ⟨true,_,_,_,_,_,_,_,_,_,_,_,_,_,_,.pointer (some ⟨w.heap.size, 0, none⟩),_,_,_,_,_,_,_,_,_,_,_,_,_,_,undef,rfl,Or.inl ⟨rfl, ⟨{ h with o0 := fun _ => rfl, d1_0 := fun _ => rfl }, rfl⟩⟩⟩
          · obtain ⟨h, rfl⟩ := h
            have e0 : y0 = true := by revert hc; cases y0 <;> simp [Region.binds]
            have r0 := h.o0 e0; subst r0
            clear hc hi
            have kd := (K0.grow h.bel).c0
            refine wpOp_go rfl rfl (fun K hK => ?_)
            go_wp2_with fail
            exact hK.out _ _ ⟨_,true,_,_,_,_,_,_,_,_,_,_,_,_,_,_,.bool false,_,_,_,_,_,_,_,_,_,_,_,_,_,undef,rfl,Or.inl ⟨rfl, ⟨{ h with o1 := fun _ => rfl, d1_0 := fun _ => e0, d2_1 := fun _ => rfl }, rfl⟩⟩⟩
          · obtain ⟨h, rfl⟩ := h
            have e1 : y1 = true := by revert hc; cases y1 <;> simp [Region.binds]
            have r1 := h.o1 e1; subst r1
            clear hc hi
            refine wpOp_go rfl rfl (fun K hK => ?_)
            go_wp2_with fail
            exact hK.out _ _ ⟨_,_,true,_,_,_,_,_,_,_,_,_,_,_,_,_,_,.bool false,_,_,_,_,_,_,_,_,_,_,_,_,undef,rfl,Or.inl ⟨rfl, ⟨{ h with o2 := fun _ => rfl, d2_1 := fun _ => e1, d6_2 := fun _ => rfl }, rfl⟩⟩⟩
          · obtain ⟨h, rfl⟩ := h
            have e2 : y2 = true := by revert hc; cases y2 <;> simp [Region.binds]
            have r2 := h.o2 e2; subst r2
            clear hc hi
            exact wpOp_skip rfl rfl ⟨y0, y1, y2, true, y4, y5, y6, y7, y8, y9, y10, y11, y12, y13, y14, t11, t12, _, _, t15, t16, t17, t18, t19, t20, t21, t22, t23, t24, t25, undef, rfl, Or.inl ⟨rfl, ⟨{ h with o3 := fun _ => rfl, d4_3 := fun _ => rfl }, rfl⟩⟩⟩
          · obtain ⟨h, rfl⟩ := h
            have e3 : y3 = true := by revert hc; cases y3 <;> simp [Region.binds]
            have e2 : y2 = true := by revert hc; cases y2 <;> simp [Region.binds]
            have r2 := h.o2 e2; subst r2
            clear hc hi
            exact wpOp_skip rfl rfl ⟨y0, y1, y2, y3, true, y5, y6, y7, y8, y9, y10, y11, y12, y13, y14, t11, t12, _, t14, _, t16, t17, t18, t19, t20, t21, t22, t23, t24, t25, undef, rfl, Or.inl ⟨rfl, ⟨{ h with o4 := fun _ => rfl, d4_3 := fun _ => e3, d5_4 := fun _ => rfl }, rfl⟩⟩⟩
          · obtain ⟨h, rfl⟩ := h
            have e4 : y4 = true := by revert hc; cases y4 <;> simp [Region.binds]
            have e2 : y2 = true := by revert hc; cases y2 <;> simp [Region.binds]
            have r2 := h.o2 e2; subst r2
            clear hc hi
            exact wpOp_skip rfl rfl ⟨y0, y1, y2, y3, y4, true, y6, y7, y8, y9, y10, y11, y12, y13, y14, t11, t12, _, t14, t15, _, t17, t18, t19, t20, t21, t22, t23, t24, t25, undef, rfl, Or.inl ⟨rfl, ⟨{ h with o5 := fun _ => rfl, d5_4 := fun _ => e4, d6_5 := fun _ => rfl }, rfl⟩⟩⟩
          · obtain ⟨h, rfl⟩ := h
            have e2 : y2 = true := by revert hc; cases y2 <;> simp [Region.binds]
            have e5 : y5 = true := by revert hc; cases y5 <;> simp [Region.binds]
            have r2 := h.o2 e2; subst r2
            have r5 := h.o5 e5; subst r5
            clear hc hi
            refine wpOp_go rfl rfl (fun K hK => ?_)
            go_wp2_with fail
            exact hK.out _ _ ⟨_,_,_,_,_,_,true,_,_,_,_,_,_,_,_,_,_,_,_,_,_,.bool false,_,_,_,_,_,_,_,_,undef,rfl,Or.inl ⟨rfl, ⟨{ h with o6 := fun _ => rfl, d6_2 := fun _ => e2, d6_5 := fun _ => e5 }, rfl⟩⟩⟩
          · obtain ⟨h, rfl⟩ := h
            clear hc hi
            refine wpOp_go rfl rfl (fun K hK => ?_)
            go_wp2_with fail
            exact hK.out _ _ ⟨_,_,_,_,_,_,_,true,_,_,_,_,_,_,_,_,_,_,_,_,_,_,.pointer (some ⟨w.heap.size, 1, none⟩),_,_,_,_,_,_,_,undef,rfl,Or.inl ⟨rfl, ⟨{ h with o7 := fun _ => rfl, d8_7 := fun _ => rfl }, rfl⟩⟩⟩
          · obtain ⟨h, rfl⟩ := h
            have e7 : y7 = true := by revert hc; cases y7 <;> simp [Region.binds]
            have r7 := h.o7 e7; subst r7
            clear hc hi
            have kd := (K0.grow h.bel).c1
            refine wpOp_go rfl rfl (fun K hK => ?_)
            go_wp2_with fail
            exact hK.out _ _ ⟨_,_,_,_,_,_,_,_,true,_,_,_,_,_,_,_,_,_,_,_,_,_,_,.agg #[.slice A1 M1 C1],_,_,_,_,_,_,undef,rfl,Or.inl ⟨rfl, ⟨{ h with o8 := fun _ => rfl, d8_7 := fun _ => e7, d10_8 := fun _ => rfl }, rfl⟩⟩⟩
          · obtain ⟨h, rfl⟩ := h
            clear hc hi
            refine wpOp_go rfl rfl (fun K hK => ?_)
            go_wp2_with fail
            exact hK.out _ _ ⟨_,_,_,_,_,_,_,_,_,true,_,_,_,_,_,_,_,_,_,_,_,_,_,_,.int .i64 m,_,_,_,_,_,undef,rfl,Or.inl ⟨rfl, ⟨{ h with o9 := fun _ => rfl, d10_9 := fun _ => rfl }, rfl⟩⟩⟩
          · obtain ⟨h, rfl⟩ := h
            have e8 : y8 = true := by revert hc; cases y8 <;> simp [Region.binds]
            have e9 : y9 = true := by revert hc; cases y9 <;> simp [Region.binds]
            have r8 := h.o8 e8; subst r8
            have r9 := h.o9 e9; subst r9
            clear hc hi
            refine wpOp_go rfl rfl (fun K hK => ?_)
            go_wp2_with (first | (go_at_call 66; go_must (refine (U1 x h.bel).mono ?_; rintro e x2 ⟨a9, l9, c9, rfl, H9, bb⟩)) | fail)
            exact hK.out _ _ ⟨_,_,_,_,_,_,_,_,_,_,true,_,_,_,_,_,_,_,_,_,_,_,_,_,_,_,_,_,_,_,undef,rfl,Or.inl ⟨rfl, ⟨{ h.grow bb with o10 := fun _ => ⟨a9, l9, c9, rfl, H9⟩, d10_8 := fun _ => e8, d10_9 := fun _ => e9 }, rfl⟩⟩⟩
          · obtain ⟨h, rfl⟩ := h
            clear hc hi
            refine wpOp_go rfl rfl (fun K hK => ?_)
            go_wp2_with fail
            exact hK.out _ _ ⟨_,_,_,_,_,_,_,_,_,_,_,true,_,_,_,_,_,_,_,_,_,_,_,_,_,_,.pointer (some ⟨w.heap.size, 2, none⟩),_,_,_,undef,rfl,Or.inl ⟨rfl, ⟨{ h with o11 := fun _ => rfl, d12_11 := fun _ => rfl }, rfl⟩⟩⟩
          · obtain ⟨h, rfl⟩ := h
            have e11 : y11 = true := by revert hc; cases y11 <;> simp [Region.binds]
            have r11 := h.o11 e11; subst r11
            clear hc hi
            have kd := (K0.grow h.bel).c2
            refine wpOp_go rfl rfl (fun K hK => ?_)
            go_wp2_with fail
            exact hK.out _ _ ⟨_,_,_,_,_,_,_,_,_,_,_,_,true,_,_,_,_,_,_,_,_,_,_,_,_,_,_,.agg #[.slice A2 M2 C2],_,_,undef,rfl,Or.inl ⟨rfl, ⟨{ h with o12 := fun _ => rfl, d12_11 := fun _ => e11, d14_12 := fun _ => rfl }, rfl⟩⟩⟩
          · obtain ⟨h, rfl⟩ := h
            clear hc hi
            refine wpOp_go rfl rfl (fun K hK => ?_)
            go_wp2_with fail
            exact hK.out _ _ ⟨_,_,_,_,_,_,_,_,_,_,_,_,_,true,_,_,_,_,_,_,_,_,_,_,_,_,_,_,.int .i64 m,_,undef,rfl,Or.inl ⟨rfl, ⟨{ h with o13 := fun _ => rfl, d14_13 := fun _ => rfl }, rfl⟩⟩⟩
          · obtain ⟨h, rfl⟩ := h
            have e12 : y12 = true := by revert hc; cases y12 <;> simp [Region.binds]
            have e13 : y13 = true := by revert hc; cases y13 <;> simp [Region.binds]
            have r12 := h.o12 e12; subst r12
            have r13 := h.o13 e13; subst r13
            clear hc hi
            refine wpOp_go rfl rfl (fun K hK => ?_)
            go_wp2_with (first | (go_at_call 66; go_must (refine (U2 x h.bel).mono ?_; rintro e x2 ⟨a9, l9, c9, rfl, H9, bb⟩)) | fail)
            exact hK.out _ _ ⟨_,_,_,_,_,_,_,_,_,_,_,_,_,_,true,_,_,_,_,_,_,_,_,_,_,_,_,_,_,_,undef,rfl,Or.inl ⟨rfl, ⟨{ h.grow bb with o14 := fun _ => ⟨a9, l9, c9, rfl, H9⟩, d14_12 := fun _ => e12, d14_13 := fun _ => e13 }, rfl⟩⟩⟩
          · obtain ⟨h, rfl⟩ := h
            have e6 : y6 = true := by revert hc; cases y6 <;> simp [Region.binds]
            have e10 : y10 = true := by revert hc; cases y10 <;> simp [Region.binds]
            have e14 : y14 = true := by revert hc; cases y14 <;> simp [Region.binds]
            have e2 := h.d6_2 e6
            have e5 := h.d6_5 e6
            have e8 := h.d10_8 e10
            have e9 := h.d10_9 e10
            have e12 := h.d14_12 e14
            have e13 := h.d14_13 e14
            have e1 := h.d2_1 e2
            have e4 := h.d5_4 e5
            have e7 := h.d8_7 e8
            have e11 := h.d12_11 e12
            have e0 := h.d1_0 e1
            have e3 := h.d4_3 e4
            have r6 := h.o6 e6; subst r6
            obtain ⟨a10, l10, c10, rfl, H10⟩ := h.o10 e10
            obtain ⟨a14, l14, c14, rfl, H14⟩ := h.o14 e14
            clear hc hi
            subst e0 e1 e2 e3 e4 e5 e6 e7 e8 e9 e10 e11 e12 e13 e14
            have bl := h.bel
            clear h
            refine wpOp_go rfl rfl (fun K hK => ?_)
            go_wp2_with fail
            exact hK.out _ _ ⟨true,true,true,true,true,true,true,true,true,true,true,true,true,true,true,_,_,_,_,_,_,_,_,_,_,_,_,_,_,_,_,rfl,Or.inr (Or.inl ⟨rfl, a10, l10, c10, a14, l14, c14, rfl, H10, H14, bl⟩)⟩
          · simp [Region.binds] at hc
        · rcases (show i = 0 ∨ i = 1 ∨ i = 2 ∨ i = 3 ∨ i = 4 ∨ i = 5 ∨ i = 6 ∨ i = 7 ∨ i = 8 ∨ i = 9 ∨ i = 10 ∨ i = 11 ∨ i = 12 ∨ i = 13 ∨ i = 14 ∨ i = 15 ∨ i = 16 by omega) with rfl | rfl | rfl | rfl | rfl | rfl | rfl | rfl | rfl | rfl | rfl | rfl | rfl | rfl | rfl | rfl | rfl
          · simp at hc
          · simp at hc
          · simp at hc
          · simp at hc
          · simp at hc
          · simp at hc
          · simp at hc
          · simp at hc
          · simp at hc
          · simp at hc
          · simp at hc
          · simp at hc
          · simp at hc
          · simp at hc
          · simp at hc
          · simp at hc
          · clear hc hi
            obtain ⟨a1, l1, c1, a2, l2, c2, rfl, H1, H2, bl⟩ := h
            have kr := K1.grow bl
            have kr0 := kr.c0
            have kr1 := kr.c1
            have kr2 := kr.c2
            have kf0 := kr.f0
            have kf1 := kr.f1
            have kf2 := kr.f2
            clear kr
            refine wpOp_go rfl rfl (fun K hK => ?_)
            go_wp2_with fail
            exact hK.out _ _ ⟨true,true,true,true,true,true,true,true,true,true,true,true,true,true,true,_,_,_,_,_,_,_,_,_,_,_,_,_,_,_,_,rfl,Or.inr (Or.inr (⟨rfl, x, a1, l1, c1, a2, l2, c2, rfl, H1, H2, bl⟩))⟩
        · rcases (show i = 0 ∨ i = 1 ∨ i = 2 ∨ i = 3 ∨ i = 4 ∨ i = 5 ∨ i = 6 ∨ i = 7 ∨ i = 8 ∨ i = 9 ∨ i = 10 ∨ i = 11 ∨ i = 12 ∨ i = 13 ∨ i = 14 ∨ i = 15 ∨ i = 16 by omega) with rfl | rfl | rfl | rfl | rfl | rfl | rfl | rfl | rfl | rfl | rfl | rfl | rfl | rfl | rfl | rfl | rfl <;> simp at hc
      · rintro listed a x ⟨y0, y1, y2, y3, y4, y5, y6, y7, y8, y9, y10, y11, y12, y13, y14, t11, t12, t13, t14, t15, t16, t17, t18, t19, t20, t21, t22, t23, t24, t25, z26, rfl, h⟩ hn
        have al := all_listed (by decide +kernel) hn
        rcases h with ⟨rfl, h⟩ | ⟨rfl, h⟩ | ⟨rfl, h⟩
        · have z := al 15 (by decide)
          simp at z
        · have z := al 16 (by decide)
          simp at z
        · obtain ⟨x0, a1, l1, c1, a2, l2, c2, rfl, H1, H2, bl⟩ := h
          refine hJ _ _ ?_
          go_meet
          case rel => exact ⟨x0, a1, l1, c1, a2, l2, c2, rfl, H1, H2, bl⟩
      · exact ⟨false, false, false, false, false, false, false, false, false, false, false, false, false, false, false, undef, undef, undef, undef, undef, undef, undef, undef, undef, undef, undef, undef, undef, undef, undef, undef, rfl, Or.inl ⟨rfl, ⟨{ bel := (Below.refl _ _).drew, o0 := (by intro q; cases q), o1 := (by intro q; cases q), o2 := (by intro q; cases q), o3 := (by intro q; cases q), o4 := (by intro q; cases q), o5 := (by intro q; cases q), o6 := (by intro q; cases q), o7 := (by intro q; cases q), o8 := (by intro q; cases q), o9 := (by intro q; cases q), o10 := (by intro q; cases q), o11 := (by intro q; cases q), o12 := (by intro q; cases q), o13 := (by intro q; cases q), o14 := (by intro q; cases q), d1_0 := (by intro q; cases q), d2_1 := (by intro q; cases q), d4_3 := (by intro q; cases q), d5_4 := (by intro q; cases q), d6_2 := (by intro q; cases q), d6_5 := (by intro q; cases q), d8_7 := (by intro q; cases q), d10_8 := (by intro q; cases q), d10_9 := (by intro q; cases q), d12_11 := (by intro q; cases q), d14_12 := (by intro q; cases q), d14_13 := (by intro q; cases q) }, rfl⟩⟩⟩
    case rest =>
      obtain ⟨x0, a1, l1, c1, a2, l2, c2, rfl, H1, H2, bl⟩ := hcut
      have kr := K1.grow bl
      have q7 := H1.putF (x := .bool false) (y := .slice a1 l1 c1) (z := .slice a2 l2 c2) kr
      have q8 := H2.putF (x := .bool false) (y := .slice a1 l1 c1) (z := .slice a2 l2 c2) kr
      obtain ⟨z0, z1, z2⟩ := kr.put (.bool false) (.slice a1 l1 c1) (.slice a2 l2 c2)
      have bE := bset3 (n := w.heap.size + 1) (x := .bool false) (y := .slice a1 l1 c1) (z := .slice a2 l2 c2) (bel' pr bl) (by omega)
      go_wp2_with fail
      generalize ((x0.setCell ⟨w.heap.size + 1, 0, none⟩ (.bool false)).setCell ⟨w.heap.size + 1, 1, none⟩ (.slice a1 l1 c1)).setCell ⟨w.heap.size + 1, 2, none⟩ (.slice a2 l2 c2) = WE at *
      exact bodyPost_ret (v := .agg #[.bool false, .slice a1 l1 c1, .slice a2 l2 c2]) (by simp [results, Tryz.results50, go_sem, z0, z1, z2]) rfl ⟨a1, l1, c1, a2, l2, c2, rfl, q7, q8, bE⟩
end Go.Proofs.YtebilgnmnambnaaGreatDoor.Mo

namespace Go.Proofs.YtebilgnmnambnaaGreatDoor.L
open Go.RowKit Tl

/-- What the reference's Pow keeps: out times a to the m is the power. -/
structure Pk (N A O : Int) (m : Nat) : Prop where
  eq : O * A ^ m = N
  alt : (A = 0 ∧ 0 ≤ O ∧ O ≤ 1) ∨ (1 ≤ A ∧ 1 ≤ O)
theorem one_le_pow {A : Int} (h : 1 ≤ A) : ∀ m : Nat, 1 ≤ A ^ m
  | 0 => by simp
  | m + 1 => by
    rw [Int.pow_succ]
    have := one_le_pow h m
    have := Int.mul_le_mul this h (by decide) (by omega)
    omega
theorem le_pow {A : Int} (h : 1 ≤ A) {m : Nat} (hm : 1 ≤ m) : A ≤ A ^ m := by
  obtain ⟨k, rfl⟩ : ∃ k, m = k + 1 := ⟨m - 1, by omega⟩
  rw [Int.pow_succ]
  have := one_le_pow h k
  have := Int.mul_le_mul_of_nonneg_right this (show 0 ≤ A by omega)
  omega
theorem Pk.o {N A O : Int} {m : Nat} (h : Pk N A O m) {B : Int} (b : N < B) (b1 : 1 < B) : O < B := by
  rcases h.alt with ⟨_, _, a⟩ | ⟨a, o⟩
  · omega
  · have := one_le_pow a m
    have := Int.mul_le_mul_of_nonneg_left this (show 0 ≤ O by omega)
    have := h.eq
    omega
theorem Pk.a {N A O : Int} {m : Nat} (h : Pk N A O m) (hm : 1 ≤ m) {B : Int} (b : N < B) (b1 : 1 < B) : A < B := by
  rcases h.alt with ⟨a, _, _⟩ | ⟨a, o⟩
  · omega
  · have p1 := le_pow a hm
    have := Int.mul_le_mul_of_nonneg_right o (show 0 ≤ A ^ m by omega)
    have := h.eq
    omega
theorem Pk.odd {N A O : Int} {m : Nat} (h : Pk N A O (2 * m + 1)) : Pk N A (O * A) (2 * m) := by
  refine ⟨by rw [← h.eq, Int.pow_succ, Int.mul_assoc, Int.mul_comm A], ?_⟩
  rcases h.alt with ⟨a, _, _⟩ | ⟨a, o⟩
  · subst a; exact Or.inl ⟨rfl, by simp, by simp⟩
  · have := Int.mul_le_mul o a (by decide) (by omega)
    exact Or.inr ⟨a, by omega⟩
theorem Pk.sq {N A O : Int} {m : Nat} (h : Pk N A O (2 * m)) : Pk N (A * A) O m := by
  refine ⟨by rw [← h.eq, Int.pow_mul]; congr 2; rw [Int.pow_succ, Int.pow_succ, Int.pow_zero, Int.one_mul], ?_⟩
  rcases h.alt with ⟨a, b⟩ | ⟨a, o⟩
  · subst a; exact Or.inl ⟨rfl, b⟩
  · have := Int.mul_le_mul a a (by decide) (by omega)
    exact Or.inr ⟨by omega, o⟩
theorem len_of {xs : List Int} {n : Nat} (h : Wd xs) (k : Nm xs) (v : val xs < pw n) : xs.length ≤ n := by
  by_cases e : xs = []
  · subst e; simp
  · have := val_low h k e
    by_cases c : xs.length ≤ n
    · exact c
    · have := pw_mono (show n ≤ xs.length - 1 by omega)
      omega
set_option maxRecDepth 100000 in
set_option maxHeartbeats 1600000 in
theorem Pow_any (v : Value) (xs : List Int) (n K : Nat) (w : World) (h : Rd w v xs) (hx : Nm xs) (hn : n < 9223372036854775808) (hp : val xs ^ n < pw K) (hk : 1 < pw K) (hK : K ≤ 274877906944) :
    Calls Tryz.prog 114 #[v, .int .i64 n] w fun e w' => ∃ u zs, e = .returned u ∧ Rd w' u zs ∧ Nm zs ∧ val zs = val xs ^ n ∧ Below w.heap.size w w' := by
  have al := (Below.refl w.heap.size w).alloc (Nat.le_refl _) (.cells #[.int .i64 1] 3)
  have r1 : Rd (w.alloc (.cells #[.int .i64 1] 3)) (.slice (some ⟨w.heap.size, 0, none⟩) 1 1) [1] := rd_one (by simp) (by decide) (by decide)
  have r0 := h.grow al
  have k0 : Pk (val xs ^ n) (val xs) (val [1]) n := ⟨by simp [val], by
    have := val_nonneg h.1
    simp only [val]
    omega⟩
  obtain ⟨N, hN⟩ : ∃ N, val xs ^ n = N := ⟨_, rfl⟩
  rw [hN] at k0 hp
  rw [hN]
  go_enter Tryz.func114, Tryz.ntmps114
  go_wp2_with fail
  generalize w.alloc (.cells #[.int .i64 1] 3) = W at *
  go_loopw [0, 1, 5] (fun a i o wr => ∃ (m : Nat) (A O : List Int), i = .int .i64 m ∧ m ≤ n ∧ Rd wr a A ∧ Nm A ∧ Rd wr o O ∧ Nm O ∧ Pk N (val A) (val O) m ∧ Below w.heap.size w wr) (fun _ i _ _ => (RowKit.intOf i).toNat)
  case atStart => exact ⟨n, xs, [1], rfl, Nat.le_refl _, r0, hx, r1, nm_one, k0, al⟩
  case round =>
    clear r0 r1 k0 al h hx
    obtain ⟨m, A, O, rfl, hm, rA, nA, rO, nO, pk, b⟩ := hrel
    by_cases z : m = 0
    · subst z
      have e := pk.eq
      rw [Int.pow_zero, Int.mul_one] at e
      clear hp hk hn hN
      go_wp2
      go_ret
      exact ⟨_, O, rfl, rO, nO, e, b⟩
    · have z' : (m : Int) > 0 := by omega
      have lA := len_of rA.1 nA (pk.a (by omega) hp hk)
      have lO := len_of rO.1 nO (pk.o hp hk)
      obtain ⟨j, hj⟩ : ∃ j, m / 2 = j := ⟨_, rfl⟩
      have MA := fun (x : World) (b : Below wr.heap.size wr x) => Mul_any _ _ A A x (rA.grow b) (rA.grow b) (by omega) (by omega)
      have MO := Mul_any _ _ O A wr rO rA (by omega) (by omega)
      have q1 : (m : Int) / 2 = (j : Int) := by omega
      have q2 : Int.tdiv (m : Int) 2 = (j : Int) := by rw [Int.tdiv_eq_ediv_of_nonneg (by omega)]; exact q1
      have q3 : IntKind.i64.wrap (j : Int) = (j : Int) := Wt.wrapI _ (by omega) (by omega)
      have HB : Hid (j < m) := by show j < m; omega
      clear hp hk hK hN lA lO
      by_cases od : m % 2 = 1
      · have o1 : (m : Int) % 2 = 1 := by omega
        have o2 : Int.tmod (m : Int) 2 = 1 := by rw [Int.tmod_eq_emod_of_nonneg (by omega)]; exact o1
        have pk2 : Pk N (val A) (val O * val A) (2 * j) := Pk.odd (by rw [show 2 * j + 1 = m by omega]; exact pk)
        clear pk
        by_cases j0 : j = 0
        · subst j0
          clear MA hj od q1 o1
          go_wp2_with (first
            | (go_at_call 78; (with_reducible refine MO.mono ?_); rintro _ w2 ⟨o2, O2, rfl, rO2, nO2, vO2, b2⟩)
            | fail)
          exact ⟨⟨0, A, O2, rfl, Nat.zero_le _, rA.grow b2, nA, rO2, nO2, by rw [vO2]; exact pk2, bel b b2⟩, by simp [RowKit.intOf]; exact HB.out⟩
        · have j1 : (j : Int) > 0 := by omega
          have hjn : Hid (j ≤ n) := by show j ≤ n; omega
          clear hj od q1 o1 j0
          go_wp2_with (first
            | (go_at_call 78; (with_reducible refine MO.mono ?_); rintro _ w2 ⟨o2, O2, rfl, rO2, nO2, vO2, b2⟩; (have MA2 := MA _ b2))
            | (go_at_call 78; (with_reducible refine MA2.mono ?_); rintro _ w3 ⟨a2, A2, rfl, rA2, nA2, vA2, b3⟩)
            | fail)
          exact ⟨⟨j, A2, O2, rfl, hjn.out, rA2, nA2, rO2.grow b3, nO2, by rw [vO2, vA2]; exact pk2.sq, bel (bel b b2) b3⟩, by simp [RowKit.intOf]; exact HB.out⟩
      · have o1 : (m : Int) % 2 = 0 := by omega
        have o2 : Int.tmod (m : Int) 2 = 0 := by rw [Int.tmod_eq_emod_of_nonneg (by omega)]; exact o1
        have pk2 : Pk N (val A) (val O) (2 * j) := by rw [show 2 * j = m by omega]; exact pk
        have j1 : (j : Int) > 0 := by omega
        have hjn : Hid (j ≤ n) := by show j ≤ n; omega
        have MA2 := MA wr (Below.refl _ _)
        clear pk hj od q1 o1 MO MA
        go_wp2_with (first
          | (go_at_call 78; (with_reducible refine MA2.mono ?_); rintro _ w3 ⟨a2, A2, rfl, rA2, nA2, vA2, b3⟩)
          | fail)
        exact ⟨⟨j, A2, O, rfl, hjn.out, rA2, nA2, rO.grow b3, nO, by rw [vA2]; exact pk2.sq, bel b b3⟩, by simp [RowKit.intOf]; exact HB.out⟩
end Go.Proofs.YtebilgnmnambnaaGreatDoor.L

namespace Go.Proofs.YtebilgnmnambnaaGreatDoor.Mo
open Go.RowKit Ip

/-- The slice is the whole number N of the reference's. -/
def Nl (x : World) (a : Option Addr) (l c : Nat) (N : Int) : Prop := ∃ xs : List Int, L.Rd x (.slice a l c) xs ∧ Tl.Nm xs ∧ Tl.val xs = N
theorem Nl.grow {x x' : World} {a : Option Addr} {l c : Nat} {N : Int} (h : Nl x a l c N) (b : Below x.heap.size x x') : Nl x' a l c N := by
  obtain ⟨xs, r, n, v⟩ := h
  exact ⟨xs, r.grow b, n, v⟩
theorem Nl.putF {w : World} {n : Nat} {a : Option Addr} {l c : Nat} {N : Int} {x y z : Value} {g : Bool} {a1 a2 : Option Addr} {n1 c1 n2 c2 : Nat} (h : Nl w a l c N) (R : Rb w n (.bool g) (.slice a1 n1 c1) (.slice a2 n2 c2)) : Nl (((w.setCell ⟨n, 0, none⟩ x).setCell ⟨n, 1, none⟩ y).setCell ⟨n, 2, none⟩ z) a l c N := by
  obtain ⟨t, K⟩ := R.bk
  obtain ⟨xs, r, n, v⟩ := h
  exact ⟨xs, r.putQ K, n, v⟩
theorem isq_nl {x : World} {r : Rat} {a a' : Option Addr} {l c l' c' : Nat} (h1 : Nl x a l c (r.num.natAbs : Int)) (h2 : Nl x a' l' c' (r.den : Int)) : L.IsQ x (.agg #[.bool (decide (r.num < 0)), .slice a l c, .slice a' l' c']) r := by
  obtain ⟨xs, r1, n1, v1⟩ := h1
  obtain ⟨ys, r2, n2, v2⟩ := h2
  have e1 : l = xs.length := by obtain ⟨_, _, _, e, _⟩ := r1; cases e; rfl
  have e2 : l' = ys.length := by obtain ⟨_, _, _, e, _⟩ := r2; cases e; rfl
  subst e1 e2
  exact ⟨xs, ys, a, a', c, c', rfl, r1, n1, v1, r2, n2, v2⟩
theorem nl_isq {x : World} {v : Value} {r : Rat} (h : L.IsQ x v r) : ∃ a l c a' l' c', v = .agg #[.bool (decide (r.num < 0)), .slice a l c, .slice a' l' c'] ∧ Nl x a l c (r.num.natAbs : Int) ∧ Nl x a' l' c' (r.den : Int) ∧ (l = 0 ↔ r.num = 0) := by
  obtain ⟨ns, ds, a1, a2, c1, c2, e, h1, n1, v1, h2, n2, v2⟩ := h
  refine ⟨a1, _, c1, a2, _, c2, e, ⟨ns, h1, n1, v1⟩, ⟨ds, h2, n2, v2⟩, ?_⟩
  constructor
  · intro z
    have : ns = [] := List.length_eq_zero_iff.1 z
    subst this
    simp [Tl.val] at v1
    omega
  · intro z
    rw [z] at v1
    by_cases e : ns = []
    · subst e; rfl
    · have := Tl.val_low h1.1 n1 e
      have := Tl.pw_pos (ns.length - 1)
      simp at v1
      omega
theorem qput {w : World} {n : Nat} {v : Value} {r : Rat} {x y z : Value} {g : Bool} {a1 a2 : Option Addr} {n1 c1 n2 c2 : Nat} (h : L.IsQ w v r) (R : Rb w n (.bool g) (.slice a1 n1 c1) (.slice a2 n2 c2)) : L.IsQ (((w.setCell ⟨n, 0, none⟩ x).setCell ⟨n, 1, none⟩ y).setCell ⟨n, 2, none⟩ z) v r := by
  obtain ⟨t, K⟩ := R.bk
  obtain ⟨ns, ds, a1, a2, c1, c2, e, h1, m1, v1, h2, m2, v2⟩ := h
  exact ⟨ns, ds, a1, a2, c1, c2, e, h1.putQ K, m1, v1, h2.putQ K, m2, v2⟩
def NLV (N : Int) (t : Value) (x : World) : Prop := ∃ a l c, t = .slice a l c ∧ Nl x a l c N
theorem NLV.grow {x x' : World} {N : Int} {t : Value} (h : NLV N t x) (b : Below x.heap.size x x') : NLV N t x' := by
  obtain ⟨a, l, c, e, h⟩ := h
  exact ⟨a, l, c, e, h.grow b⟩

theorem kc7 {W x : World} {b i : Nat} {v : Value} (d : Below W.heap.size W x) (h : W.cell? ⟨b, i, none⟩ = some v) : x.cell? ⟨b, i, none⟩ = some v := (d.cell (p := ⟨b, i, none⟩) (L.lt_of_cell h)).trans h
theorem qskip {w : World} {n b : Nat} {c : Array Value} {t : TypeId} (h : Blk w n c t) (hb : b ≠ n) (x y z : Value) : Blk (((w.setCell ⟨b, 0, none⟩ x).setCell ⟨b, 1, none⟩ y).setCell ⟨b, 2, none⟩ z) n c t := by
  have h' : w.heap[n]? = some (.cells c t (0, 0)) := h
  show (((w.setCell ⟨b, 0, none⟩ x).setCell ⟨b, 1, none⟩ y).setCell ⟨b, 2, none⟩ z).heap[n]? = _
  simp [World.setCell, Array.getElem?_modify, h', hb]
theorem mul_nl {x : World} {a1 a2 : Option Addr} {l1 c1 l2 c2 : Nat} {A B : Int} {K : Nat} (h1 : Nl x a1 l1 c1 A) (h2 : Nl x a2 l2 c2 B) (hA : A < Tl.pw K) (hB : B < Tl.pw K) (hK : K ≤ 1000000000) : Calls Tryz.prog 78 #[.slice a1 l1 c1, .slice a2 l2 c2] x fun e w' => ∃ a l c, e = .returned (.slice a l c) ∧ Nl w' a l c (A * B) ∧ Below x.heap.size x w' := by
  obtain ⟨xs, r1, n1, rfl⟩ := h1
  obtain ⟨ys, r2, n2, rfl⟩ := h2
  have k1 := L.len_of_lt r1.1 n1 hA
  have k2 := L.len_of_lt r2.1 n2 hB
  refine (L.Mul_any _ _ xs ys x r1 r2 (by omega) (by omega)).mono ?_
  rintro e w' ⟨v, zs, rfl, hr, hn, hv, b⟩
  obtain ⟨a, c, rfl⟩ := L.rd_form hr
  exact ⟨a, _, c, rfl, ⟨zs, hr, hn, hv⟩, b⟩
theorem make_nl {x : World} {a1 a2 : Option Addr} {l1 c1 l2 c2 : Nat} {U V : Int} {K : Nat} (g : Bool) (h1 : Nl x a1 l1 c1 U) (h2 : Nl x a2 l2 c2 V) (hU : U < Tl.pw K) (hV : V < Tl.pw K) (hK : K ≤ 4000000000) (h0 : 0 < V) : Calls Tryz.prog 80 #[.bool g, .slice a1 l1 c1, .slice a2 l2 c2] x (Qf (mkRat (L.sgI g U) V.toNat) x) := by
  obtain ⟨xs, r1, n1, rfl⟩ := h1
  obtain ⟨ys, r2, n2, rfl⟩ := h2
  exact qf_of (L.Make_q g _ _ xs ys K x r1 r2 n1 n2 (L.len_of_lt r1.1 n1 hU) (L.len_of_lt r2.1 n2 hV) (by omega) h0)
theorem lt_pp {A B : Int} {K : Nat} (a0 : 0 ≤ A) (a1 : A < Tl.pw K) (_b0 : 0 ≤ B) (b1 : B < Tl.pw K) : A * B < Tl.pw (K + K) := by
  rw [Tl.pw_add]
  exact Int.lt_of_le_of_lt (Int.mul_le_mul_of_nonneg_left (Int.le_of_lt b1) a0) (Int.mul_lt_mul_of_pos_right a1 (by omega))
end Go.Proofs.YtebilgnmnambnaaGreatDoor.Mo

namespace Go.Proofs.YtebilgnmnambnaaGreatDoor.Mo
open Go.RowKit

end Go.Proofs.YtebilgnmnambnaaGreatDoor.Mo

namespace Go.Proofs.YtebilgnmnambnaaGreatDoor.Mo
open Go.RowKit Ip

structure IPQ (W x : World) (V0 V1 V2 V6 V7 V8 V9 V11 V12 V13 : Value) (N10 N14 : Int) (y0 y1 y2 y3 y4 y5 y6 y7 y8 y9 y10 y11 y12 y13 y14 : Bool) (t5 t6 t7 t8 t9 t10 t11 t12 t13 t14 t15 t16 t17 t18 t19 : Value) : Prop where
  bel : Below W.heap.size W x
  o0 : y0 = true → t5 = V0
  o1 : y1 = true → t6 = V1
  o2 : y2 = true → t7 = V2
  o6 : y6 = true → t11 = V6
  o7 : y7 = true → t12 = V7
  o8 : y8 = true → t13 = V8
  o9 : y9 = true → t14 = V9
  o11 : y11 = true → t16 = V11
  o12 : y12 = true → t17 = V12
  o13 : y13 = true → t18 = V13
  o10 : y10 = true → NLV N10 t15 x
  o14 : y14 = true → NLV N14 t19 x
  o3 : y3 = true → t8 = undef
  o4 : y4 = true → t9 = undef
  o5 : y5 = true → t10 = undef
  d1_0 : y1 = true → y0 = true
  d2_1 : y2 = true → y1 = true
  d4_3 : y4 = true → y3 = true
  d5_4 : y5 = true → y4 = true
  d6_2 : y6 = true → y2 = true
  d6_5 : y6 = true → y5 = true
  d8_7 : y8 = true → y7 = true
  d10_8 : y10 = true → y8 = true
  d10_9 : y10 = true → y9 = true
  d12_11 : y12 = true → y11 = true
  d14_12 : y14 = true → y12 = true
  d14_13 : y14 = true → y13 = true
theorem IPQ.grow {W x x' : World} {V0 V1 V2 V6 V7 V8 V9 V11 V12 V13 : Value} {N10 N14 : Int} {y0 y1 y2 y3 y4 y5 y6 y7 y8 y9 y10 y11 y12 y13 y14 : Bool} {t5 t6 t7 t8 t9 t10 t11 t12 t13 t14 t15 t16 t17 t18 t19 : Value} (h : IPQ W x V0 V1 V2 V6 V7 V8 V9 V11 V12 V13 N10 N14 y0 y1 y2 y3 y4 y5 y6 y7 y8 y9 y10 y11 y12 y13 y14 t5 t6 t7 t8 t9 t10 t11 t12 t13 t14 t15 t16 t17 t18 t19) (b : Below x.heap.size x x') : IPQ W x' V0 V1 V2 V6 V7 V8 V9 V11 V12 V13 N10 N14 y0 y1 y2 y3 y4 y5 y6 y7 y8 y9 y10 y11 y12 y13 y14 t5 t6 t7 t8 t9 t10 t11 t12 t13 t14 t15 t16 t17 t18 t19 where
  bel := bel' h.bel b
  o0 := h.o0
  o1 := h.o1
  o2 := h.o2
  o6 := h.o6
  o7 := h.o7
  o8 := h.o8
  o9 := h.o9
  o11 := h.o11
  o12 := h.o12
  o13 := h.o13
  o3 := h.o3
  o4 := h.o4
  o5 := h.o5
  o10 := fun u => (h.o10 u).grow b
  o14 := fun u => (h.o14 u).grow b
  d1_0 := h.d1_0
  d2_1 := h.d2_1
  d4_3 := h.d4_3
  d5_4 := h.d5_4
  d6_2 := h.d6_2
  d6_5 := h.d6_5
  d8_7 := h.d8_7
  d10_8 := h.d10_8
  d10_9 := h.d10_9
  d12_11 := h.d12_11
  d14_12 := h.d14_12
  d14_13 := h.d14_13
set_option maxHeartbeats 3200000 in
set_option maxRecDepth 100000 in
theorem QPow_r (A1 A2 : Option Addr) (M1 C1 M2 C2 : Nat) (m P Q : Int) (w : World)
    (U1 : ∀ x, Below w.heap.size w x → Calls Tryz.prog 114 #[.slice A1 M1 C1, .int .i64 m] x fun e w' => ∃ a l c, e = .returned (.slice a l c) ∧ Nl w' a l c P ∧ Below x.heap.size x w') (U2 : ∀ x, Below w.heap.size w x → Calls Tryz.prog 114 #[.slice A2 M2 C2, .int .i64 m] x fun e w' => ∃ a l c, e = .returned (.slice a l c) ∧ Nl w' a l c Q ∧ Below x.heap.size x w') :
    Calls Tryz.prog 56 #[.agg #[.bool false, .slice A1 M1 C1, .slice A2 M2 C2], .int .i64 m] w fun e w' => ∃ a l c a' l' c', e = .returned (.agg #[.bool false, .slice a l c, .slice a' l' c']) ∧ Nl w' a l c P ∧ Nl w' a' l' c' Q ∧ Below w.heap.size w w' := by
  have K0 := (Rb.new w (.bool false) (.slice A1 M1 C1) (.slice A2 M2 C2) 56).alloc (.cells #[.bool false, .slice none 0 0, .slice none 0 0] 56)
  have K1 := Rb.new (w.alloc (.cells #[.bool false, .slice A1 M1 C1, .slice A2 M2 C2] 56)) (.bool false) (.slice none 0 0) (.slice none 0 0) 56
  have pr : Below w.heap.size w ((w.alloc (.cells #[.bool false, .slice A1 M1 C1, .slice A2 M2 C2] 56)).alloc (.cells #[.bool false, .slice none 0 0, .slice none 0 0] 56)) := ((Below.refl _ _).alloc (Nat.le_refl _) _).alloc (by simp) _
  simp only [World.size_alloc] at K1
  replace U1 := fun x b => U1 x (bel' pr b)
  replace U2 := fun x b => U2 x (bel' pr b)
  go_enter Tryz.func56, Tryz.ntmps56
  go_wp2_with fail
  generalize (w.alloc (.cells #[.bool false, .slice A1 M1 C1, .slice A2 M2 C2] 56)).alloc (.cells #[.bool false, .slice none 0 0, .slice none 0 0] 56) = W at *
  go_cut [] from 5 to 20 (fun wd => ∃ x0 a1 l1 c1 a2 l2 c2, wd = ((x0.setCell ⟨w.heap.size + 1, 0, none⟩ (.bool false)).setCell ⟨w.heap.size + 1, 1, none⟩ (.slice a1 l1 c1)).setCell ⟨w.heap.size + 1, 2, none⟩ (.slice a2 l2 c2) ∧ Nl x0 a1 l1 c1 P ∧ Nl x0 a2 l2 c2 Q ∧ Below W.heap.size W x0)
  case first =>
    rename_i hm hJ
    refine wp_region_held (S := fun _ => True) (by kernel_rfl) (any_inv (fun listed a x => ∃ (y0 y1 y2 y3 y4 y5 y6 y7 y8 y9 y10 y11 y12 y13 y14 : Bool) (t5 t6 t7 t8 t9 t10 t11 t12 t13 t14 t15 t16 t17 t18 t19 : Value) (z20 : Value), a = ⟨#[.agg #[.bool false, .slice A1 M1 C1, .slice A2 M2 C2], .int .i64 m, .pointer (some ⟨w.heap.size, 0, none⟩), undef, .pointer (some ⟨w.heap.size + 1, 0, none⟩), t5, t6, t7, t8, t9, t10, t11, t12, t13, t14, t15, t16, t17, t18, t19, z20], []⟩ ∧ ((listed = #[y0, y1, y2, y3, y4, y5, y6, y7, y8, y9, y10, y11, y12, y13, y14, false, false] ∧ IPQ W x (.pointer (some ⟨w.heap.size, 0, none⟩)) (.bool false) (.bool false) (.bool false) (.pointer (some ⟨w.heap.size, 1, none⟩)) (.slice A1 M1 C1) (.int .i64 m) (.pointer (some ⟨w.heap.size, 2, none⟩)) (.slice A2 M2 C2) (.int .i64 m) (P) (Q) y0 y1 y2 y3 y4 y5 y6 y7 y8 y9 y10 y11 y12 y13 y14 t5 t6 t7 t8 t9 t10 t11 t12 t13 t14 t15 t16 t17 t18 t19 ∧ z20 = undef) ∨ (listed = #[true, true, true, true, true, true, true, true, true, true, true, true, true, true, true, true, false] ∧ ∃ a1 l1 c1 a2 l2 c2, z20 = .agg #[.bool false, .slice a1 l1 c1, .slice a2 l2 c2] ∧ Nl x a1 l1 c1 P ∧ Nl x a2 l2 c2 Q ∧ Below W.heap.size W x) ∨ (listed = #[true, true, true, true, true, true, true, true, true, true, true, true, true, true, true, true, true] ∧ ∃ x0 a1 l1 c1 a2 l2 c2, x = ((x0.setCell ⟨w.heap.size + 1, 0, none⟩ (.bool false)).setCell ⟨w.heap.size + 1, 1, none⟩ (.slice a1 l1 c1)).setCell ⟨w.heap.size + 1, 2, none⟩ (.slice a2 l2 c2) ∧ Nl x0 a1 l1 c1 P ∧ Nl x0 a2 l2 c2 Q ∧ Below W.heap.size W x0))) ?_ ?_ _ _ _ _ (by decide) ?_)
    · rintro listed a x i ⟨y0, y1, y2, y3, y4, y5, y6, y7, y8, y9, y10, y11, y12, y13, y14, t5, t6, t7, t8, t9, t10, t11, t12, t13, t14, t15, t16, t17, t18, t19, z20, rfl, h⟩ hi
      have hr : i < 17 := List.mem_range.1 (List.mem_filter.1 hi).1
      have hc := (List.mem_filter.1 hi).2
      rcases h with ⟨rfl, h⟩ | ⟨rfl, h⟩ | ⟨rfl, h⟩
      · rcases (show i = 0 ∨ i = 1 ∨ i = 2 ∨ i = 3 ∨ i = 4 ∨ i = 5 ∨ i = 6 ∨ i = 7 ∨ i = 8 ∨ i = 9 ∨ i = 10 ∨ i = 11 ∨ i = 12 ∨ i = 13 ∨ i = 14 ∨ i = 15 ∨ i = 16 by omega) with rfl | rfl | rfl | rfl | rfl | rfl | rfl | rfl | rfl | rfl | rfl | rfl | rfl | rfl | rfl | rfl | rfl
        · obtain ⟨h, rfl⟩ := h
          clear hc hi
          refine wpOp_go rfl rfl (fun K hK => ?_)
          go_wp2_with fail
          exact hK.out _ _ ⟨true,_,_,_,_,_,_,_,_,_,_,_,_,_,_,.pointer (some ⟨w.heap.size, 0, none⟩),_,_,_,_,_,_,_,_,_,_,_,_,_,_,undef,rfl,Or.inl ⟨rfl, ⟨{ h with o0 := fun _ => rfl, d1_0 := fun _ => rfl }, rfl⟩⟩⟩
        · obtain ⟨h, rfl⟩ := h
          have e0 : y0 = true := by revert hc; cases y0 <;> simp [Region.binds]
          have r0 := h.o0 e0; subst r0
          clear hc hi
          have kd := (K0.grow h.bel).c0
          refine wpOp_go rfl rfl (fun K hK => ?_)
          go_wp2_with fail
          exact hK.out _ _ ⟨_,true,_,_,_,_,_,_,_,_,_,_,_,_,_,_,.bool false,_,_,_,_,_,_,_,_,_,_,_,_,_,undef,rfl,Or.inl ⟨rfl, ⟨{ h with o1 := fun _ => rfl, d1_0 := fun _ => e0, d2_1 := fun _ => rfl }, rfl⟩⟩⟩
        · obtain ⟨h, rfl⟩ := h
          have e1 : y1 = true := by revert hc; cases y1 <;> simp [Region.binds]
          have r1 := h.o1 e1; subst r1
          clear hc hi
          refine wpOp_go rfl rfl (fun K hK => ?_)
          go_wp2_with fail
          exact hK.out _ _ ⟨_,_,true,_,_,_,_,_,_,_,_,_,_,_,_,_,_,.bool false,_,_,_,_,_,_,_,_,_,_,_,_,undef,rfl,Or.inl ⟨rfl, ⟨{ h with o2 := fun _ => rfl, d2_1 := fun _ => e1, d6_2 := fun _ => rfl }, rfl⟩⟩⟩
        · obtain ⟨h, rfl⟩ := h
          have e2 : y2 = true := by revert hc; cases y2 <;> simp [Region.binds]
          have r2 := h.o2 e2; subst r2
          clear hc hi
          exact wpOp_skip rfl rfl ⟨y0, y1, y2, true, y4, y5, y6, y7, y8, y9, y10, y11, y12, y13, y14, t5, t6, _, _, t9, t10, t11, t12, t13, t14, t15, t16, t17, t18, t19, undef, rfl, Or.inl ⟨rfl, ⟨{ h with o3 := fun _ => rfl, d4_3 := fun _ => rfl }, rfl⟩⟩⟩
        · obtain ⟨h, rfl⟩ := h
          have e3 : y3 = true := by revert hc; cases y3 <;> simp [Region.binds]
          have e2 : y2 = true := by revert hc; cases y2 <;> simp [Region.binds]
          have r2 := h.o2 e2; subst r2
          clear hc hi
          exact wpOp_skip rfl rfl ⟨y0, y1, y2, y3, true, y5, y6, y7, y8, y9, y10, y11, y12, y13, y14, t5, t6, _, t8, _, t10, t11, t12, t13, t14, t15, t16, t17, t18, t19, undef, rfl, Or.inl ⟨rfl, ⟨{ h with o4 := fun _ => rfl, d4_3 := fun _ => e3, d5_4 := fun _ => rfl }, rfl⟩⟩⟩
        · obtain ⟨h, rfl⟩ := h
          have e4 : y4 = true := by revert hc; cases y4 <;> simp [Region.binds]
          have e2 : y2 = true := by revert hc; cases y2 <;> simp [Region.binds]
          have r2 := h.o2 e2; subst r2
          clear hc hi
          exact wpOp_skip rfl rfl ⟨y0, y1, y2, y3, y4, true, y6, y7, y8, y9, y10, y11, y12, y13, y14, t5, t6, _, t8, t9, _, t11, t12, t13, t14, t15, t16, t17, t18, t19, undef, rfl, Or.inl ⟨rfl, ⟨{ h with o5 := fun _ => rfl, d5_4 := fun _ => e4, d6_5 := fun _ => rfl }, rfl⟩⟩⟩
        · obtain ⟨h, rfl⟩ := h
          have e2 : y2 = true := by revert hc; cases y2 <;> simp [Region.binds]
          have e5 : y5 = true := by revert hc; cases y5 <;> simp [Region.binds]
          have r2 := h.o2 e2; subst r2
          have r5 := h.o5 e5; subst r5
          clear hc hi
          refine wpOp_go rfl rfl (fun K hK => ?_)
          go_wp2_with fail
          exact hK.out _ _ ⟨_,_,_,_,_,_,true,_,_,_,_,_,_,_,_,_,_,_,_,_,_,.bool false,_,_,_,_,_,_,_,_,undef,rfl,Or.inl ⟨rfl, ⟨{ h with o6 := fun _ => rfl, d6_2 := fun _ => e2, d6_5 := fun _ => e5 }, rfl⟩⟩⟩
        · obtain ⟨h, rfl⟩ := h
          clear hc hi
          refine wpOp_go rfl rfl (fun K hK => ?_)
          go_wp2_with fail
          exact hK.out _ _ ⟨_,_,_,_,_,_,_,true,_,_,_,_,_,_,_,_,_,_,_,_,_,_,.pointer (some ⟨w.heap.size, 1, none⟩),_,_,_,_,_,_,_,undef,rfl,Or.inl ⟨rfl, ⟨{ h with o7 := fun _ => rfl, d8_7 := fun _ => rfl }, rfl⟩⟩⟩
        · obtain ⟨h, rfl⟩ := h
          have e7 : y7 = true := by revert hc; cases y7 <;> simp [Region.binds]
          have r7 := h.o7 e7; subst r7
          clear hc hi
          have kd := (K0.grow h.bel).c1
          refine wpOp_go rfl rfl (fun K hK => ?_)
          go_wp2_with fail
          exact hK.out _ _ ⟨_,_,_,_,_,_,_,_,true,_,_,_,_,_,_,_,_,_,_,_,_,_,_,.slice A1 M1 C1,_,_,_,_,_,_,undef,rfl,Or.inl ⟨rfl, ⟨{ h with o8 := fun _ => rfl, d8_7 := fun _ => e7, d10_8 := fun _ => rfl }, rfl⟩⟩⟩
        · obtain ⟨h, rfl⟩ := h
          clear hc hi
          refine wpOp_go rfl rfl (fun K hK => ?_)
          go_wp2_with fail
          exact hK.out _ _ ⟨_,_,_,_,_,_,_,_,_,true,_,_,_,_,_,_,_,_,_,_,_,_,_,_,.int .i64 m,_,_,_,_,_,undef,rfl,Or.inl ⟨rfl, ⟨{ h with o9 := fun _ => rfl, d10_9 := fun _ => rfl }, rfl⟩⟩⟩
        · obtain ⟨h, rfl⟩ := h
          have e8 : y8 = true := by revert hc; cases y8 <;> simp [Region.binds]
          have e9 : y9 = true := by revert hc; cases y9 <;> simp [Region.binds]
          have r8 := h.o8 e8; subst r8
          have r9 := h.o9 e9; subst r9
          clear hc hi
          refine wpOp_go rfl rfl (fun K hK => ?_)
          go_wp2_with (first | (go_at_call 114; go_must (refine (U1 x h.bel).mono ?_; rintro e x2 ⟨a9, l9, c9, rfl, H9, bb⟩)) | fail)
          exact hK.out _ _ ⟨_,_,_,_,_,_,_,_,_,_,true,_,_,_,_,_,_,_,_,_,_,_,_,_,_,_,_,_,_,_,undef,rfl,Or.inl ⟨rfl, ⟨{ h.grow bb with o10 := fun _ => ⟨a9, l9, c9, rfl, H9⟩, d10_8 := fun _ => e8, d10_9 := fun _ => e9 }, rfl⟩⟩⟩
        · obtain ⟨h, rfl⟩ := h
          clear hc hi
          refine wpOp_go rfl rfl (fun K hK => ?_)
          go_wp2_with fail
          exact hK.out _ _ ⟨_,_,_,_,_,_,_,_,_,_,_,true,_,_,_,_,_,_,_,_,_,_,_,_,_,_,.pointer (some ⟨w.heap.size, 2, none⟩),_,_,_,undef,rfl,Or.inl ⟨rfl, ⟨{ h with o11 := fun _ => rfl, d12_11 := fun _ => rfl }, rfl⟩⟩⟩
        · obtain ⟨h, rfl⟩ := h
          have e11 : y11 = true := by revert hc; cases y11 <;> simp [Region.binds]
          have r11 := h.o11 e11; subst r11
          clear hc hi
          have kd := (K0.grow h.bel).c2
          refine wpOp_go rfl rfl (fun K hK => ?_)
          go_wp2_with fail
          exact hK.out _ _ ⟨_,_,_,_,_,_,_,_,_,_,_,_,true,_,_,_,_,_,_,_,_,_,_,_,_,_,_,.slice A2 M2 C2,_,_,undef,rfl,Or.inl ⟨rfl, ⟨{ h with o12 := fun _ => rfl, d12_11 := fun _ => e11, d14_12 := fun _ => rfl }, rfl⟩⟩⟩
        · obtain ⟨h, rfl⟩ := h
          clear hc hi
          refine wpOp_go rfl rfl (fun K hK => ?_)
          go_wp2_with fail
          exact hK.out _ _ ⟨_,_,_,_,_,_,_,_,_,_,_,_,_,true,_,_,_,_,_,_,_,_,_,_,_,_,_,_,.int .i64 m,_,undef,rfl,Or.inl ⟨rfl, ⟨{ h with o13 := fun _ => rfl, d14_13 := fun _ => rfl }, rfl⟩⟩⟩
        · obtain ⟨h, rfl⟩ := h
          have e12 : y12 = true := by revert hc; cases y12 <;> simp [Region.binds]
          have e13 : y13 = true := by revert hc; cases y13 <;> simp [Region.binds]
          have r12 := h.o12 e12; subst r12
          have r13 := h.o13 e13; subst r13
          clear hc hi
          refine wpOp_go rfl rfl (fun K hK => ?_)
          go_wp2_with (first | (go_at_call 114; go_must (refine (U2 x h.bel).mono ?_; rintro e x2 ⟨a9, l9, c9, rfl, H9, bb⟩)) | fail)
          exact hK.out _ _ ⟨_,_,_,_,_,_,_,_,_,_,_,_,_,_,true,_,_,_,_,_,_,_,_,_,_,_,_,_,_,_,undef,rfl,Or.inl ⟨rfl, ⟨{ h.grow bb with o14 := fun _ => ⟨a9, l9, c9, rfl, H9⟩, d14_12 := fun _ => e12, d14_13 := fun _ => e13 }, rfl⟩⟩⟩
        · obtain ⟨h, rfl⟩ := h
          have e6 : y6 = true := by revert hc; cases y6 <;> simp [Region.binds]
          have e10 : y10 = true := by revert hc; cases y10 <;> simp [Region.binds]
          have e14 : y14 = true := by revert hc; cases y14 <;> simp [Region.binds]
          have e2 := h.d6_2 e6
          have e5 := h.d6_5 e6
          have e8 := h.d10_8 e10
          have e9 := h.d10_9 e10
          have e12 := h.d14_12 e14
          have e13 := h.d14_13 e14
          have e1 := h.d2_1 e2
          have e4 := h.d5_4 e5
          have e7 := h.d8_7 e8
          have e11 := h.d12_11 e12
          have e0 := h.d1_0 e1
          have e3 := h.d4_3 e4
          have r6 := h.o6 e6; subst r6
          obtain ⟨a10, l10, c10, rfl, H10⟩ := h.o10 e10
          obtain ⟨a14, l14, c14, rfl, H14⟩ := h.o14 e14
          clear hc hi
          subst e0 e1 e2 e3 e4 e5 e6 e7 e8 e9 e10 e11 e12 e13 e14
          have bl := h.bel
          clear h
          refine wpOp_go rfl rfl (fun K hK => ?_)
          go_wp2_with fail
          exact hK.out _ _ ⟨true,true,true,true,true,true,true,true,true,true,true,true,true,true,true,_,_,_,_,_,_,_,_,_,_,_,_,_,_,_,_,rfl,Or.inr (Or.inl ⟨rfl, a10, l10, c10, a14, l14, c14, rfl, H10, H14, bl⟩)⟩
        · simp [Region.binds] at hc
      · rcases (show i = 0 ∨ i = 1 ∨ i = 2 ∨ i = 3 ∨ i = 4 ∨ i = 5 ∨ i = 6 ∨ i = 7 ∨ i = 8 ∨ i = 9 ∨ i = 10 ∨ i = 11 ∨ i = 12 ∨ i = 13 ∨ i = 14 ∨ i = 15 ∨ i = 16 by omega) with rfl | rfl | rfl | rfl | rfl | rfl | rfl | rfl | rfl | rfl | rfl | rfl | rfl | rfl | rfl | rfl | rfl
        · simp at hc
        · simp at hc
        · simp at hc
        · simp at hc
        · simp at hc
        · simp at hc
        · simp at hc
        · simp at hc
        · simp at hc
        · simp at hc
        · simp at hc
        · simp at hc
        · simp at hc
        · simp at hc
        · simp at hc
        · simp at hc
        · clear hc hi
          obtain ⟨a1, l1, c1, a2, l2, c2, rfl, H1, H2, bl⟩ := h
          have kr := K1.grow bl
          have kr0 := kr.c0
          have kr1 := kr.c1
          have kr2 := kr.c2
          have kf0 := kr.f0
          have kf1 := kr.f1
          have kf2 := kr.f2
          clear kr
          refine wpOp_go rfl rfl (fun K hK => ?_)
          go_wp2_with fail
          exact hK.out _ _ ⟨true,true,true,true,true,true,true,true,true,true,true,true,true,true,true,_,_,_,_,_,_,_,_,_,_,_,_,_,_,_,_,rfl,Or.inr (Or.inr (⟨rfl, x, a1, l1, c1, a2, l2, c2, rfl, H1, H2, bl⟩))⟩
      · rcases (show i = 0 ∨ i = 1 ∨ i = 2 ∨ i = 3 ∨ i = 4 ∨ i = 5 ∨ i = 6 ∨ i = 7 ∨ i = 8 ∨ i = 9 ∨ i = 10 ∨ i = 11 ∨ i = 12 ∨ i = 13 ∨ i = 14 ∨ i = 15 ∨ i = 16 by omega) with rfl | rfl | rfl | rfl | rfl | rfl | rfl | rfl | rfl | rfl | rfl | rfl | rfl | rfl | rfl | rfl | rfl <;> simp at hc
    · rintro listed a x ⟨y0, y1, y2, y3, y4, y5, y6, y7, y8, y9, y10, y11, y12, y13, y14, t5, t6, t7, t8, t9, t10, t11, t12, t13, t14, t15, t16, t17, t18, t19, z20, rfl, h⟩ hn
      have al := all_listed (by decide +kernel) hn
      rcases h with ⟨rfl, h⟩ | ⟨rfl, h⟩ | ⟨rfl, h⟩
      · have z := al 15 (by decide)
        simp at z
      · have z := al 16 (by decide)
        simp at z
      · obtain ⟨x0, a1, l1, c1, a2, l2, c2, rfl, H1, H2, bl⟩ := h
        refine hJ _ _ ?_
        go_meet
        case rel => exact ⟨x0, a1, l1, c1, a2, l2, c2, rfl, H1, H2, bl⟩
    · exact ⟨false, false, false, false, false, false, false, false, false, false, false, false, false, false, false, undef, undef, undef, undef, undef, undef, undef, undef, undef, undef, undef, undef, undef, undef, undef, undef, rfl, Or.inl ⟨rfl, ⟨{ bel := (Below.refl _ _).drew, o0 := (by intro q; cases q), o1 := (by intro q; cases q), o2 := (by intro q; cases q), o3 := (by intro q; cases q), o4 := (by intro q; cases q), o5 := (by intro q; cases q), o6 := (by intro q; cases q), o7 := (by intro q; cases q), o8 := (by intro q; cases q), o9 := (by intro q; cases q), o10 := (by intro q; cases q), o11 := (by intro q; cases q), o12 := (by intro q; cases q), o13 := (by intro q; cases q), o14 := (by intro q; cases q), d1_0 := (by intro q; cases q), d2_1 := (by intro q; cases q), d4_3 := (by intro q; cases q), d5_4 := (by intro q; cases q), d6_2 := (by intro q; cases q), d6_5 := (by intro q; cases q), d8_7 := (by intro q; cases q), d10_8 := (by intro q; cases q), d10_9 := (by intro q; cases q), d12_11 := (by intro q; cases q), d14_12 := (by intro q; cases q), d14_13 := (by intro q; cases q) }, rfl⟩⟩⟩
  case rest =>
    obtain ⟨x0, a1, l1, c1, a2, l2, c2, rfl, H1, H2, bl⟩ := hcut
    have kr := K1.grow bl
    have q7 := H1.putF (x := .bool false) (y := .slice a1 l1 c1) (z := .slice a2 l2 c2) kr
    have q8 := H2.putF (x := .bool false) (y := .slice a1 l1 c1) (z := .slice a2 l2 c2) kr
    obtain ⟨z0, z1, z2⟩ := kr.put (.bool false) (.slice a1 l1 c1) (.slice a2 l2 c2)
    have bE := bset3 (n := w.heap.size + 1) (x := .bool false) (y := .slice a1 l1 c1) (z := .slice a2 l2 c2) (bel' pr bl) (by omega)
    go_wp2_with fail
    generalize ((x0.setCell ⟨w.heap.size + 1, 0, none⟩ (.bool false)).setCell ⟨w.heap.size + 1, 1, none⟩ (.slice a1 l1 c1)).setCell ⟨w.heap.size + 1, 2, none⟩ (.slice a2 l2 c2) = WE at *
    exact bodyPost_ret (v := .agg #[.bool false, .slice a1 l1 c1, .slice a2 l2 c2]) (by simp [results, Tryz.results56, go_sem, z0, z1, z2]) rfl ⟨a1, l1, c1, a2, l2, c2, rfl, q7, q8, bE⟩
theorem lt_npow {N n K : Nat} {xs : List Int} (v : Tl.val xs = (N : Int)) (h : ((N ^ n : Nat) : Int) < Tl.pw K) : Tl.val xs ^ n < Tl.pw K := by
  rw [v, ← Int.natCast_pow]; exact h
/-- Q's Pow of the reference, of a number not below nought. -/
theorem QPow_q (v : Value) (r : Rat) (n : Nat) (K : Nat) (w : World) (h : L.IsQ w v r) (h0 : decide (r.num < 0) = false) (hn : n < 9223372036854775808) (hs : L.QS (r ^ n) K) (hK : K ≤ 100000000) (hK1 : 1 < Tl.pw K) :
    Calls Tryz.prog 56 #[v, .int .i64 n] w (Qf (r ^ n) w) := by
  obtain ⟨a, l, c, a', l', c', rfl, n1, n2, _⟩ := nl_isq h
  rw [h0]
  have C : ∀ (a : Option Addr) (l c N : Nat), Nl w a l c (N : Int) → ((N ^ n : Nat) : Int) < Tl.pw K → ∀ x, Below w.heap.size w x → Calls Tryz.prog 114 #[.slice a l c, .int .i64 (n : Int)] x fun e w' => ∃ a l c, e = .returned (.slice a l c) ∧ Nl w' a l c ((N ^ n : Nat) : Int) ∧ Below x.heap.size x w' := by
    intro a l c N k hb x b
    obtain ⟨xs, r1, n1, v1⟩ := k.grow b
    refine (L.Pow_any _ xs n K x r1 n1 hn (lt_npow v1 hb) hK1 (by omega)).mono ?_
    rintro e w' ⟨u, zs, rfl, q1, q2, q3, bb⟩
    obtain ⟨a, c, rfl, _⟩ := q1.2
    exact ⟨a, _, c, rfl, ⟨zs, q1, q2, by rw [q3, v1, ← Int.natCast_pow]⟩, bb⟩
  have s1 : ((r.num.natAbs ^ n : Nat) : Int) < Tl.pw K := by have := hs.1; rwa [Rat.num_pow, Int.natAbs_pow] at this
  have s2 : ((r.den ^ n : Nat) : Int) < Tl.pw K := by have := hs.2; rwa [Rat.den_pow] at this
  refine (QPow_r a a' l c l' c' n _ _ w (C a l c _ n1 s1) (C a' l' c' _ n2 s2)).mono ?_
  rintro e w' ⟨a, l, c, a', l', c', rfl, q1, q2, b⟩
  have e0 : decide ((r ^ n).num < 0) = false := by
    rw [Rat.num_pow]
    have := pow_nn (x := r.num) (by have := of_decide_eq_false h0; omega) n
    exact decide_eq_false (by omega)
  refine ⟨_, a, l, c, a', l', c', rfl, ?_, b⟩
  rw [← e0]
  exact isq_nl (by rw [Rat.num_pow, Int.natAbs_pow]; exact q1) (by rw [Rat.den_pow]; exact q2)
end Go.Proofs.YtebilgnmnambnaaGreatDoor.Mo
