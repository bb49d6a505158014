import Derived.Test.YtiaeoknmgidehaaGreatDoorPart41
import Derived.Test.YtiaeoknmgidehaaGreatDoorPart42
import Derived.Test.YtiaeoknmgidehaaGreatDoorPart04
import Derived.Deep.DeepCutAuto
import Derived.Test.YtiaeoknmgidehaaGreatDoorPart36

namespace Go.Proofs.YtiaeoknmgidehaaGreatDoor.Mo
open Go.RowKit Fu Tn Go.Lib Wt

structure IP2 (W x : World) (V0 V1 V2 V6 V7 V8 V9 V11 V12 V13 : Value) (N10 N14 : Int) (y0 y1 y2 y3 y4 y5 y6 y7 y8 y9 y10 y11 y12 y13 y14 : Bool) (t11 t12 t13 t14 t15 t16 t17 t18 t19 t20 t21 t22 t23 t24 t25 : Value) : Prop where
  bel : Below W.heap.size W x
  o0 : y0 = true → t11 = V0
  o1 : y1 = true → t12 = V1
  o2 : y2 = true → t13 = V2
  o6 : y6 = true → t17 = V6
  o7 : y7 = true → t18 = V7
  o8 : y8 = true → t19 = V8
  o9 : y9 = true → t20 = V9
  o11 : y11 = true → t22 = V11
  o12 : y12 = true → t23 = V12
  o13 : y13 = true → t24 = V13
  o10 : y10 = true → NV N10 t21 x
  o14 : y14 = true → NV N14 t25 x
  o3 : y3 = true → t14 = undef
  o4 : y4 = true → t15 = undef
  o5 : y5 = true → t16 = undef
  d1_0 : y1 = true → y0 = true
  d2_1 : y2 = true → y1 = true
  d4_3 : y4 = true → y3 = true
  d5_4 : y5 = true → y4 = true
  d6_2 : y6 = true → y2 = true
  d6_5 : y6 = true → y5 = true
  d8_7 : y8 = true → y7 = true
  d10_8 : y10 = true → y8 = true
  d10_9 : y10 = true → y9 = true
  d12_11 : y12 = true → y11 = true
  d14_12 : y14 = true → y12 = true
  d14_13 : y14 = true → y13 = true
theorem IP2.grow {W x x' : World} {V0 V1 V2 V6 V7 V8 V9 V11 V12 V13 : Value} {N10 N14 : Int} {y0 y1 y2 y3 y4 y5 y6 y7 y8 y9 y10 y11 y12 y13 y14 : Bool} {t11 t12 t13 t14 t15 t16 t17 t18 t19 t20 t21 t22 t23 t24 t25 : Value} (h : IP2 W x V0 V1 V2 V6 V7 V8 V9 V11 V12 V13 N10 N14 y0 y1 y2 y3 y4 y5 y6 y7 y8 y9 y10 y11 y12 y13 y14 t11 t12 t13 t14 t15 t16 t17 t18 t19 t20 t21 t22 t23 t24 t25) (b : Below x.heap.size x x') : IP2 W x' V0 V1 V2 V6 V7 V8 V9 V11 V12 V13 N10 N14 y0 y1 y2 y3 y4 y5 y6 y7 y8 y9 y10 y11 y12 y13 y14 t11 t12 t13 t14 t15 t16 t17 t18 t19 t20 t21 t22 t23 t24 t25 where
  bel := bel' h.bel b
  o0 := h.o0
  o1 := h.o1
  o2 := h.o2
  o6 := h.o6
  o7 := h.o7
  o8 := h.o8
  o9 := h.o9
  o11 := h.o11
  o12 := h.o12
  o13 := h.o13
  o3 := h.o3
  o4 := h.o4
  o5 := h.o5
  o10 := fun u => (h.o10 u).grow b
  o14 := fun u => (h.o14 u).grow b
  d1_0 := h.d1_0
  d2_1 := h.d2_1
  d4_3 := h.d4_3
  d5_4 := h.d5_4
  d6_2 := h.d6_2
  d6_5 := h.d6_5
  d8_7 := h.d8_7
  d10_8 := h.d10_8
  d10_9 := h.d10_9
  d12_11 := h.d12_11
  d14_12 := h.d14_12
  d14_13 := h.d14_13
set_option maxHeartbeats 3200000 in
set_option maxRecDepth 100000 in
theorem Power_raw (B1 B2 A1 A2 : Option Addr) (J1 D1 J2 D2 M1 C1 M2 C2 : Nat) (n m P Q : Int) (w : World)
    (hc : (¬ n < 0 ∧ n = m ∧ (B1 = A1 ∧ J1 = M1 ∧ D1 = C1) ∧ B2 = A2 ∧ J2 = M2 ∧ D2 = C2) ∨ (n < 0 ∧ IntKind.i64.wrap (-n) = m ∧ (B1 = A2 ∧ J1 = M2 ∧ D1 = C2) ∧ B2 = A1 ∧ J2 = M1 ∧ D2 = C1))
    (U1 : ∀ x, Below w.heap.size w x → Calls Tryz.prog 61 #[.agg #[.slice A1 M1 C1], .int .i64 m] x fun e w' => ∃ a l c, e = .returned (.agg #[.slice a l c]) ∧ Nn w' a l c P ∧ Below x.heap.size x w') (U2 : ∀ x, Below w.heap.size w x → Calls Tryz.prog 61 #[.agg #[.slice A2 M2 C2], .int .i64 m] x fun e w' => ∃ a l c, e = .returned (.agg #[.slice a l c]) ∧ Nn w' a l c Q ∧ Below x.heap.size x w') :
    Calls Tryz.prog 29 #[.agg #[.bool false, .slice B1 J1 D1, .slice B2 J2 D2], .int .i64 n] w fun e w' => ∃ a l c a' l' c', e = .returned (.agg #[.bool false, .slice a l c, .slice a' l' c']) ∧ Nn w' a l c P ∧ Nn w' a' l' c' Q ∧ Below w.heap.size w w' := by
  have K0 := (Rb.new w (.bool false) (.slice B1 J1 D1) (.slice B2 J2 D2) 59).alloc (.cells #[.bool false, .slice none 0 0, .slice none 0 0] 59)
  have K1 := Rb.new (w.alloc (.cells #[.bool false, .slice B1 J1 D1, .slice B2 J2 D2] 59)) (.bool false) (.slice none 0 0) (.slice none 0 0) 59
  have pr : Below w.heap.size w ((w.alloc (.cells #[.bool false, .slice B1 J1 D1, .slice B2 J2 D2] 59)).alloc (.cells #[.bool false, .slice none 0 0, .slice none 0 0] 59)) := ((Below.refl _ _).alloc (Nat.le_refl _) _).alloc (by simp) _
  simp only [World.size_alloc] at K1
  have V := fun x => Inverse_any false B1 B2 J1 D1 J2 D2 x
  go_enter Tryz.func29, Tryz.ntmps29
  go_upto_if 6 with fail
  generalize (w.alloc (.cells #[.bool false, .slice B1 J1 D1, .slice B2 J2 D2] 59)).alloc (.cells #[.bool false, .slice none 0 0, .slice none 0 0] 59) = W at *
  go_cut [1] from 5 to 10 (fun v wc => v = .int .i64 m ∧ Rb wc w.heap.size (.bool false) (.slice A1 M1 C1) (.slice A2 M2 C2) ∧ Rb wc (w.heap.size + 1) (.bool false) (.slice none 0 0) (.slice none 0 0) ∧ Below w.heap.size w wc)
  case first =>
    rcases hc with ⟨h0, rfl, ⟨rfl, rfl, rfl⟩, rfl, rfl, rfl⟩ | ⟨h0, hm, ⟨rfl, rfl, rfl⟩, rfl, rfl, rfl⟩
    · go_wp2_with fail
      go_meet
      case rel => exact ⟨rfl, K0, K1, pr⟩
    · have k0 := K0.c0
      have k1 := K0.c1
      have k2 := K0.c2
      go_wp2_with (first
        | (go_at_call 60; refine (V _).mono ?_; rintro e w1 ⟨rfl, bb⟩; have u0 := (K0.grow bb).c0; have u1 := (K0.grow bb).c1; have u2 := (K0.grow bb).c2; have g0 := (K0.grow bb).f0; have g1 := (K0.grow bb).f1; have g2 := (K0.grow bb).f2)
        | fail)
      go_meet
      case rel => exact ⟨rfl, (K0.grow bb).sets _ _ _, (K1.grow bb).skip3 (by omega) _ _ _, bset3 (bel' pr bb) (Nat.le_refl _)⟩
  case rest =>
    clear K0 K1 pr V hc
    obtain ⟨rfl, K0, K1, pr⟩ := hcut
    replace U1 := fun x b => U1 x (bel' pr b)
    replace U2 := fun x b => U2 x (bel' pr b)
    go_wp2_with fail
    go_cut [] from 11 to 26 (fun wd => ∃ x0 a1 l1 c1 a2 l2 c2, wd = ((x0.setCell ⟨w.heap.size + 1, 0, none⟩ (.bool false)).setCell ⟨w.heap.size + 1, 1, none⟩ (.slice a1 l1 c1)).setCell ⟨w.heap.size + 1, 2, none⟩ (.slice a2 l2 c2) ∧ Nn x0 a1 l1 c1 P ∧ Nn x0 a2 l2 c2 Q ∧ Below wc.heap.size wc x0)
    case first =>
      rename_i hm hJ
      refine wp_region_held (S := fun _ => True) (by kernel_rfl) (any_inv (fun listed a x => ∃ (y0 y1 y2 y3 y4 y5 y6 y7 y8 y9 y10 y11 y12 y13 y14 : Bool) (t11 t12 t13 t14 t15 t16 t17 t18 t19 t20 t21 t22 t23 t24 t25 : Value) (z26 : Value), a = ⟨#[.agg #[.bool false, .slice B1 J1 D1, .slice B2 J2 D2], .int .i64 m, .pointer (some ⟨w.heap.size, 0, none⟩), undef, .pointer (some ⟨w.heap.size + 1, 0, none⟩), u5, u6, u7, u8, u9, u10, t11, t12, t13, t14, t15, t16, t17, t18, t19, t20, t21, t22, t23, t24, t25, z26], []⟩ ∧ ((listed = #[y0, y1, y2, y3, y4, y5, y6, y7, y8, y9, y10, y11, y12, y13, y14, false, false] ∧ IP2 wc x (.pointer (some ⟨w.heap.size, 0, none⟩)) (.bool false) (.bool false) (.bool false) (.pointer (some ⟨w.heap.size, 1, none⟩)) (.agg #[.slice A1 M1 C1]) (.int .i64 m) (.pointer (some ⟨w.heap.size, 2, none⟩)) (.agg #[.slice A2 M2 C2]) (.int .i64 m) (P) (Q) y0 y1 y2 y3 y4 y5 y6 y7 y8 y9 y10 y11 y12 y13 y14 t11 t12 t13 t14 t15 t16 t17 t18 t19 t20 t21 t22 t23 t24 t25 ∧ z26 = undef) ∨ (listed = #[true, true, true, true, true, true, true, true, true, true, true, true, true, true, true, true, false] ∧ ∃ a1 l1 c1 a2 l2 c2, z26 = .agg #[.bool false, .slice a1 l1 c1, .slice a2 l2 c2] ∧ Nn x a1 l1 c1 P ∧ Nn x a2 l2 c2 Q ∧ Below wc.heap.size wc x) ∨ (listed = #[true, true, true, true, true, true, true, true, true, true, true, true, true, true, true, true, true] ∧ ∃ x0 a1 l1 c1 a2 l2 c2, x = ((x0.setCell ⟨w.heap.size + 1, 0, none⟩ (.bool false)).setCell ⟨w.heap.size + 1, 1, none⟩ (.slice a1 l1 c1)).setCell ⟨w.heap.size + 1, 2, none⟩ (.slice a2 l2 c2) ∧ Nn x0 a1 l1 c1 P ∧ Nn x0 a2 l2 c2 Q ∧ Below wc.heap.size wc x0))) ?_ ?_ _ _ _ _ (by decide) ?_)
      · rintro listed a x i ⟨y0, y1, y2, y3, y4, y5, y6, y7, y8, y9, y10, y11, y12, y13, y14, t11, t12, t13, t14, t15, t16, t17, t18, t19, t20, t21, t22, t23, t24, t25, z26, rfl, h⟩ hi
        have hr : i < 17 := List.mem_range.1 (List.mem_filter.1 hi).1
        have hc := (List.mem_filter.1 hi).2
        rcases h with ⟨rfl, h⟩ | ⟨rfl, h⟩ | ⟨rfl, h⟩
        · rcases (show i = 0 ∨ i = 1 ∨ i = 2 ∨ i = 3 ∨ i = 4 ∨ i = 5 ∨ i = 6 ∨ i = 7 ∨ i = 8 ∨ i = 9 ∨ i = 10 ∨ i = 11 ∨ i = 12 ∨ i = 13 ∨ i = 14 ∨ i = 15 ∨ i = 16 by omega) with rfl | rfl | rfl | rfl | rfl | rfl | rfl | rfl | rfl | rfl | rfl | rfl | rfl | rfl | rfl | rfl | rfl
          · obtain ⟨h, rfl⟩ := h
            clear hc hi
            refine wpOp_go rfl rfl (fun K hK => ?_)
            go_wp2_with fail
            exact hK.out _ _ ⟨true, y1, y2, y3, y4, y5, y6, y7, y8, y9, y10, y11, y12, y13, y14, .pointer (some ⟨w.heap.size, 0, none⟩), t12, t13, t14, t15, t16, t17, t18, t19, t20, t21, t22, t23, t24, t25, undef, rfl, Or.inl ⟨rfl, ⟨{ h with o0 := fun _ => rfl, d1_0 := fun _ => rfl }, rfl⟩⟩⟩
          · obtain ⟨h, rfl⟩ := h
            have e0 : y0 = true := by revert hc; cases y0 <;> simp [Region.binds]
            have r0 := h.o0 e0; subst r0
            clear hc hi
            have kd := (K0.grow h.bel).c0
            refine wpOp_go rfl rfl (fun K hK => ?_)
            go_wp2_with fail
            exact hK.out _ _ ⟨y0, true, y2, y3, y4, y5, y6, y7, y8, y9, y10, y11, y12, y13, y14, _, .bool false, t13, t14, t15, t16, t17, t18, t19, t20, t21, t22, t23, t24, t25, undef, rfl, Or.inl ⟨rfl, ⟨{ h with o1 := fun _ => rfl, d1_0 := fun _ => e0, d2_1 := fun _ => rfl }, rfl⟩⟩⟩
          · obtain ⟨h, rfl⟩ := h
            have e1 : y1 = true := by revert hc; cases y1 <;> simp [Region.binds]
            have r1 := h.o1 e1; subst r1
            clear hc hi
            refine wpOp_go rfl rfl (fun K hK => ?_)
            go_wp2_with fail
            exact hK.out _ _ ⟨y0, y1, true, y3, y4, y5, y6, y7, y8, y9, y10, y11, y12, y13, y14, t11, _, .bool false, t14, t15, t16, t17, t18, t19, t20, t21, t22, t23, t24, t25, undef, rfl, Or.inl ⟨rfl, ⟨{ h with o2 := fun _ => rfl, d2_1 := fun _ => e1, d6_2 := fun _ => rfl }, rfl⟩⟩⟩
          · obtain ⟨h, rfl⟩ := h
            have e2 : y2 = true := by revert hc; cases y2 <;> simp [Region.binds]
            have r2 := h.o2 e2; subst r2
            clear hc hi
            exact wpOp_skip rfl rfl ⟨y0, y1, y2, true, y4, y5, y6, y7, y8, y9, y10, y11, y12, y13, y14, t11, t12, _, _, t15, t16, t17, t18, t19, t20, t21, t22, t23, t24, t25, undef, rfl, Or.inl ⟨rfl, ⟨{ h with o3 := fun _ => rfl, d4_3 := fun _ => rfl }, rfl⟩⟩⟩
          · obtain ⟨h, rfl⟩ := h
            have e3 : y3 = true := by revert hc; cases y3 <;> simp [Region.binds]
            have e2 : y2 = true := by revert hc; cases y2 <;> simp [Region.binds]
            have r2 := h.o2 e2; subst r2
            clear hc hi
            exact wpOp_skip rfl rfl ⟨y0, y1, y2, y3, true, y5, y6, y7, y8, y9, y10, y11, y12, y13, y14, t11, t12, _, t14, _, t16, t17, t18, t19, t20, t21, t22, t23, t24, t25, undef, rfl, Or.inl ⟨rfl, ⟨{ h with o4 := fun _ => rfl, d4_3 := fun _ => e3, d5_4 := fun _ => rfl }, rfl⟩⟩⟩
          · obtain ⟨h, rfl⟩ := h
            have e4 : y4 = true := by revert hc; cases y4 <;> simp [Region.binds]
            have e2 : y2 = true := by revert hc; cases y2 <;> simp [Region.binds]
            have r2 := h.o2 e2; subst r2
            clear hc hi
            exact wpOp_skip rfl rfl ⟨y0, y1, y2, y3, y4, true, y6, y7, y8, y9, y10, y11, y12, y13, y14, t11, t12, _, t14, t15, _, t17, t18, t19, t20, t21, t22, t23, t24, t25, undef, rfl, Or.inl ⟨rfl, ⟨{ h with o5 := fun _ => rfl, d5_4 := fun _ => e4, d6_5 := fun _ => rfl }, rfl⟩⟩⟩
          · obtain ⟨h, rfl⟩ := h
            have e2 : y2 = true := by revert hc; cases y2 <;> simp [Region.binds]
            have e5 : y5 = true := by revert hc; cases y5 <;> simp [Region.binds]
            have r2 := h.o2 e2; subst r2
            have r5 := h.o5 e5; subst r5
            clear hc hi
            refine wpOp_go rfl rfl (fun K hK => ?_)
            go_wp2_with fail
            exact hK.out _ _ ⟨y0, y1, y2, y3, y4, y5, true, y7, y8, y9, y10, y11, y12, y13, y14, t11, t12, _, t14, t15, _, .bool false, t18, t19, t20, t21, t22, t23, t24, t25, undef, rfl, Or.inl ⟨rfl, ⟨{ h with o6 := fun _ => rfl, d6_2 := fun _ => e2, d6_5 := fun _ => e5 }, rfl⟩⟩⟩
          · obtain ⟨h, rfl⟩ := h
            clear hc hi
            refine wpOp_go rfl rfl (fun K hK => ?_)
            go_wp2_with fail
            exact hK.out _ _ ⟨y0, y1, y2, y3, y4, y5, y6, true, y8, y9, y10, y11, y12, y13, y14, t11, t12, t13, t14, t15, t16, t17, .pointer (some ⟨w.heap.size, 1, none⟩), t19, t20, t21, t22, t23, t24, t25, undef, rfl, Or.inl ⟨rfl, ⟨{ h with o7 := fun _ => rfl, d8_7 := fun _ => rfl }, rfl⟩⟩⟩
          · obtain ⟨h, rfl⟩ := h
            have e7 : y7 = true := by revert hc; cases y7 <;> simp [Region.binds]
            have r7 := h.o7 e7; subst r7
            clear hc hi
            have kd := (K0.grow h.bel).c1
            refine wpOp_go rfl rfl (fun K hK => ?_)
            go_wp2_with fail
            exact hK.out _ _ ⟨y0, y1, y2, y3, y4, y5, y6, y7, true, y9, y10, y11, y12, y13, y14, t11, t12, t13, t14, t15, t16, t17, _, .agg #[.slice A1 M1 C1], t20, t21, t22, t23, t24, t25, undef, rfl, Or.inl ⟨rfl, ⟨{ h with o8 := fun _ => rfl, d8_7 := fun _ => e7, d10_8 := fun _ => rfl }, rfl⟩⟩⟩
          · obtain ⟨h, rfl⟩ := h
            clear hc hi
            refine wpOp_go rfl rfl (fun K hK => ?_)
            go_wp2_with fail
            exact hK.out _ _ ⟨y0, y1, y2, y3, y4, y5, y6, y7, y8, true, y10, y11, y12, y13, y14, t11, t12, t13, t14, t15, t16, t17, t18, t19, .int .i64 m, t21, t22, t23, t24, t25, undef, rfl, Or.inl ⟨rfl, ⟨{ h with o9 := fun _ => rfl, d10_9 := fun _ => rfl }, rfl⟩⟩⟩
          · obtain ⟨h, rfl⟩ := h
            have e8 : y8 = true := by revert hc; cases y8 <;> simp [Region.binds]
            have e9 : y9 = true := by revert hc; cases y9 <;> simp [Region.binds]
            have r8 := h.o8 e8; subst r8
            have r9 := h.o9 e9; subst r9
            clear hc hi
            refine wpOp_go rfl rfl (fun K hK => ?_)
            go_wp2_with (first | (go_at_call 61; go_must (refine (U1 x h.bel).mono ?_; rintro e x2 ⟨a9, l9, c9, rfl, H9, bb⟩)) | fail)
            exact hK.out _ _ ⟨y0, y1, y2, y3, y4, y5, y6, y7, y8, y9, true, y11, y12, y13, y14, t11, t12, t13, t14, t15, t16, t17, t18, _, _, _, t22, t23, t24, t25, undef, rfl, Or.inl ⟨rfl, ⟨{ h.grow bb with o10 := fun _ => ⟨a9, l9, c9, rfl, H9⟩, d10_8 := fun _ => e8, d10_9 := fun _ => e9 }, rfl⟩⟩⟩
          · obtain ⟨h, rfl⟩ := h
            clear hc hi
            refine wpOp_go rfl rfl (fun K hK => ?_)
            go_wp2_with fail
            exact hK.out _ _ ⟨y0, y1, y2, y3, y4, y5, y6, y7, y8, y9, y10, true, y12, y13, y14, t11, t12, t13, t14, t15, t16, t17, t18, t19, t20, t21, .pointer (some ⟨w.heap.size, 2, none⟩), t23, t24, t25, undef, rfl, Or.inl ⟨rfl, ⟨{ h with o11 := fun _ => rfl, d12_11 := fun _ => rfl }, rfl⟩⟩⟩
          · obtain ⟨h, rfl⟩ := h
            have e11 : y11 = true := by revert hc; cases y11 <;> simp [Region.binds]
            have r11 := h.o11 e11; subst r11
            clear hc hi
            have kd := (K0.grow h.bel).c2
            refine wpOp_go rfl rfl (fun K hK => ?_)
            go_wp2_with fail
            exact hK.out _ _ ⟨y0, y1, y2, y3, y4, y5, y6, y7, y8, y9, y10, y11, true, y13, y14, t11, t12, t13, t14, t15, t16, t17, t18, t19, t20, t21, _, .agg #[.slice A2 M2 C2], t24, t25, undef, rfl, Or.inl ⟨rfl, ⟨{ h with o12 := fun _ => rfl, d12_11 := fun _ => e11, d14_12 := fun _ => rfl }, rfl⟩⟩⟩
          · obtain ⟨h, rfl⟩ := h
            clear hc hi
            refine wpOp_go rfl rfl (fun K hK => ?_)
            go_wp2_with fail
            exact hK.out _ _ ⟨y0, y1, y2, y3, y4, y5, y6, y7, y8, y9, y10, y11, y12, true, y14, t11, t12, t13, t14, t15, t16, t17, t18, t19, t20, t21, t22, t23, .int .i64 m, t25, undef, rfl, Or.inl ⟨rfl, ⟨{ h with o13 := fun _ => rfl, d14_13 := fun _ => rfl }, rfl⟩⟩⟩
          · obtain ⟨h, rfl⟩ := h
            have e12 : y12 = true := by revert hc; cases y12 <;> simp [Region.binds]
            have e13 : y13 = true := by revert hc; cases y13 <;> simp [Region.binds]
            have r12 := h.o12 e12; subst r12
            have r13 := h.o13 e13; subst r13
            clear hc hi
            refine wpOp_go rfl rfl (fun K hK => ?_)
            go_wp2_with (first | (go_at_call 61; go_must (refine (U2 x h.bel).mono ?_; rintro e x2 ⟨a9, l9, c9, rfl, H9, bb⟩)) | fail)
            exact hK.out _ _ ⟨y0, y1, y2, y3, y4, y5, y6, y7, y8, y9, y10, y11, y12, y13, true, t11, t12, t13, t14, t15, t16, t17, t18, t19, t20, t21, t22, _, _, _, undef, rfl, Or.inl ⟨rfl, ⟨{ h.grow bb with o14 := fun _ => ⟨a9, l9, c9, rfl, H9⟩, d14_12 := fun _ => e12, d14_13 := fun _ => e13 }, rfl⟩⟩⟩
          · obtain ⟨h, rfl⟩ := h
            have e6 : y6 = true := by revert hc; cases y6 <;> simp [Region.binds]
            have e10 : y10 = true := by revert hc; cases y10 <;> simp [Region.binds]
            have e14 : y14 = true := by revert hc; cases y14 <;> simp [Region.binds]
            have e2 := h.d6_2 e6
            have e5 := h.d6_5 e6
            have e8 := h.d10_8 e10
            have e9 := h.d10_9 e10
            have e12 := h.d14_12 e14
            have e13 := h.d14_13 e14
            have e1 := h.d2_1 e2
            have e4 := h.d5_4 e5
            have e7 := h.d8_7 e8
            have e11 := h.d12_11 e12
            have e0 := h.d1_0 e1
            have e3 := h.d4_3 e4
            have r6 := h.o6 e6; subst r6
            obtain ⟨a10, l10, c10, rfl, H10⟩ := h.o10 e10
            obtain ⟨a14, l14, c14, rfl, H14⟩ := h.o14 e14
            clear hc hi
            subst e0 e1 e2 e3 e4 e5 e6 e7 e8 e9 e10 e11 e12 e13 e14
            have bl := h.bel
            clear h
            refine wpOp_go rfl rfl (fun K hK => ?_)
            go_wp2_with fail
            exact hK.out _ _ ⟨true, true, true, true, true, true, true, true, true, true, true, true, true, true, true, t11, t12, t13, t14, t15, t16, _, t18, t19, t20, _, t22, t23, t24, _, _, rfl, Or.inr (Or.inl ⟨rfl, a10, l10, c10, a14, l14, c14, rfl, H10, H14, bl⟩)⟩
          · simp [Region.binds] at hc
        · rcases (show i = 0 ∨ i = 1 ∨ i = 2 ∨ i = 3 ∨ i = 4 ∨ i = 5 ∨ i = 6 ∨ i = 7 ∨ i = 8 ∨ i = 9 ∨ i = 10 ∨ i = 11 ∨ i = 12 ∨ i = 13 ∨ i = 14 ∨ i = 15 ∨ i = 16 by omega) with rfl | rfl | rfl | rfl | rfl | rfl | rfl | rfl | rfl | rfl | rfl | rfl | rfl | rfl | rfl | rfl | rfl
          · simp at hc
          · simp at hc
          · simp at hc
          · simp at hc
          · simp at hc
          · simp at hc
          · simp at hc
          · simp at hc
          · simp at hc
          · simp at hc
          · simp at hc
          · simp at hc
          · simp at hc
          · simp at hc
          · simp at hc
          · simp at hc
          · clear hc hi
            obtain ⟨a1, l1, c1, a2, l2, c2, rfl, H1, H2, bl⟩ := h
            have kr := K1.grow bl
            have kr0 := kr.c0
            have kr1 := kr.c1
            have kr2 := kr.c2
            have kf0 := kr.f0
            have kf1 := kr.f1
            have kf2 := kr.f2
            clear kr
            refine wpOp_go rfl rfl (fun K hK => ?_)
            go_wp2_with fail
            exact hK.out _ _ ⟨true, true, true, true, true, true, true, true, true, true, true, true, true, true, true, _, _, _, _, _, _, _, _, _, _, _, _, _, _, _, _, rfl, Or.inr (Or.inr (⟨rfl, x, a1, l1, c1, a2, l2, c2, rfl, H1, H2, bl⟩))⟩
        · rcases (show i = 0 ∨ i = 1 ∨ i = 2 ∨ i = 3 ∨ i = 4 ∨ i = 5 ∨ i = 6 ∨ i = 7 ∨ i = 8 ∨ i = 9 ∨ i = 10 ∨ i = 11 ∨ i = 12 ∨ i = 13 ∨ i = 14 ∨ i = 15 ∨ i = 16 by omega) with rfl | rfl | rfl | rfl | rfl | rfl | rfl | rfl | rfl | rfl | rfl | rfl | rfl | rfl | rfl | rfl | rfl <;> simp at hc
      · rintro listed a x ⟨y0, y1, y2, y3, y4, y5, y6, y7, y8, y9, y10, y11, y12, y13, y14, t11, t12, t13, t14, t15, t16, t17, t18, t19, t20, t21, t22, t23, t24, t25, z26, rfl, h⟩ hn
        have al := all_listed (by decide +kernel) hn
        rcases h with ⟨rfl, h⟩ | ⟨rfl, h⟩ | ⟨rfl, h⟩
        · have z := al 15 (by decide)
          simp at z
        · have z := al 16 (by decide)
          simp at z
        · obtain ⟨x0, a1, l1, c1, a2, l2, c2, rfl, H1, H2, bl⟩ := h
          refine hJ _ _ ?_
          go_meet
          case rel => exact ⟨x0, a1, l1, c1, a2, l2, c2, rfl, H1, H2, bl⟩
      · exact ⟨false, false, false, false, false, false, false, false, false, false, false, false, false, false, false, undef, undef, undef, undef, undef, undef, undef, undef, undef, undef, undef, undef, undef, undef, undef, undef, rfl, Or.inl ⟨rfl, ⟨{ bel := (Below.refl _ _).drew, o0 := (by intro q; cases q), o1 := (by intro q; cases q), o2 := (by intro q; cases q), o3 := (by intro q; cases q), o4 := (by intro q; cases q), o5 := (by intro q; cases q), o6 := (by intro q; cases q), o7 := (by intro q; cases q), o8 := (by intro q; cases q), o9 := (by intro q; cases q), o10 := (by intro q; cases q), o11 := (by intro q; cases q), o12 := (by intro q; cases q), o13 := (by intro q; cases q), o14 := (by intro q; cases q), d1_0 := (by intro q; cases q), d2_1 := (by intro q; cases q), d4_3 := (by intro q; cases q), d5_4 := (by intro q; cases q), d6_2 := (by intro q; cases q), d6_5 := (by intro q; cases q), d8_7 := (by intro q; cases q), d10_8 := (by intro q; cases q), d10_9 := (by intro q; cases q), d12_11 := (by intro q; cases q), d14_12 := (by intro q; cases q), d14_13 := (by intro q; cases q) }, rfl⟩⟩⟩
    case rest =>
      obtain ⟨x0, a1, l1, c1, a2, l2, c2, rfl, H1, H2, bl⟩ := hcut
      have kr := K1.grow bl
      have q7 := H1.putF (x := .bool false) (y := .slice a1 l1 c1) (z := .slice a2 l2 c2) kr
      have q8 := H2.putF (x := .bool false) (y := .slice a1 l1 c1) (z := .slice a2 l2 c2) kr
      obtain ⟨z0, z1, z2⟩ := kr.put (.bool false) (.slice a1 l1 c1) (.slice a2 l2 c2)
      have bE := bset3 (n := w.heap.size + 1) (x := .bool false) (y := .slice a1 l1 c1) (z := .slice a2 l2 c2) (bel' pr bl) (by omega)
      go_wp2_with fail
      generalize ((x0.setCell ⟨w.heap.size + 1, 0, none⟩ (.bool false)).setCell ⟨w.heap.size + 1, 1, none⟩ (.slice a1 l1 c1)).setCell ⟨w.heap.size + 1, 2, none⟩ (.slice a2 l2 c2) = WE at *
      exact bodyPost_ret (v := .agg #[.bool false, .slice a1 l1 c1, .slice a2 l2 c2]) (by simp [results, Tryz.results29, go_sem, z0, z1, z2]) rfl ⟨a1, l1, c1, a2, l2, c2, rfl, q7, q8, bE⟩
end Go.Proofs.YtiaeoknmgidehaaGreatDoor.Mo

namespace Go.Proofs.YtiaeoknmgidehaaGreatDoor.Mo
open Go.RowKit Tn

/-- A fraction is answered, as its parts. -/
def Fa (r : Rat) (x : World) (e : Ending) (w' : World) : Prop := ∃ g a l c a' l' c', e = .returned (.agg #[.bool g, .slice a l c, .slice a' l' c']) ∧ PF w' (.agg #[.bool g, .slice a l c, .slice a' l' c']) r ∧ Below x.heap.size x w'
/-- A fraction is read. -/
def Fr (r : Rat) (x : World) (e : Ending) (w' : World) : Prop := ∃ g a l c a' l' c', e = .returned (.tuple #[.agg #[.bool g, .slice a l c, .slice a' l' c'], .int .i64 0]) ∧ PF w' (.agg #[.bool g, .slice a l c, .slice a' l' c']) r ∧ Below x.heap.size x w'
theorem fa_of {P : Program} {f : Nat} {args : Array Value} {r : Rat} {x : World} (h : Calls P f args x fun e w' => ∃ v, e = .returned v ∧ PF w' v r ∧ Below x.heap.size x w') : Calls P f args x (Fa r x) := by
  refine h.mono ?_
  rintro e w' ⟨v, rfl, hp, b⟩
  obtain ⟨a, l, c, a', l', c', rfl, k1, k2⟩ := hp
  exact ⟨_, a, l, c, a', l', c', rfl, ⟨a, l, c, a', l', c', rfl, k1, k2⟩, b⟩
end Go.Proofs.YtiaeoknmgidehaaGreatDoor.Mo
