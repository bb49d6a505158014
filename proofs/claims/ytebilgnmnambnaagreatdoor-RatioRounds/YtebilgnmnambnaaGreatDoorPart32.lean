import Derived.Test.YtebilgnmnambnaaGreatDoorPart31
import Derived.Test.YtebilgnmnambnaaGreatDoorPart24
import Derived.Test.YtebilgnmnambnaaGreatDoorPart11
import Derived.Deep.DeepCutAuto
import Derived.Deep.RegionHeld3

namespace Go.Proofs.YtebilgnmnambnaaGreatDoor.Mo
open Go.RowKit Dc
def Ml (x : World) (a : Option Addr) (l c : Nat) (N : Int) : Prop := ∃ xs : List Int, L.Rd x (.slice a l c) xs ∧ Tl.Nm xs ∧ Tl.val xs = N ∧ xs.length ≤ 4096
theorem Ml.grow {x x' : World} {a : Option Addr} {l c : Nat} {N : Int} (h : Ml x a l c N) (b : Below x.heap.size x x') : Ml x' a l c N := by
  obtain ⟨xs, r, n, v, m⟩ := h
  exact ⟨xs, r.grow b, n, v, m⟩
def LV (N : Int) (t : Value) (x : World) : Prop := ∃ a l c, t = .slice a l c ∧ Ml x a l c N
theorem LV.grow {x x' : World} {N : Int} {t : Value} (h : LV N t x) (b : Below x.heap.size x x') : LV N t x' := by
  obtain ⟨a, l, c, e, h⟩ := h
  exact ⟨a, l, c, e, h.grow b⟩
theorem lv_one (x : World) (T : TypeId) : LV 1 (.slice (some ⟨x.heap.size, 0, none⟩) 1 1) (x.alloc (.cells #[.int .i64 1] T)) :=
  ⟨_, _, _, rfl, [1], L.rd_one (by simp) (by omega) (by omega), L.nm_one, by decide, by decide⟩
structure GD0 (W x : World) (V0 V1 V2 : Value) (y0 y1 y2 y3 y4 y5 y6 y7 y8 y9 y10 y11 : Bool) (t53 t54 t55 t56 t57 t58 t59 t60 t61 t62 t63 t64 : Value) : Prop where
  bel : Below W.heap.size W x
  o0 : y0 = true → t53 = V0
  o1 : y1 = true → t54 = V1
  o2 : y2 = true → t55 = V2
  o3 : y3 = true → t56 = undef
  o4 : y4 = true → t57 = undef
  o5 : y5 = true → t58 = undef
  o6 : y6 = true → t59 = undef
  o7 : y7 = true → t60 = undef
  o8 : y8 = true → t61 = undef
  o9 : y9 = true → t62 = undef
  o10 : y10 = true → t63 = undef
  o11 : y11 = true → t64 = undef
  d1_0 : y1 = true → y0 = true
  d2_1 : y2 = true → y1 = true
  d4_3 : y4 = true → y3 = true
  d6_5 : y6 = true → y5 = true
  d7_6 : y7 = true → y6 = true
  d8_4 : y8 = true → y4 = true
  d8_7 : y8 = true → y7 = true
  d10_8 : y10 = true → y8 = true
  d10_9 : y10 = true → y9 = true
  d11_10 : y11 = true → y10 = true
structure GD1 (W x : World) (V0 V1 V2 V3 V5 V6 V10 V11 : Value) (N4 N7 N8 N9 : Int) (y0 y1 y2 y3 y4 y5 y6 y7 y8 y9 y10 y11 : Bool) (t53 t54 t55 t56 t57 t58 t59 t60 t61 t62 t63 t64 : Value) : Prop where
  bel : Below W.heap.size W x
  o0 : y0 = true → t53 = V0
  o1 : y1 = true → t54 = V1
  o2 : y2 = true → t55 = V2
  o3 : y3 = true → t56 = V3
  o5 : y5 = true → t58 = V5
  o6 : y6 = true → t59 = V6
  o10 : y10 = true → t63 = V10
  o11 : y11 = true → t64 = V11
  o4 : y4 = true → LV N4 t57 x
  o7 : y7 = true → LV N7 t60 x
  o8 : y8 = true → LV N8 t61 x
  o9 : y9 = true → LV N9 t62 x
  d1_0 : y1 = true → y0 = true
  d2_1 : y2 = true → y1 = true
  d4_3 : y4 = true → y3 = true
  d6_5 : y6 = true → y5 = true
  d7_6 : y7 = true → y6 = true
  d8_4 : y8 = true → y4 = true
  d8_7 : y8 = true → y7 = true
  d10_8 : y10 = true → y8 = true
  d10_9 : y10 = true → y9 = true
  d11_10 : y11 = true → y10 = true
theorem GD1.grow {W x x' : World} {V0 V1 V2 V3 V5 V6 V10 V11 : Value} {N4 N7 N8 N9 : Int} {y0 y1 y2 y3 y4 y5 y6 y7 y8 y9 y10 y11 : Bool} {t53 t54 t55 t56 t57 t58 t59 t60 t61 t62 t63 t64 : Value} (h : GD1 W x V0 V1 V2 V3 V5 V6 V10 V11 N4 N7 N8 N9 y0 y1 y2 y3 y4 y5 y6 y7 y8 y9 y10 y11 t53 t54 t55 t56 t57 t58 t59 t60 t61 t62 t63 t64) (b : Below x.heap.size x x') : GD1 W x' V0 V1 V2 V3 V5 V6 V10 V11 N4 N7 N8 N9 y0 y1 y2 y3 y4 y5 y6 y7 y8 y9 y10 y11 t53 t54 t55 t56 t57 t58 t59 t60 t61 t62 t63 t64 where
  bel := bel' h.bel b
  o0 := h.o0
  o1 := h.o1
  o2 := h.o2
  o3 := h.o3
  o5 := h.o5
  o6 := h.o6
  o10 := h.o10
  o11 := h.o11
  o4 := fun u => (h.o4 u).grow b
  o7 := fun u => (h.o7 u).grow b
  o8 := fun u => (h.o8 u).grow b
  o9 := fun u => (h.o9 u).grow b
  d1_0 := h.d1_0
  d2_1 := h.d2_1
  d4_3 := h.d4_3
  d6_5 := h.d6_5
  d7_6 := h.d7_6
  d8_4 := h.d8_4
  d8_7 := h.d8_7
  d10_8 := h.d10_8
  d10_9 := h.d10_9
  d11_10 := h.d11_10
set_option maxRecDepth 100000 in
set_option maxHeartbeats 1600000 in
theorem Good_plain_h (n d : ByteArray) (w : World) (_ns : n.size ≤ 9223372036854775807) (_ds : d.size ≤ 9223372036854775807) (h0 : 0 < n.size) (z1 : (((n[0].toNat : Int)) == 45) = false) (z2 : n.toList.isEmpty = false) (D1 : ∀ x, Calls Tryz.prog 75 #[.string n] x fun e w' => e = .returned (.bool true) ∧ w' = x) (D2 : ∀ x, Calls Tryz.prog 75 #[.string d] x fun e w' => e = .returned (.bool true) ∧ w' = x) (hd0 : (d.toList == [48]) = false) (hq : (n.toList == [48]) = true) (hL : n.size ≤ 1) (ho : (!(d.toList == [49])) = false) (hl2 : d.size ≤ 4096) :
    Calls Tryz.prog 51 #[.agg #[.string n, .string d]] w fun e w' => e = .returned (.int .i64 0) ∧ Below w.heap.size w w' := by
  have K0 := Blk.new w #[.string n, .string d] 23
  have pr : Below w.heap.size w (w.alloc (.cells #[.string n, .string d] 23)) := (Below.refl _ _).alloc (Nat.le_refl _) _
  have hl1 : (n.size : Int) ≤ 4096 := by omega
  have hl3 : (d.size : Int) ≤ 4096 := by omega
  have hL1 : decide ((1 : Int) < (n.size : Int)) = false := by simp; omega
  go_enter Tryz.func51, Tryz.ntmps51
  go_upto_if 52 with (first
    | (go_at_call 75; (with_reducible refine (D1 _).mono ?_); rintro e w1 ⟨rfl, hw⟩; subst w1)
    | (go_at_call 75; (with_reducible refine (D2 _).mono ?_); rintro e w1 ⟨rfl, hw⟩; subst w1)
    | fail)
  generalize w.alloc (.cells #[.string n, .string d] 23) = W at *
  clear D1 D2
  go_cut [] from 4 to 52 (fun wc => W = wc)
  case first =>
    go_wp2_with fail
    go_meet
    case rel => rfl
  case rest =>
    subst hcut
    go_wp2_with fail
    go_cut [65] from 53 to 64 (fun x wd => x = .bool false ∧ Below W.heap.size W wd)
    case first =>
      rename_i hm hJ
      refine wp_region_held (S := fun _ => True) (by kernel_rfl) (any_inv (fun listed a x => ∃ (y0 y1 y2 y3 y4 y5 y6 y7 y8 y9 y10 y11 : Bool) (t53 t54 t55 t56 t57 t58 t59 t60 t61 t62 t63 t64 : Value) (z65 : Value), a = ⟨#[.agg #[.string n, .string d], .pointer (some ⟨w.heap.size, 0, none⟩), u2, .string n, u4, u5, u6, u7, u8, u9, u10, u11, u12, u13, u14, u15, u16, u17, u18, u19, u20, u21, u22, u23, u24, u25, u26, u27, u28, u29, u30, u31, u32, u33, u34, u35, u36, u37, u38, u39, u40, u41, u42, u43, u44, u45, u46, u47, u48, u49, u50, u51, u52, t53, t54, t55, t56, t57, t58, t59, t60, t61, t62, t63, t64, z65], []⟩ ∧ ((listed = #[y0, y1, y2, y3, y4, y5, y6, y7, y8, y9, y10, y11, false] ∧ GD0 W x (.string n) (.bool false) (.bool false) y0 y1 y2 y3 y4 y5 y6 y7 y8 y9 y10 y11 t53 t54 t55 t56 t57 t58 t59 t60 t61 t62 t63 t64 ∧ z65 = undef) ∨ (listed = #[true, true, true, true, true, true, true, true, true, true, true, true, true] ∧ z65 = .bool false ∧ Below W.heap.size W x))) ?_ ?_ _ _ _ _ (by decide) ?_)
      · rintro listed a x i ⟨y0, y1, y2, y3, y4, y5, y6, y7, y8, y9, y10, y11, t53, t54, t55, t56, t57, t58, t59, t60, t61, t62, t63, t64, z65, rfl, h⟩ hi
        have hr : i < 13 := List.mem_range.1 (List.mem_filter.1 hi).1
        have hc := (List.mem_filter.1 hi).2
        rcases h with ⟨rfl, h⟩ | ⟨rfl, h⟩
        · rcases (show i = 0 ∨ i = 1 ∨ i = 2 ∨ i = 3 ∨ i = 4 ∨ i = 5 ∨ i = 6 ∨ i = 7 ∨ i = 8 ∨ i = 9 ∨ i = 10 ∨ i = 11 ∨ i = 12 by omega) with rfl | rfl | rfl | rfl | rfl | rfl | rfl | rfl | rfl | rfl | rfl | rfl | rfl
          · obtain ⟨h, rfl⟩ := h
            clear hc hi
            refine wpOp_go rfl rfl (fun K hK => ?_)
            go_wp2_with fail
            exact hK.out _ _ ⟨true,_,_,_,_,_,_,_,_,_,_,_,.string n,_,_,_,_,_,_,_,_,_,_,_,undef,rfl,Or.inl ⟨rfl, ⟨{ h with o0 := fun _ => rfl, d1_0 := fun _ => rfl }, rfl⟩⟩⟩
          · obtain ⟨h, rfl⟩ := h
            have e0 : y0 = true := by revert hc; cases y0 <;> simp [Region.binds]
            have r0 := h.o0 e0; subst r0
            clear hc hi
            have q := hq
            refine wpOp_go rfl rfl (fun K hK => ?_)
            go_wp2_with fail
            exact hK.out _ _ ⟨_,true,_,_,_,_,_,_,_,_,_,_,_,.bool false,_,_,_,_,_,_,_,_,_,_,undef,rfl,Or.inl ⟨rfl, ⟨{ h with o1 := fun _ => rfl, d1_0 := fun _ => e0, d2_1 := fun _ => rfl }, rfl⟩⟩⟩
          · obtain ⟨h, rfl⟩ := h
            have e1 : y1 = true := by revert hc; cases y1 <;> simp [Region.binds]
            have r1 := h.o1 e1; subst r1
            clear hc hi
            refine wpOp_go rfl rfl (fun K hK => ?_)
            go_wp2_with fail
            exact hK.out _ _ ⟨_,_,true,_,_,_,_,_,_,_,_,_,_,_,.bool false,_,_,_,_,_,_,_,_,_,undef,rfl,Or.inl ⟨rfl, ⟨{ h with o2 := fun _ => rfl, d2_1 := fun _ => e1 }, rfl⟩⟩⟩
          · obtain ⟨h, rfl⟩ := h
            have e2 : y2 = true := by revert hc; cases y2 <;> simp [Region.binds]
            have r2 := h.o2 e2; subst r2
            clear hc hi
            exact wpOp_skip rfl rfl ⟨y0, y1, y2, true, y4, y5, y6, y7, y8, y9, y10, y11, t53, t54, _, _, t57, t58, t59, t60, t61, t62, t63, t64, undef, rfl, Or.inl ⟨rfl, ⟨{ h with o3 := fun _ => rfl, d4_3 := fun _ => rfl }, rfl⟩⟩⟩
          · obtain ⟨h, rfl⟩ := h
            have e3 : y3 = true := by revert hc; cases y3 <;> simp [Region.binds]
            have e2 : y2 = true := by revert hc; cases y2 <;> simp [Region.binds]
            have r2 := h.o2 e2; subst r2
            clear hc hi
            exact wpOp_skip rfl rfl ⟨y0, y1, y2, y3, true, y5, y6, y7, y8, y9, y10, y11, t53, t54, _, t56, _, t58, t59, t60, t61, t62, t63, t64, undef, rfl, Or.inl ⟨rfl, ⟨{ h with o4 := fun _ => rfl, d4_3 := fun _ => e3, d8_4 := fun _ => rfl }, rfl⟩⟩⟩
          · obtain ⟨h, rfl⟩ := h
            have e2 : y2 = true := by revert hc; cases y2 <;> simp [Region.binds]
            have r2 := h.o2 e2; subst r2
            clear hc hi
            exact wpOp_skip rfl rfl ⟨y0, y1, y2, y3, y4, true, y6, y7, y8, y9, y10, y11, t53, t54, _, t56, t57, _, t59, t60, t61, t62, t63, t64, undef, rfl, Or.inl ⟨rfl, ⟨{ h with o5 := fun _ => rfl, d6_5 := fun _ => rfl }, rfl⟩⟩⟩
          · obtain ⟨h, rfl⟩ := h
            have e5 : y5 = true := by revert hc; cases y5 <;> simp [Region.binds]
            have e2 : y2 = true := by revert hc; cases y2 <;> simp [Region.binds]
            have r2 := h.o2 e2; subst r2
            clear hc hi
            exact wpOp_skip rfl rfl ⟨y0, y1, y2, y3, y4, y5, true, y7, y8, y9, y10, y11, t53, t54, _, t56, t57, t58, _, t60, t61, t62, t63, t64, undef, rfl, Or.inl ⟨rfl, ⟨{ h with o6 := fun _ => rfl, d6_5 := fun _ => e5, d7_6 := fun _ => rfl }, rfl⟩⟩⟩
          · obtain ⟨h, rfl⟩ := h
            have e6 : y6 = true := by revert hc; cases y6 <;> simp [Region.binds]
            have e2 : y2 = true := by revert hc; cases y2 <;> simp [Region.binds]
            have r2 := h.o2 e2; subst r2
            clear hc hi
            exact wpOp_skip rfl rfl ⟨y0, y1, y2, y3, y4, y5, y6, true, y8, y9, y10, y11, t53, t54, _, t56, t57, t58, t59, _, t61, t62, t63, t64, undef, rfl, Or.inl ⟨rfl, ⟨{ h with o7 := fun _ => rfl, d7_6 := fun _ => e6, d8_7 := fun _ => rfl }, rfl⟩⟩⟩
          · obtain ⟨h, rfl⟩ := h
            have e7 : y7 = true := by revert hc; cases y7 <;> simp [Region.binds]
            have e4 : y4 = true := by revert hc; cases y4 <;> simp [Region.binds]
            have e2 : y2 = true := by revert hc; cases y2 <;> simp [Region.binds]
            have r2 := h.o2 e2; subst r2
            clear hc hi
            exact wpOp_skip rfl rfl ⟨y0, y1, y2, y3, y4, y5, y6, y7, true, y9, y10, y11, t53, t54, _, t56, t57, t58, t59, t60, _, t62, t63, t64, undef, rfl, Or.inl ⟨rfl, ⟨{ h with o8 := fun _ => rfl, d8_4 := fun _ => e4, d8_7 := fun _ => e7, d10_8 := fun _ => rfl }, rfl⟩⟩⟩
          · obtain ⟨h, rfl⟩ := h
            have e2 : y2 = true := by revert hc; cases y2 <;> simp [Region.binds]
            have r2 := h.o2 e2; subst r2
            clear hc hi
            exact wpOp_skip rfl rfl ⟨y0, y1, y2, y3, y4, y5, y6, y7, y8, true, y10, y11, t53, t54, _, t56, t57, t58, t59, t60, t61, _, t63, t64, undef, rfl, Or.inl ⟨rfl, ⟨{ h with o9 := fun _ => rfl, d10_9 := fun _ => rfl }, rfl⟩⟩⟩
          · obtain ⟨h, rfl⟩ := h
            have e9 : y9 = true := by revert hc; cases y9 <;> simp [Region.binds]
            have e8 : y8 = true := by revert hc; cases y8 <;> simp [Region.binds]
            have e2 : y2 = true := by revert hc; cases y2 <;> simp [Region.binds]
            have r2 := h.o2 e2; subst r2
            clear hc hi
            exact wpOp_skip rfl rfl ⟨y0, y1, y2, y3, y4, y5, y6, y7, y8, y9, true, y11, t53, t54, _, t56, t57, t58, t59, t60, t61, t62, _, t64, undef, rfl, Or.inl ⟨rfl, ⟨{ h with o10 := fun _ => rfl, d10_8 := fun _ => e8, d10_9 := fun _ => e9, d11_10 := fun _ => rfl }, rfl⟩⟩⟩
          · obtain ⟨h, rfl⟩ := h
            have e10 : y10 = true := by revert hc; cases y10 <;> simp [Region.binds]
            have e2 : y2 = true := by revert hc; cases y2 <;> simp [Region.binds]
            have r2 := h.o2 e2; subst r2
            clear hc hi
            exact wpOp_skip rfl rfl ⟨y0, y1, y2, y3, y4, y5, y6, y7, y8, y9, y10, true, t53, t54, _, t56, t57, t58, t59, t60, t61, t62, t63, _, undef, rfl, Or.inl ⟨rfl, ⟨{ h with o11 := fun _ => rfl, d11_10 := fun _ => e10 }, rfl⟩⟩⟩
          · obtain ⟨h, rfl⟩ := h
            have e2 : y2 = true := by revert hc; cases y2 <;> simp [Region.binds]
            have e11 : y11 = true := by revert hc; cases y11 <;> simp [Region.binds]
            have e1 := h.d2_1 e2
            have e10 := h.d11_10 e11
            have e0 := h.d1_0 e1
            have e8 := h.d10_8 e10
            have e9 := h.d10_9 e10
            have e4 := h.d8_4 e8
            have e7 := h.d8_7 e8
            have e3 := h.d4_3 e4
            have e6 := h.d7_6 e7
            have e5 := h.d6_5 e6
            have r2 := h.o2 e2; subst r2
            clear hc hi
            subst e0 e1 e2 e3 e4 e5 e6 e7 e8 e9 e10 e11
            have bl := h.bel
            clear h
            refine wpOp_go rfl rfl (fun K hK => ?_)
            go_wp2_with fail
            exact hK.out _ _ ⟨true,true,true,true,true,true,true,true,true,true,true,true,_,_,_,_,_,_,_,_,_,_,_,_,_,rfl,Or.inr (⟨rfl, rfl, bl⟩)⟩
        · rcases (show i = 0 ∨ i = 1 ∨ i = 2 ∨ i = 3 ∨ i = 4 ∨ i = 5 ∨ i = 6 ∨ i = 7 ∨ i = 8 ∨ i = 9 ∨ i = 10 ∨ i = 11 ∨ i = 12 by omega) with rfl | rfl | rfl | rfl | rfl | rfl | rfl | rfl | rfl | rfl | rfl | rfl | rfl <;> simp at hc
      · rintro listed a x ⟨y0, y1, y2, y3, y4, y5, y6, y7, y8, y9, y10, y11, t53, t54, t55, t56, t57, t58, t59, t60, t61, t62, t63, t64, z65, rfl, h⟩ hn
        have al := all_listed (by decide +kernel) hn
        rcases h with ⟨rfl, h⟩ | ⟨rfl, h⟩
        · have z := al 12 (by decide)
          simp at z
        · obtain ⟨rfl, bl⟩ := h
          refine hJ _ _ ?_
          go_meet
          case rel => exact ⟨rfl, bl⟩
      · exact ⟨false, false, false, false, false, false, false, false, false, false, false, false, undef, undef, undef, undef, undef, undef, undef, undef, undef, undef, undef, undef, undef, rfl, Or.inl ⟨rfl, ⟨{ bel := (Below.refl _ _).drew, o0 := (by intro q; cases q), o1 := (by intro q; cases q), o2 := (by intro q; cases q), o3 := (by intro q; cases q), o4 := (by intro q; cases q), o5 := (by intro q; cases q), o6 := (by intro q; cases q), o7 := (by intro q; cases q), o8 := (by intro q; cases q), o9 := (by intro q; cases q), o10 := (by intro q; cases q), o11 := (by intro q; cases q), d1_0 := (by intro q; cases q), d2_1 := (by intro q; cases q), d4_3 := (by intro q; cases q), d6_5 := (by intro q; cases q), d7_6 := (by intro q; cases q), d8_4 := (by intro q; cases q), d8_7 := (by intro q; cases q), d10_8 := (by intro q; cases q), d10_9 := (by intro q; cases q), d11_10 := (by intro q; cases q) }, rfl⟩⟩⟩
    case rest =>
      rename World => wd
      obtain ⟨rfl, b2⟩ := hcut
      go_wp2_with fail
      go_ret
      exact ⟨rfl, bel' pr b2⟩
set_option maxRecDepth 100000 in
set_option maxHeartbeats 1600000 in
theorem Good_plain_i (n d : ByteArray) (w : World) (_ns : n.size ≤ 9223372036854775807) (_ds : d.size ≤ 9223372036854775807) (h0 : 0 < n.size) (z1 : (((n[0].toNat : Int)) == 45) = false) (z2 : n.toList.isEmpty = false) (D1 : ∀ x, Calls Tryz.prog 75 #[.string n] x fun e w' => e = .returned (.bool true) ∧ w' = x) (D2 : ∀ x, Calls Tryz.prog 75 #[.string d] x fun e w' => e = .returned (.bool true) ∧ w' = x) (hd0 : (d.toList == [48]) = false) (hq : (n.toList == [48]) = false) (hl : n.size ≤ 4096) (hl2 : d.size ≤ 4096)
    (A B Gc Kc : Int) (z : Bool) (hz : (!(Kc == 0)) = z) (RS : ∀ x, Calls Tryz.prog 76 #[.string n] x fun e w' => ∃ a l c, e = .returned (.slice a l c) ∧ Ml w' a l c A ∧ Below x.heap.size x w') (RD : ∀ x, Calls Tryz.prog 76 #[.string d] x fun e w' => ∃ a l c, e = .returned (.slice a l c) ∧ Ml w' a l c B ∧ Below x.heap.size x w')
    (GC : ∀ x a l c a' l' c', Ml x a l c A → Ml x a' l' c' B → Calls Tryz.prog 112 #[.slice a l c, .slice a' l' c'] x fun e w' => ∃ a l c, e = .returned (.slice a l c) ∧ Ml w' a l c Gc ∧ Below x.heap.size x w') (CM : ∀ x a l c a' l' c', Ml x a l c Gc → Ml x a' l' c' 1 → Calls Tryz.prog 98 #[.slice a l c, .slice a' l' c'] x fun e w' => e = .returned (.int .i64 Kc) ∧ Below x.heap.size x w') :
    Calls Tryz.prog 51 #[.agg #[.string n, .string d]] w fun e w' => e = .returned (.int .i64 (if z = true then 5 else 0)) ∧ Below w.heap.size w w' := by
  have K0 := Blk.new w #[.string n, .string d] 23
  have pr : Below w.heap.size w (w.alloc (.cells #[.string n, .string d] 23)) := (Below.refl _ _).alloc (Nat.le_refl _) _
  have hl1 : (n.size : Int) ≤ 4096 := by omega
  have hl3 : (d.size : Int) ≤ 4096 := by omega
  go_enter Tryz.func51, Tryz.ntmps51
  go_upto_if 52 with (first
    | (go_at_call 75; (with_reducible refine (D1 _).mono ?_); rintro e w1 ⟨rfl, hw⟩; subst w1)
    | (go_at_call 75; (with_reducible refine (D2 _).mono ?_); rintro e w1 ⟨rfl, hw⟩; subst w1)
    | fail)
  generalize w.alloc (.cells #[.string n, .string d] 23) = W at *
  clear D1 D2
  go_cut [] from 4 to 52 (fun wc => W = wc)
  case first =>
    go_wp2_with fail
    go_meet
    case rel => rfl
  case rest =>
    subst hcut
    go_wp2_with fail
    go_cut [65] from 53 to 64 (fun x wd => x = .bool z ∧ Below W.heap.size W wd)
    case first =>
      rename_i hm hJ
      refine wp_region_held (S := fun _ => True) (by kernel_rfl) (any_inv (fun listed a x => ∃ (y0 y1 y2 y3 y4 y5 y6 y7 y8 y9 y10 y11 : Bool) (t53 t54 t55 t56 t57 t58 t59 t60 t61 t62 t63 t64 : Value) (z65 : Value), a = ⟨#[.agg #[.string n, .string d], .pointer (some ⟨w.heap.size, 0, none⟩), u2, .string n, u4, u5, u6, u7, u8, u9, u10, u11, u12, u13, u14, u15, u16, u17, u18, u19, u20, u21, u22, u23, u24, u25, u26, u27, u28, u29, u30, u31, u32, u33, u34, u35, u36, u37, u38, u39, u40, u41, u42, u43, u44, u45, u46, u47, u48, u49, u50, u51, u52, t53, t54, t55, t56, t57, t58, t59, t60, t61, t62, t63, t64, z65], []⟩ ∧ ((listed = #[y0, y1, y2, y3, y4, y5, y6, y7, y8, y9, y10, y11, false] ∧ GD1 W x (.string n) (.bool true) (.bool true) (.string n) (.pointer (some ⟨w.heap.size, 1, none⟩)) (.string d) (.int .i64 Kc) (.bool z) (A) (B) (Gc) (1) y0 y1 y2 y3 y4 y5 y6 y7 y8 y9 y10 y11 t53 t54 t55 t56 t57 t58 t59 t60 t61 t62 t63 t64 ∧ z65 = undef) ∨ (listed = #[true, true, true, true, true, true, true, true, true, true, true, true, true] ∧ z65 = .bool z ∧ Below W.heap.size W x))) ?_ ?_ _ _ _ _ (by decide) ?_)
      · rintro listed a x i ⟨y0, y1, y2, y3, y4, y5, y6, y7, y8, y9, y10, y11, t53, t54, t55, t56, t57, t58, t59, t60, t61, t62, t63, t64, z65, rfl, h⟩ hi
        have hr : i < 13 := List.mem_range.1 (List.mem_filter.1 hi).1
        have hc := (List.mem_filter.1 hi).2
        rcases h with ⟨rfl, h⟩ | ⟨rfl, h⟩
        · rcases (show i = 0 ∨ i = 1 ∨ i = 2 ∨ i = 3 ∨ i = 4 ∨ i = 5 ∨ i = 6 ∨ i = 7 ∨ i = 8 ∨ i = 9 ∨ i = 10 ∨ i = 11 ∨ i = 12 by omega) with rfl | rfl | rfl | rfl | rfl | rfl | rfl | rfl | rfl | rfl | rfl | rfl | rfl
          · obtain ⟨h, rfl⟩ := h
            clear hc hi
            refine wpOp_go rfl rfl (fun K hK => ?_)
            go_wp2_with fail
            exact hK.out _ _ ⟨true,_,_,_,_,_,_,_,_,_,_,_,.string n,_,_,_,_,_,_,_,_,_,_,_,undef,rfl,Or.inl ⟨rfl, ⟨{ h with o0 := fun _ => rfl, d1_0 := fun _ => rfl }, rfl⟩⟩⟩
          · obtain ⟨h, rfl⟩ := h
            have e0 : y0 = true := by revert hc; cases y0 <;> simp [Region.binds]
            have r0 := h.o0 e0; subst r0
            clear hc hi
            have q := hq
            refine wpOp_go rfl rfl (fun K hK => ?_)
            go_wp2_with fail
            exact hK.out _ _ ⟨_,true,_,_,_,_,_,_,_,_,_,_,_,.bool true,_,_,_,_,_,_,_,_,_,_,undef,rfl,Or.inl ⟨rfl, ⟨{ h with o1 := fun _ => rfl, d1_0 := fun _ => e0, d2_1 := fun _ => rfl }, rfl⟩⟩⟩
          · obtain ⟨h, rfl⟩ := h
            have e1 : y1 = true := by revert hc; cases y1 <;> simp [Region.binds]
            have r1 := h.o1 e1; subst r1
            clear hc hi
            refine wpOp_go rfl rfl (fun K hK => ?_)
            go_wp2_with fail
            exact hK.out _ _ ⟨_,_,true,_,_,_,_,_,_,_,_,_,_,_,.bool true,_,_,_,_,_,_,_,_,_,undef,rfl,Or.inl ⟨rfl, ⟨{ h with o2 := fun _ => rfl, d2_1 := fun _ => e1 }, rfl⟩⟩⟩
          · obtain ⟨h, rfl⟩ := h
            have e2 : y2 = true := by revert hc; cases y2 <;> simp [Region.binds]
            have r2 := h.o2 e2; subst r2
            clear hc hi
            refine wpOp_go rfl rfl (fun K hK => ?_)
            go_wp2_with fail
            exact hK.out _ _ ⟨_,_,_,true,_,_,_,_,_,_,_,_,_,_,_,.string n,_,_,_,_,_,_,_,_,undef,rfl,Or.inl ⟨rfl, ⟨{ h with o3 := fun _ => rfl, d4_3 := fun _ => rfl }, rfl⟩⟩⟩
          · obtain ⟨h, rfl⟩ := h
            have e2 : y2 = true := by revert hc; cases y2 <;> simp [Region.binds]
            have e3 : y3 = true := by revert hc; cases y3 <;> simp [Region.binds]
            have r2 := h.o2 e2; subst r2
            have r3 := h.o3 e3; subst r3
            clear hc hi
            refine wpOp_go rfl rfl (fun K hK => ?_)
            go_wp2_with (first | (go_at_call 76; go_must (refine (RS x).mono ?_; rintro e x2 ⟨a9, l9, c9, rfl, H9, bb⟩)) | fail)
            exact hK.out _ _ ⟨_,_,_,_,true,_,_,_,_,_,_,_,_,_,_,_,_,_,_,_,_,_,_,_,undef,rfl,Or.inl ⟨rfl, ⟨{ h.grow bb with o4 := fun _ => ⟨a9, l9, c9, rfl, H9⟩, d4_3 := fun _ => e3, d8_4 := fun _ => rfl }, rfl⟩⟩⟩
          · obtain ⟨h, rfl⟩ := h
            have e2 : y2 = true := by revert hc; cases y2 <;> simp [Region.binds]
            have r2 := h.o2 e2; subst r2
            clear hc hi
            refine wpOp_go rfl rfl (fun K hK => ?_)
            go_wp2_with fail
            exact hK.out _ _ ⟨_,_,_,_,_,true,_,_,_,_,_,_,_,_,_,_,_,.pointer (some ⟨w.heap.size, 1, none⟩),_,_,_,_,_,_,undef,rfl,Or.inl ⟨rfl, ⟨{ h with o5 := fun _ => rfl, d6_5 := fun _ => rfl }, rfl⟩⟩⟩
          · obtain ⟨h, rfl⟩ := h
            have e2 : y2 = true := by revert hc; cases y2 <;> simp [Region.binds]
            have e5 : y5 = true := by revert hc; cases y5 <;> simp [Region.binds]
            have r2 := h.o2 e2; subst r2
            have r5 := h.o5 e5; subst r5
            clear hc hi
            have kd := (K0.below h.bel K0.lt).at 1
            simp at kd
            refine wpOp_go rfl rfl (fun K hK => ?_)
            go_wp2_with fail
            exact hK.out _ _ ⟨_,_,_,_,_,_,true,_,_,_,_,_,_,_,_,_,_,_,.string d,_,_,_,_,_,undef,rfl,Or.inl ⟨rfl, ⟨{ h with o6 := fun _ => rfl, d6_5 := fun _ => e5, d7_6 := fun _ => rfl }, rfl⟩⟩⟩
          · obtain ⟨h, rfl⟩ := h
            have e2 : y2 = true := by revert hc; cases y2 <;> simp [Region.binds]
            have e6 : y6 = true := by revert hc; cases y6 <;> simp [Region.binds]
            have r2 := h.o2 e2; subst r2
            have r6 := h.o6 e6; subst r6
            clear hc hi
            refine wpOp_go rfl rfl (fun K hK => ?_)
            go_wp2_with (first | (go_at_call 76; go_must (refine (RD x).mono ?_; rintro e x2 ⟨a9, l9, c9, rfl, H9, bb⟩)) | fail)
            exact hK.out _ _ ⟨_,_,_,_,_,_,_,true,_,_,_,_,_,_,_,_,_,_,_,_,_,_,_,_,undef,rfl,Or.inl ⟨rfl, ⟨{ h.grow bb with o7 := fun _ => ⟨a9, l9, c9, rfl, H9⟩, d7_6 := fun _ => e6, d8_7 := fun _ => rfl }, rfl⟩⟩⟩
          · obtain ⟨h, rfl⟩ := h
            have e2 : y2 = true := by revert hc; cases y2 <;> simp [Region.binds]
            have e4 : y4 = true := by revert hc; cases y4 <;> simp [Region.binds]
            have e7 : y7 = true := by revert hc; cases y7 <;> simp [Region.binds]
            have r2 := h.o2 e2; subst r2
            obtain ⟨a4, l4, c4, rfl, H4⟩ := h.o4 e4
            obtain ⟨a7, l7, c7, rfl, H7⟩ := h.o7 e7
            clear hc hi
            refine wpOp_go rfl rfl (fun K hK => ?_)
            go_wp2_with (first | (go_at_call 112; go_must (refine (GC x a4 l4 c4 a7 l7 c7 H4 H7).mono ?_; rintro e x2 ⟨a9, l9, c9, rfl, H9, bb⟩)) | fail)
            exact hK.out _ _ ⟨_,_,_,_,_,_,_,_,true,_,_,_,_,_,_,_,_,_,_,_,_,_,_,_,undef,rfl,Or.inl ⟨rfl, ⟨{ h.grow bb with o8 := fun _ => ⟨a9, l9, c9, rfl, H9⟩, d8_4 := fun _ => e4, d8_7 := fun _ => e7, d10_8 := fun _ => rfl }, rfl⟩⟩⟩
          · obtain ⟨h, rfl⟩ := h
            have e2 : y2 = true := by revert hc; cases y2 <;> simp [Region.binds]
            have r2 := h.o2 e2; subst r2
            clear hc hi
            refine wpOp_go rfl rfl (fun K hK => ?_)
            go_wp2_with fail
            exact hK.out _ _ ⟨_,_,_,_,_,_,_,_,_,true,_,_,_,_,_,_,_,_,_,_,_,_,_,_,undef,rfl,Or.inl ⟨rfl, ⟨{ h.grow ((Below.refl _ _).alloc (Nat.le_refl _) _) with o9 := fun _ => lv_one _ _, d10_9 := fun _ => rfl }, rfl⟩⟩⟩
          · obtain ⟨h, rfl⟩ := h
            have e2 : y2 = true := by revert hc; cases y2 <;> simp [Region.binds]
            have e8 : y8 = true := by revert hc; cases y8 <;> simp [Region.binds]
            have e9 : y9 = true := by revert hc; cases y9 <;> simp [Region.binds]
            have r2 := h.o2 e2; subst r2
            obtain ⟨a8, l8, c8, rfl, H8⟩ := h.o8 e8
            obtain ⟨a9, l9, c9, rfl, H9⟩ := h.o9 e9
            clear hc hi
            refine wpOp_go rfl rfl (fun K hK => ?_)
            go_wp2_with (first | (go_at_call 98; go_must (refine (CM x a8 l8 c8 a9 l9 c9 H8 H9).mono ?_; rintro e x2 ⟨rfl, bb⟩)) | fail)
            exact hK.out _ _ ⟨_,_,_,_,_,_,_,_,_,_,true,_,_,_,_,_,_,_,_,_,_,_,_,_,undef,rfl,Or.inl ⟨rfl, ⟨{ h.grow bb with o10 := fun _ => rfl, d10_8 := fun _ => e8, d10_9 := fun _ => e9, d11_10 := fun _ => rfl }, rfl⟩⟩⟩
          · obtain ⟨h, rfl⟩ := h
            have e2 : y2 = true := by revert hc; cases y2 <;> simp [Region.binds]
            have e10 : y10 = true := by revert hc; cases y10 <;> simp [Region.binds]
            have r2 := h.o2 e2; subst r2
            have r10 := h.o10 e10; subst r10
            clear hc hi
            refine wpOp_go rfl rfl (fun K hK => ?_)
            go_wp2_with fail
            first | rw [show (Kc != 0) = z from hz] | rw [show (!decide (Kc = 0)) = z from hz]
            exact hK.out _ _ ⟨_,_,_,_,_,_,_,_,_,_,_,true,_,_,_,_,_,_,_,_,_,_,_,.bool z,undef,rfl,Or.inl ⟨rfl, ⟨{ h with o11 := fun _ => rfl, d11_10 := fun _ => e10 }, rfl⟩⟩⟩
          · obtain ⟨h, rfl⟩ := h
            have e2 : y2 = true := by revert hc; cases y2 <;> simp [Region.binds]
            have e11 : y11 = true := by revert hc; cases y11 <;> simp [Region.binds]
            have e1 := h.d2_1 e2
            have e10 := h.d11_10 e11
            have e0 := h.d1_0 e1
            have e8 := h.d10_8 e10
            have e9 := h.d10_9 e10
            have e4 := h.d8_4 e8
            have e7 := h.d8_7 e8
            have e3 := h.d4_3 e4
            have e6 := h.d7_6 e7
            have e5 := h.d6_5 e6
            have r2 := h.o2 e2; subst r2
            have r11 := h.o11 e11; subst r11
            clear hc hi
            subst e0 e1 e2 e3 e4 e5 e6 e7 e8 e9 e10 e11
            have bl := h.bel
            clear h
            refine wpOp_go rfl rfl (fun K hK => ?_)
            go_wp2_with fail
            exact hK.out _ _ ⟨true,true,true,true,true,true,true,true,true,true,true,true,_,_,_,_,_,_,_,_,_,_,_,_,_,rfl,Or.inr (⟨rfl, rfl, bl⟩)⟩
        · rcases (show i = 0 ∨ i = 1 ∨ i = 2 ∨ i = 3 ∨ i = 4 ∨ i = 5 ∨ i = 6 ∨ i = 7 ∨ i = 8 ∨ i = 9 ∨ i = 10 ∨ i = 11 ∨ i = 12 by omega) with rfl | rfl | rfl | rfl | rfl | rfl | rfl | rfl | rfl | rfl | rfl | rfl | rfl <;> simp at hc
      · rintro listed a x ⟨y0, y1, y2, y3, y4, y5, y6, y7, y8, y9, y10, y11, t53, t54, t55, t56, t57, t58, t59, t60, t61, t62, t63, t64, z65, rfl, h⟩ hn
        have al := all_listed (by decide +kernel) hn
        rcases h with ⟨rfl, h⟩ | ⟨rfl, h⟩
        · have z := al 12 (by decide)
          simp at z
        · obtain ⟨rfl, bl⟩ := h
          refine hJ _ _ ?_
          go_meet
          case rel => exact ⟨rfl, bl⟩
      · exact ⟨false, false, false, false, false, false, false, false, false, false, false, false, undef, undef, undef, undef, undef, undef, undef, undef, undef, undef, undef, undef, undef, rfl, Or.inl ⟨rfl, ⟨{ bel := (Below.refl _ _).drew, o0 := (by intro q; cases q), o1 := (by intro q; cases q), o2 := (by intro q; cases q), o3 := (by intro q; cases q), o4 := (by intro q; cases q), o5 := (by intro q; cases q), o6 := (by intro q; cases q), o7 := (by intro q; cases q), o8 := (by intro q; cases q), o9 := (by intro q; cases q), o10 := (by intro q; cases q), o11 := (by intro q; cases q), d1_0 := (by intro q; cases q), d2_1 := (by intro q; cases q), d4_3 := (by intro q; cases q), d6_5 := (by intro q; cases q), d7_6 := (by intro q; cases q), d8_4 := (by intro q; cases q), d8_7 := (by intro q; cases q), d10_8 := (by intro q; cases q), d10_9 := (by intro q; cases q), d11_10 := (by intro q; cases q) }, rfl⟩⟩⟩
    case rest =>
      rename World => wd
      obtain ⟨rfl, b2⟩ := hcut
      cases z with
      | true =>
        go_wp2_with fail
        go_ret
        exact ⟨rfl, bel' pr b2⟩
      | false =>
        go_wp2_with fail
        go_ret
        exact ⟨rfl, bel' pr b2⟩
set_option maxRecDepth 100000 in
set_option maxHeartbeats 1600000 in
theorem Good_neg_i (n d S : ByteArray) (w : World) (_ns : n.size ≤ 9223372036854775807) (_ds : d.size ≤ 9223372036854775807) (h0 : 0 < n.size) (hn : (((n[0].toNat : Int)) == 45) = true) (he : n.toList.isEmpty = false) (hS : n.extract 1 n.size = S) (D1 : ∀ x, Calls Tryz.prog 75 #[.string S] x fun e w' => e = .returned (.bool true) ∧ w' = x) (D2 : ∀ x, Calls Tryz.prog 75 #[.string d] x fun e w' => e = .returned (.bool true) ∧ w' = x) (hd0 : (d.toList == [48]) = false) (hq : (S.toList == [48]) = false) (hl : S.size ≤ 4096) (hl2 : d.size ≤ 4096)
    (A B Gc Kc : Int) (z : Bool) (hz : (!(Kc == 0)) = z) (RS : ∀ x, Calls Tryz.prog 76 #[.string S] x fun e w' => ∃ a l c, e = .returned (.slice a l c) ∧ Ml w' a l c A ∧ Below x.heap.size x w') (RD : ∀ x, Calls Tryz.prog 76 #[.string d] x fun e w' => ∃ a l c, e = .returned (.slice a l c) ∧ Ml w' a l c B ∧ Below x.heap.size x w')
    (GC : ∀ x a l c a' l' c', Ml x a l c A → Ml x a' l' c' B → Calls Tryz.prog 112 #[.slice a l c, .slice a' l' c'] x fun e w' => ∃ a l c, e = .returned (.slice a l c) ∧ Ml w' a l c Gc ∧ Below x.heap.size x w') (CM : ∀ x a l c a' l' c', Ml x a l c Gc → Ml x a' l' c' 1 → Calls Tryz.prog 98 #[.slice a l c, .slice a' l' c'] x fun e w' => e = .returned (.int .i64 Kc) ∧ Below x.heap.size x w') :
    Calls Tryz.prog 51 #[.agg #[.string n, .string d]] w fun e w' => e = .returned (.int .i64 (if z = true then 5 else 0)) ∧ Below w.heap.size w w' := by
  have K0 := Blk.new w #[.string n, .string d] 23
  have pr : Below w.heap.size w (w.alloc (.cells #[.string n, .string d] 23)) := (Below.refl _ _).alloc (Nat.le_refl _) _
  have hl1 : (S.size : Int) ≤ 4096 := by omega
  have hl3 : (d.size : Int) ≤ 4096 := by omega
  have h1 : (1 : Int) ≤ (n.size : Int) := by omega
  go_enter Tryz.func51, Tryz.ntmps51
  go_upto_if 52 with (first
    | (go_at_call 75; (with_reducible refine (D1 _).mono ?_); rintro e w1 ⟨rfl, hw⟩; subst w1)
    | (go_at_call 75; (with_reducible refine (D2 _).mono ?_); rintro e w1 ⟨rfl, hw⟩; subst w1)
    | fail)
  generalize w.alloc (.cells #[.string n, .string d] 23) = W at *
  clear D1 D2
  go_cut [] from 4 to 52 (fun wc => W = wc)
  case first =>
    go_wp2_with fail
    go_meet
    case rel => rfl
  case rest =>
    subst hcut
    go_wp2_with fail
    go_cut [65] from 53 to 64 (fun x wd => x = .bool z ∧ Below W.heap.size W wd)
    case first =>
      rename_i hm hJ
      refine wp_region_held (S := fun _ => True) (by kernel_rfl) (any_inv (fun listed a x => ∃ (y0 y1 y2 y3 y4 y5 y6 y7 y8 y9 y10 y11 : Bool) (t53 t54 t55 t56 t57 t58 t59 t60 t61 t62 t63 t64 : Value) (z65 : Value), a = ⟨#[.agg #[.string n, .string d], .pointer (some ⟨w.heap.size, 0, none⟩), u2, .string S, u4, u5, u6, u7, u8, u9, u10, u11, u12, u13, u14, u15, u16, u17, u18, u19, u20, u21, u22, u23, u24, u25, u26, u27, u28, u29, u30, u31, u32, u33, u34, u35, u36, u37, u38, u39, u40, u41, u42, u43, u44, u45, u46, u47, u48, u49, u50, u51, u52, t53, t54, t55, t56, t57, t58, t59, t60, t61, t62, t63, t64, z65], []⟩ ∧ ((listed = #[y0, y1, y2, y3, y4, y5, y6, y7, y8, y9, y10, y11, false] ∧ GD1 W x (.string S) (.bool true) (.bool true) (.string S) (.pointer (some ⟨w.heap.size, 1, none⟩)) (.string d) (.int .i64 Kc) (.bool z) (A) (B) (Gc) (1) y0 y1 y2 y3 y4 y5 y6 y7 y8 y9 y10 y11 t53 t54 t55 t56 t57 t58 t59 t60 t61 t62 t63 t64 ∧ z65 = undef) ∨ (listed = #[true, true, true, true, true, true, true, true, true, true, true, true, true] ∧ z65 = .bool z ∧ Below W.heap.size W x))) ?_ ?_ _ _ _ _ (by decide) ?_)
      · rintro listed a x i ⟨y0, y1, y2, y3, y4, y5, y6, y7, y8, y9, y10, y11, t53, t54, t55, t56, t57, t58, t59, t60, t61, t62, t63, t64, z65, rfl, h⟩ hi
        have hr : i < 13 := List.mem_range.1 (List.mem_filter.1 hi).1
        have hc := (List.mem_filter.1 hi).2
        rcases h with ⟨rfl, h⟩ | ⟨rfl, h⟩
        · rcases (show i = 0 ∨ i = 1 ∨ i = 2 ∨ i = 3 ∨ i = 4 ∨ i = 5 ∨ i = 6 ∨ i = 7 ∨ i = 8 ∨ i = 9 ∨ i = 10 ∨ i = 11 ∨ i = 12 by omega) with rfl | rfl | rfl | rfl | rfl | rfl | rfl | rfl | rfl | rfl | rfl | rfl | rfl
          · obtain ⟨h, rfl⟩ := h
            clear hc hi
            refine wpOp_go rfl rfl (fun K hK => ?_)
            go_wp2_with fail
            exact hK.out _ _ ⟨true,_,_,_,_,_,_,_,_,_,_,_,.string S,_,_,_,_,_,_,_,_,_,_,_,undef,rfl,Or.inl ⟨rfl, ⟨{ h with o0 := fun _ => rfl, d1_0 := fun _ => rfl }, rfl⟩⟩⟩
          · obtain ⟨h, rfl⟩ := h
            have e0 : y0 = true := by revert hc; cases y0 <;> simp [Region.binds]
            have r0 := h.o0 e0; subst r0
            clear hc hi
            have q := hq
            refine wpOp_go rfl rfl (fun K hK => ?_)
            go_wp2_with fail
            exact hK.out _ _ ⟨_,true,_,_,_,_,_,_,_,_,_,_,_,.bool true,_,_,_,_,_,_,_,_,_,_,undef,rfl,Or.inl ⟨rfl, ⟨{ h with o1 := fun _ => rfl, d1_0 := fun _ => e0, d2_1 := fun _ => rfl }, rfl⟩⟩⟩
          · obtain ⟨h, rfl⟩ := h
            have e1 : y1 = true := by revert hc; cases y1 <;> simp [Region.binds]
            have r1 := h.o1 e1; subst r1
            clear hc hi
            refine wpOp_go rfl rfl (fun K hK => ?_)
            go_wp2_with fail
            exact hK.out _ _ ⟨_,_,true,_,_,_,_,_,_,_,_,_,_,_,.bool true,_,_,_,_,_,_,_,_,_,undef,rfl,Or.inl ⟨rfl, ⟨{ h with o2 := fun _ => rfl, d2_1 := fun _ => e1 }, rfl⟩⟩⟩
          · obtain ⟨h, rfl⟩ := h
            have e2 : y2 = true := by revert hc; cases y2 <;> simp [Region.binds]
            have r2 := h.o2 e2; subst r2
            clear hc hi
            refine wpOp_go rfl rfl (fun K hK => ?_)
            go_wp2_with fail
            exact hK.out _ _ ⟨_,_,_,true,_,_,_,_,_,_,_,_,_,_,_,.string S,_,_,_,_,_,_,_,_,undef,rfl,Or.inl ⟨rfl, ⟨{ h with o3 := fun _ => rfl, d4_3 := fun _ => rfl }, rfl⟩⟩⟩
          · obtain ⟨h, rfl⟩ := h
            have e2 : y2 = true := by revert hc; cases y2 <;> simp [Region.binds]
            have e3 : y3 = true := by revert hc; cases y3 <;> simp [Region.binds]
            have r2 := h.o2 e2; subst r2
            have r3 := h.o3 e3; subst r3
            clear hc hi
            refine wpOp_go rfl rfl (fun K hK => ?_)
            go_wp2_with (first | (go_at_call 76; go_must (refine (RS x).mono ?_; rintro e x2 ⟨a9, l9, c9, rfl, H9, bb⟩)) | fail)
            exact hK.out _ _ ⟨_,_,_,_,true,_,_,_,_,_,_,_,_,_,_,_,_,_,_,_,_,_,_,_,undef,rfl,Or.inl ⟨rfl, ⟨{ h.grow bb with o4 := fun _ => ⟨a9, l9, c9, rfl, H9⟩, d4_3 := fun _ => e3, d8_4 := fun _ => rfl }, rfl⟩⟩⟩
          · obtain ⟨h, rfl⟩ := h
            have e2 : y2 = true := by revert hc; cases y2 <;> simp [Region.binds]
            have r2 := h.o2 e2; subst r2
            clear hc hi
            refine wpOp_go rfl rfl (fun K hK => ?_)
            go_wp2_with fail
            exact hK.out _ _ ⟨_,_,_,_,_,true,_,_,_,_,_,_,_,_,_,_,_,.pointer (some ⟨w.heap.size, 1, none⟩),_,_,_,_,_,_,undef,rfl,Or.inl ⟨rfl, ⟨{ h with o5 := fun _ => rfl, d6_5 := fun _ => rfl }, rfl⟩⟩⟩
          · obtain ⟨h, rfl⟩ := h
            have e2 : y2 = true := by revert hc; cases y2 <;> simp [Region.binds]
            have e5 : y5 = true := by revert hc; cases y5 <;> simp [Region.binds]
            have r2 := h.o2 e2; subst r2
            have r5 := h.o5 e5; subst r5
            clear hc hi
            have kd := (K0.below h.bel K0.lt).at 1
            simp at kd
            refine wpOp_go rfl rfl (fun K hK => ?_)
            go_wp2_with fail
            exact hK.out _ _ ⟨_,_,_,_,_,_,true,_,_,_,_,_,_,_,_,_,_,_,.string d,_,_,_,_,_,undef,rfl,Or.inl ⟨rfl, ⟨{ h with o6 := fun _ => rfl, d6_5 := fun _ => e5, d7_6 := fun _ => rfl }, rfl⟩⟩⟩
          · obtain ⟨h, rfl⟩ := h
            have e2 : y2 = true := by revert hc; cases y2 <;> simp [Region.binds]
            have e6 : y6 = true := by revert hc; cases y6 <;> simp [Region.binds]
            have r2 := h.o2 e2; subst r2
            have r6 := h.o6 e6; subst r6
            clear hc hi
            refine wpOp_go rfl rfl (fun K hK => ?_)
            go_wp2_with (first | (go_at_call 76; go_must (refine (RD x).mono ?_; rintro e x2 ⟨a9, l9, c9, rfl, H9, bb⟩)) | fail)
            exact hK.out _ _ ⟨_,_,_,_,_,_,_,true,_,_,_,_,_,_,_,_,_,_,_,_,_,_,_,_,undef,rfl,Or.inl ⟨rfl, ⟨{ h.grow bb with o7 := fun _ => ⟨a9, l9, c9, rfl, H9⟩, d7_6 := fun _ => e6, d8_7 := fun _ => rfl }, rfl⟩⟩⟩
          · obtain ⟨h, rfl⟩ := h
            have e2 : y2 = true := by revert hc; cases y2 <;> simp [Region.binds]
            have e4 : y4 = true := by revert hc; cases y4 <;> simp [Region.binds]
            have e7 : y7 = true := by revert hc; cases y7 <;> simp [Region.binds]
            have r2 := h.o2 e2; subst r2
            obtain ⟨a4, l4, c4, rfl, H4⟩ := h.o4 e4
            obtain ⟨a7, l7, c7, rfl, H7⟩ := h.o7 e7
            clear hc hi
            refine wpOp_go rfl rfl (fun K hK => ?_)
            go_wp2_with (first | (go_at_call 112; go_must (refine (GC x a4 l4 c4 a7 l7 c7 H4 H7).mono ?_; rintro e x2 ⟨a9, l9, c9, rfl, H9, bb⟩)) | fail)
            exact hK.out _ _ ⟨_,_,_,_,_,_,_,_,true,_,_,_,_,_,_,_,_,_,_,_,_,_,_,_,undef,rfl,Or.inl ⟨rfl, ⟨{ h.grow bb with o8 := fun _ => ⟨a9, l9, c9, rfl, H9⟩, d8_4 := fun _ => e4, d8_7 := fun _ => e7, d10_8 := fun _ => rfl }, rfl⟩⟩⟩
          · obtain ⟨h, rfl⟩ := h
            have e2 : y2 = true := by revert hc; cases y2 <;> simp [Region.binds]
            have r2 := h.o2 e2; subst r2
            clear hc hi
            refine wpOp_go rfl rfl (fun K hK => ?_)
            go_wp2_with fail
            exact hK.out _ _ ⟨_,_,_,_,_,_,_,_,_,true,_,_,_,_,_,_,_,_,_,_,_,_,_,_,undef,rfl,Or.inl ⟨rfl, ⟨{ h.grow ((Below.refl _ _).alloc (Nat.le_refl _) _) with o9 := fun _ => lv_one _ _, d10_9 := fun _ => rfl }, rfl⟩⟩⟩
          · obtain ⟨h, rfl⟩ := h
            have e2 : y2 = true := by revert hc; cases y2 <;> simp [Region.binds]
            have e8 : y8 = true := by revert hc; cases y8 <;> simp [Region.binds]
            have e9 : y9 = true := by revert hc; cases y9 <;> simp [Region.binds]
            have r2 := h.o2 e2; subst r2
            obtain ⟨a8, l8, c8, rfl, H8⟩ := h.o8 e8
            obtain ⟨a9, l9, c9, rfl, H9⟩ := h.o9 e9
            clear hc hi
            refine wpOp_go rfl rfl (fun K hK => ?_)
            go_wp2_with (first | (go_at_call 98; go_must (refine (CM x a8 l8 c8 a9 l9 c9 H8 H9).mono ?_; rintro e x2 ⟨rfl, bb⟩)) | fail)
            exact hK.out _ _ ⟨_,_,_,_,_,_,_,_,_,_,true,_,_,_,_,_,_,_,_,_,_,_,_,_,undef,rfl,Or.inl ⟨rfl, ⟨{ h.grow bb with o10 := fun _ => rfl, d10_8 := fun _ => e8, d10_9 := fun _ => e9, d11_10 := fun _ => rfl }, rfl⟩⟩⟩
          · obtain ⟨h, rfl⟩ := h
            have e2 : y2 = true := by revert hc; cases y2 <;> simp [Region.binds]
            have e10 : y10 = true := by revert hc; cases y10 <;> simp [Region.binds]
            have r2 := h.o2 e2; subst r2
            have r10 := h.o10 e10; subst r10
            clear hc hi
            refine wpOp_go rfl rfl (fun K hK => ?_)
            go_wp2_with fail
            first | rw [show (Kc != 0) = z from hz] | rw [show (!decide (Kc = 0)) = z from hz]
            exact hK.out _ _ ⟨_,_,_,_,_,_,_,_,_,_,_,true,_,_,_,_,_,_,_,_,_,_,_,.bool z,undef,rfl,Or.inl ⟨rfl, ⟨{ h with o11 := fun _ => rfl, d11_10 := fun _ => e10 }, rfl⟩⟩⟩
          · obtain ⟨h, rfl⟩ := h
            have e2 : y2 = true := by revert hc; cases y2 <;> simp [Region.binds]
            have e11 : y11 = true := by revert hc; cases y11 <;> simp [Region.binds]
            have e1 := h.d2_1 e2
            have e10 := h.d11_10 e11
            have e0 := h.d1_0 e1
            have e8 := h.d10_8 e10
            have e9 := h.d10_9 e10
            have e4 := h.d8_4 e8
            have e7 := h.d8_7 e8
            have e3 := h.d4_3 e4
            have e6 := h.d7_6 e7
            have e5 := h.d6_5 e6
            have r2 := h.o2 e2; subst r2
            have r11 := h.o11 e11; subst r11
            clear hc hi
            subst e0 e1 e2 e3 e4 e5 e6 e7 e8 e9 e10 e11
            have bl := h.bel
            clear h
            refine wpOp_go rfl rfl (fun K hK => ?_)
            go_wp2_with fail
            exact hK.out _ _ ⟨true,true,true,true,true,true,true,true,true,true,true,true,_,_,_,_,_,_,_,_,_,_,_,_,_,rfl,Or.inr (⟨rfl, rfl, bl⟩)⟩
        · rcases (show i = 0 ∨ i = 1 ∨ i = 2 ∨ i = 3 ∨ i = 4 ∨ i = 5 ∨ i = 6 ∨ i = 7 ∨ i = 8 ∨ i = 9 ∨ i = 10 ∨ i = 11 ∨ i = 12 by omega) with rfl | rfl | rfl | rfl | rfl | rfl | rfl | rfl | rfl | rfl | rfl | rfl | rfl <;> simp at hc
      · rintro listed a x ⟨y0, y1, y2, y3, y4, y5, y6, y7, y8, y9, y10, y11, t53, t54, t55, t56, t57, t58, t59, t60, t61, t62, t63, t64, z65, rfl, h⟩ hn
        have al := all_listed (by decide +kernel) hn
        rcases h with ⟨rfl, h⟩ | ⟨rfl, h⟩
        · have z := al 12 (by decide)
          simp at z
        · obtain ⟨rfl, bl⟩ := h
          refine hJ _ _ ?_
          go_meet
          case rel => exact ⟨rfl, bl⟩
      · exact ⟨false, false, false, false, false, false, false, false, false, false, false, false, undef, undef, undef, undef, undef, undef, undef, undef, undef, undef, undef, undef, undef, rfl, Or.inl ⟨rfl, ⟨{ bel := (Below.refl _ _).drew, o0 := (by intro q; cases q), o1 := (by intro q; cases q), o2 := (by intro q; cases q), o3 := (by intro q; cases q), o4 := (by intro q; cases q), o5 := (by intro q; cases q), o6 := (by intro q; cases q), o7 := (by intro q; cases q), o8 := (by intro q; cases q), o9 := (by intro q; cases q), o10 := (by intro q; cases q), o11 := (by intro q; cases q), d1_0 := (by intro q; cases q), d2_1 := (by intro q; cases q), d4_3 := (by intro q; cases q), d6_5 := (by intro q; cases q), d7_6 := (by intro q; cases q), d8_4 := (by intro q; cases q), d8_7 := (by intro q; cases q), d10_8 := (by intro q; cases q), d10_9 := (by intro q; cases q), d11_10 := (by intro q; cases q) }, rfl⟩⟩⟩
    case rest =>
      rename World => wd
      obtain ⟨rfl, b2⟩ := hcut
      cases z with
      | true =>
        go_wp2_with fail
        go_ret
        exact ⟨rfl, bel' pr b2⟩
      | false =>
        go_wp2_with fail
        go_ret
        exact ⟨rfl, bel' pr b2⟩
end Go.Proofs.YtebilgnmnambnaaGreatDoor.Mo

namespace Go.Proofs.YtebilgnmnambnaaGreatDoor.Mo
open Go.RowKit Dc
theorem BRead_m (s : ByteArray) (hs : s.size ≤ 4096) (hd : natB s = true) (x : World) :
    Calls Tryz.prog 76 #[.string s] x fun e w' => ∃ a l c, e = .returned (.slice a l c) ∧ Ml w' a l c (Dc.num s.data.toList : Int) ∧ Below x.heap.size x w' := by
  refine (L.BRead_any s x (by omega) (natB_dg hd)).mono ?_
  rintro e w' ⟨v, zs, rfl, hr, hn, hv, hl, b⟩
  obtain ⟨a, c, rfl⟩ : ∃ a c, v = .slice a zs.length c := by obtain ⟨_, a, c, e, _⟩ := hr; exact ⟨a, c, e⟩
  exact ⟨a, _, c, rfl, ⟨zs, hr, hn, hv, by omega⟩, b⟩
theorem Gcd_m {A B : Int} (x : World) (a : Option Addr) (l c : Nat) (a' : Option Addr) (l' c' : Nat) (h : Ml x a l c A) (h' : Ml x a' l' c' B) :
    Calls Tryz.prog 112 #[.slice a l c, .slice a' l' c'] x fun e w' => ∃ a l c, e = .returned (.slice a l c) ∧ Ml w' a l c (Int.gcd A B : Int) ∧ Below x.heap.size x w' := by
  obtain ⟨xs, r1, n1, rfl, m1⟩ := h
  obtain ⟨ys, r2, n2, rfl, m2⟩ := h'
  refine (L.Gcd_any _ _ xs ys 4096 x r1 r2 n1 n2 m1 m2 (by decide)).mono ?_
  rintro e w' ⟨v, zs, rfl, hr, hn, hv, hl, b⟩
  obtain ⟨a, c, rfl⟩ : ∃ a c, v = .slice a zs.length c := by obtain ⟨_, a, c, e, _⟩ := hr; exact ⟨a, c, e⟩
  exact ⟨a, _, c, rfl, ⟨zs, hr, hn, hv, hl⟩, b⟩
theorem Cmp_m {A B : Int} (x : World) (a : Option Addr) (l c : Nat) (a' : Option Addr) (l' c' : Nat) (h : Ml x a l c A) (h' : Ml x a' l' c' B) :
    Calls Tryz.prog 98 #[.slice a l c, .slice a' l' c'] x fun e w' => e = .returned (.int .i64 (L.cmp3 A B)) ∧ Below x.heap.size x w' := by
  obtain ⟨xs, r1, n1, rfl, m1⟩ := h
  obtain ⟨ys, r2, n2, rfl, m2⟩ := h'
  exact L.Cmp_any _ _ xs ys x r1 r2 n1 n2 (by omega)
theorem cmp_gcd (G : Nat) : (!(L.cmp3 (G : Int) 1 == 0)) = decide (G ≠ 1) := by
  unfold L.cmp3
  by_cases h : G = 1
  · subst h; rfl
  · by_cases h2 : (G : Int) < 1
    · rw [if_pos h2]; simp [h]
    · rw [if_neg h2, if_pos (by omega)]; simp [h]
theorem good_last (S d : ByteArray) : (if (decide (Int.gcd (Dc.num S.data.toList : Int) (Dc.num d.data.toList : Int) ≠ 1)) = true then (5 : Int) else 0) = if Int.gcd (Dc.num S.data.toList : Int) (Dc.num d.data.toList : Int) ≠ 1 then 5 else 0 := by
  simp only [decide_eq_true_eq]
theorem Good_any (n d : ByteArray) (w : World) (hn : n.size ≤ 9223372036854775807) (hd : d.size ≤ 9223372036854775807) :
    Calls Tryz.prog 51 #[.agg #[.string n, .string d]] w fun e w' => e = .returned (.int .i64 (goodE n d)) ∧ Below w.heap.size w w' := by
  have DD : ∀ (s : ByteArray) (b : Bool), s.size ≤ 9223372036854775807 → natB s = b → ∀ x, Calls Tryz.prog 75 #[.string s] x fun e w' => e = .returned (.bool b) ∧ w' = x := fun s b hs hb x => by
    have := BDigits_any s x hs
    rw [hb] at this
    exact this
  have dD := DD d
  have z0 : ∀ s : ByteArray, 0 < s.size → s.toList.isEmpty = false := fun s h => by rw [empty_iff s]; exact decide_eq_false (by omega)
  cases hg : neg n with
  | true =>
    have h0 : 0 < n.size := by
      by_cases c : 0 < n.size
      · exact c
      · exfalso
        unfold neg at hg
        rw [bt_out (by omega)] at hg
        simp at hg
    have h45 : (((n[0].toNat : Int)) == 45) = true := by
      unfold neg at hg
      rw [bt_in h0] at hg
      simp at hg ⊢
      omega
    have hr : rest n = n.extract 1 n.size := by unfold rest; rw [hg]; rfl
    have i0 : is0 n = false := by
      cases c : is0 n with
      | false => rfl
      | true =>
        exfalso
        have e1 := is0_size c
        unfold is0 at c
        have := eq_of_beq c
        rw [ByteArray.toList_eq] at this
        have q : n[0] = 48 := by
          have : n.data.toList[0]? = some 48 := by rw [this]; rfl
          rw [List.getElem?_eq_getElem (by simpa using h0)] at this
          simp at this
          exact this
        rw [q] at h45
        simp at h45
    unfold goodE shB whB
    rw [hg, i0]
    obtain ⟨S, hS⟩ : ∃ S, n.extract 1 n.size = S := ⟨_, rfl⟩
    have sz : S.size = n.size - 1 := by rw [← hS]; simp [ByteArray.size_extract]
    rw [hr, hS]
    cases c1 : natB S with
    | false =>
      simp only [Bool.false_and, if_true]
      exact Good_neg_a n d S w hn hd h0 h45 (z0 n h0) hS (DD S _ (by omega) c1)
    | true =>
      cases c2 : natB d with
      | false =>
        simp only [Bool.and_false, Bool.false_and, if_true]
        exact Good_neg_b n d S w hn hd h0 h45 (z0 n h0) hS (DD S _ (by omega) c1) (dD _ hd c2)
      | true =>
        cases c3 : is0 d with
        | true =>
          simp only [Bool.not_true, Bool.and_false, Bool.false_and, if_true]
          exact Good_neg_c n d S w hn hd h0 h45 (z0 n h0) hS (DD S _ (by omega) c1) (dD _ hd c2) c3
        | false =>
          cases c4 : is0 S with
          | true =>
            have := is0_size c4
            simp only [Bool.and_true, Bool.not_true, Bool.and_false, Bool.false_and, if_true]
            exact Good_neg_d n d S w hn hd h0 h45 (z0 n h0) hS (DD S _ (by omega) c1) (dD _ hd c2) c3 c4 (by omega)
          | false =>
            simp only [Bool.and_false, Bool.not_false, Bool.and_true, Bool.false_and, Bool.true_eq_false, if_false]
            by_cases l1 : 4096 < S.size
            · rw [if_pos (Or.inl l1)]
              exact Good_neg_f n d S w hn hd h0 h45 (z0 n h0) hS (DD S _ (by omega) c1) (dD _ hd c2) c3 c4 l1
            · by_cases l2 : 4096 < d.size
              · rw [if_pos (Or.inr l2)]
                exact Good_neg_g n d S w hn hd h0 h45 (z0 n h0) hS (DD S _ (by omega) c1) (dD _ hd c2) c3 c4 (by omega) l2
              · rw [if_neg (by omega), ← good_last S d]
                exact Good_neg_i n d S w hn hd h0 h45 (z0 n h0) hS (DD S _ (by omega) c1) (dD _ hd c2) c3 c4 (by omega) (by omega) _ _ _ _ _ (cmp_gcd _) (BRead_m S (by omega) c1) (BRead_m d (by omega) c2) Gcd_m Cmp_m
  | false =>
    have hr : rest n = n := by unfold rest; rw [hg]; rfl
    unfold goodE shB whB
    rw [hg, hr]
    cases c1 : natB n with
    | false =>
      simp only [Bool.false_and, if_true]
      refine Good_plain_a n d n w hn hd ?_ rfl (DD n _ hn c1)
      by_cases h0 : 0 < n.size
      · refine Or.inr ⟨h0, ?_, z0 n h0⟩
        unfold neg at hg
        rw [bt_in h0] at hg
        simp at hg ⊢
        omega
      · exact Or.inl ⟨by omega, by rw [empty_iff n]; exact decide_eq_true (by omega)⟩
    | true =>
      have h0 : 0 < n.size := by
        have := c1
        unfold natB at this
        simp only [Bool.and_eq_true, decide_eq_true_eq] at this
        exact this.1.2
      have h45 : (((n[0].toNat : Int)) == 45) = false := by
        unfold neg at hg
        rw [bt_in h0] at hg
        simp at hg ⊢
        omega
      cases c2 : natB d with
      | false =>
        simp only [Bool.and_false, Bool.false_and, if_true]
        exact Good_plain_b n d n w hn hd h0 h45 (z0 n h0) rfl (DD n _ hn c1) (dD _ hd c2)
      | true =>
        cases c3 : is0 d with
        | true =>
          simp only [Bool.not_true, Bool.and_false, Bool.false_and, if_true]
          exact Good_plain_c n d n w hn hd h0 h45 (z0 n h0) rfl (DD n _ hn c1) (dD _ hd c2) c3
        | false =>
          cases c4 : is0 n with
          | true =>
            have s1 := is0_size c4
            cases c5 : is1 d with
            | false =>
              simp only [Bool.not_false, Bool.and_true, Bool.not_true, Bool.and_false, if_true]
              exact Good_plain_e n d n w hn hd h0 h45 (z0 n h0) rfl (DD n _ hn c1) (dD _ hd c2) c3 c4 (by omega) (by unfold is1 at c5; rw [c5]; rfl)
            | true =>
              have d1 : d.toList = [49] := eq_of_beq c5
              have n1 : n.toList = [48] := eq_of_beq c4
              rw [ByteArray.toList_eq] at d1 n1
              have ds : d.size = 1 := by
                have := congrArg List.length d1
                simpa using this
              simp only [Bool.not_false, Bool.and_true, Bool.not_true, Bool.and_false, Bool.true_eq_false, if_false]
              rw [if_neg (by omega), d1, n1, if_neg (by decide)]
              exact Good_plain_h n d w hn hd h0 h45 (z0 n h0) (DD n _ hn c1) (dD _ hd c2) c3 c4 (by omega) (by unfold is1 at c5; rw [c5]; rfl) (by omega)
          | false =>
            simp only [Bool.false_and, Bool.not_false, Bool.and_true, Bool.true_eq_false, if_false]
            by_cases l1 : 4096 < n.size
            · rw [if_pos (Or.inl l1)]
              exact Good_plain_f n d n w hn hd h0 h45 (z0 n h0) rfl (DD n _ hn c1) (dD _ hd c2) c3 c4 l1
            · by_cases l2 : 4096 < d.size
              · rw [if_pos (Or.inr l2)]
                exact Good_plain_g n d n w hn hd h0 h45 (z0 n h0) rfl (DD n _ hn c1) (dD _ hd c2) c3 c4 (by omega) l2
              · rw [if_neg (by omega), ← good_last n d]
                exact Good_plain_i n d w hn hd h0 h45 (z0 n h0) (DD n _ hn c1) (dD _ hd c2) c3 c4 (by omega) (by omega) _ _ _ _ _ (cmp_gcd _) (BRead_m n (by omega) c1) (BRead_m d (by omega) c2) Gcd_m Cmp_m
end Go.Proofs.YtebilgnmnambnaaGreatDoor.Mo

namespace Go.Proofs.YtebilgnmnambnaaGreatDoor.Mo
open Go.RowKit Dc
theorem Ml.putQ {w1 : World} {b : Nat} {x y z : Value} {a : Option Addr} {l c : Nat} {N : Int} {g : Bool} {a1 a2 : Option Addr} {n1 c1 n2 c2 : Nat} {t : TypeId} (h : Ml w1 a l c N) (K : Blk w1 b #[.bool g, .slice a1 n1 c1, .slice a2 n2 c2] t) : Ml (((w1.setCell ⟨b, 0, none⟩ x).setCell ⟨b, 1, none⟩ y).setCell ⟨b, 2, none⟩ z) a l c N := by
  obtain ⟨xs, r, n, v, m⟩ := h
  exact ⟨xs, L.Rd.putQ r K, n, v, m⟩
set_option maxRecDepth 100000 in
set_option maxHeartbeats 1600000 in
theorem In_neg (n d S : ByteArray) (A B : Int) (w : World) (h0 : 0 < n.size) (ns : n.size ≤ 9223372036854775807) (hS : n.extract 1 n.size = S) (h45 : (((n[0].toNat : Int)) == 45) = true) (RS : ∀ x, Calls Tryz.prog 76 #[.string S] x fun e w' => ∃ a l c, e = .returned (.slice a l c) ∧ Ml w' a l c A ∧ Below x.heap.size x w') (RD : ∀ x, Calls Tryz.prog 76 #[.string d] x fun e w' => ∃ a l c, e = .returned (.slice a l c) ∧ Ml w' a l c B ∧ Below x.heap.size x w') :
    Calls Tryz.prog 52 #[.agg #[.string n, .string d]] w fun e w' => ∃ a l c a' l' c', e = .returned (.agg #[.bool true, .slice a l c, .slice a' l' c']) ∧ Ml w' a l c A ∧ Ml w' a' l' c' B ∧ Below w.heap.size w w' := by
  have K0 := (Blk.new w #[.string n, .string d] 23).alloc (.cells #[.bool false, .slice none 0 0, .slice none 0 0] 56)
  have KR := Blk.new (w.alloc (.cells #[.string n, .string d] 23)) #[.bool false, .slice none 0 0, .slice none 0 0] 56
  have pr : Below w.heap.size w ((w.alloc (.cells #[.string n, .string d] 23)).alloc (.cells #[.bool false, .slice none 0 0, .slice none 0 0] 56)) := ((Below.refl _ _).alloc (Nat.le_refl _) _).alloc (by simp) _
  simp only [World.size_alloc] at KR
  have h1 : (1 : Int) ≤ (n.size : Int) := by omega
  go_enter Tryz.func52, Tryz.ntmps52
  go_wp2_with fail
  generalize (w.alloc (.cells #[.string n, .string d] 23)).alloc (.cells #[.bool false, .slice none 0 0, .slice none 0 0] 56) = W at *
  have k0 : W.cell? ⟨w.heap.size, 0, none⟩ = some (.string n) := K0.at 0
  have k1 : W.cell? ⟨w.heap.size, 1, none⟩ = some (.string d) := K0.at 1
  go_region_held3 (fun x => x.cell? ⟨w.heap.size, 0, none⟩ = some (.string n) ∧ x.cell? ⟨w.heap.size, 1, none⟩ = some (.string d)) (go_keep) (first
    | (go_at_call 76; (have z := d1); refine (RD _).mono ?_; rintro e w2 ⟨a2, l2, c2, rfl, n2, d2'⟩; have m1 := n1.grow d2'; have d2 := bel' d1 d2'; have x0 : w2.cell? ⟨w.heap.size, 0, none⟩ = some (.string n) := (K0.below d2 K0.lt).at 0; have x1 : w2.cell? ⟨w.heap.size, 1, none⟩ = some (.string d) := (K0.below d2 K0.lt).at 1; have KR2 := KR.below d2 KR.lt; have r0 : w2.cell? ⟨w.heap.size + 1, 0, none⟩ = some (.bool false) := KR2.at 0; have r1 : w2.cell? ⟨w.heap.size + 1, 1, none⟩ = some (.slice none 0 0) := KR2.at 1; have r2 : w2.cell? ⟨w.heap.size + 1, 2, none⟩ = some (.slice none 0 0) := KR2.at 2; have s0 := KR2.free 0; have s1 := KR2.free 1; have s2 := KR2.free 2)
    | (go_at_call 76; refine (RS _).mono ?_; rintro e w1 ⟨a1, l1, c1, rfl, n1, d1'⟩; have d1 := undrew d1'; have y0 : w1.cell? ⟨w.heap.size, 0, none⟩ = some (.string n) := (K0.below d1 K0.lt).at 0; have y1 : w1.cell? ⟨w.heap.size, 1, none⟩ = some (.string d) := (K0.below d1 K0.lt).at 1)
    | fail)
  obtain ⟨F0, F1, F2, FB⟩ := L.put3 (.bool true) (.slice a1 l1 c1) (.slice a2 l2 c2) r0 r1 r2
  have N1 := m1.putQ (x := .bool true) (y := .slice a1 l1 c1) (z := .slice a2 l2 c2) KR2
  have N2 := n2.putQ (x := .bool true) (y := .slice a1 l1 c1) (z := .slice a2 l2 c2) KR2
  have BE := bset3 (n := w.heap.size + 1) (x := .bool true) (y := .slice a1 l1 c1) (z := .slice a2 l2 c2) (bel' pr d2) (by omega)
  go_wp2_with fail
  generalize ((w2.setCell ⟨w.heap.size + 1, 0, none⟩ (.bool true)).setCell ⟨w.heap.size + 1, 1, none⟩ (.slice a1 l1 c1)).setCell ⟨w.heap.size + 1, 2, none⟩ (.slice a2 l2 c2) = WE at *
  exact bodyPost_ret (v := .agg #[.bool true, .slice a1 l1 c1, .slice a2 l2 c2]) (by simp [results, Tryz.results52, go_sem, F0, F1, F2]) rfl ⟨_, _, _, _, _, _, rfl, N1, N2, BE⟩
set_option maxRecDepth 100000 in
set_option maxHeartbeats 1600000 in
theorem In_plain (n d : ByteArray) (A B : Int) (w : World) (h0 : 0 < n.size) (h45 : (((n[0].toNat : Int)) == 45) = false) (RS : ∀ x, Calls Tryz.prog 76 #[.string n] x fun e w' => ∃ a l c, e = .returned (.slice a l c) ∧ Ml w' a l c A ∧ Below x.heap.size x w') (RD : ∀ x, Calls Tryz.prog 76 #[.string d] x fun e w' => ∃ a l c, e = .returned (.slice a l c) ∧ Ml w' a l c B ∧ Below x.heap.size x w') :
    Calls Tryz.prog 52 #[.agg #[.string n, .string d]] w fun e w' => ∃ a l c a' l' c', e = .returned (.agg #[.bool false, .slice a l c, .slice a' l' c']) ∧ Ml w' a l c A ∧ Ml w' a' l' c' B ∧ Below w.heap.size w w' := by
  have K0 := (Blk.new w #[.string n, .string d] 23).alloc (.cells #[.bool false, .slice none 0 0, .slice none 0 0] 56)
  have KR := Blk.new (w.alloc (.cells #[.string n, .string d] 23)) #[.bool false, .slice none 0 0, .slice none 0 0] 56
  have pr : Below w.heap.size w ((w.alloc (.cells #[.string n, .string d] 23)).alloc (.cells #[.bool false, .slice none 0 0, .slice none 0 0] 56)) := ((Below.refl _ _).alloc (Nat.le_refl _) _).alloc (by simp) _
  simp only [World.size_alloc] at KR
  go_enter Tryz.func52, Tryz.ntmps52
  go_wp2_with fail
  generalize (w.alloc (.cells #[.string n, .string d] 23)).alloc (.cells #[.bool false, .slice none 0 0, .slice none 0 0] 56) = W at *
  have k0 : W.cell? ⟨w.heap.size, 0, none⟩ = some (.string n) := K0.at 0
  have k1 : W.cell? ⟨w.heap.size, 1, none⟩ = some (.string d) := K0.at 1
  go_region_held3 (fun x => x.cell? ⟨w.heap.size, 0, none⟩ = some (.string n) ∧ x.cell? ⟨w.heap.size, 1, none⟩ = some (.string d)) (go_keep) (first
    | (go_at_call 76; (have z := d1); refine (RD _).mono ?_; rintro e w2 ⟨a2, l2, c2, rfl, n2, d2'⟩; have m1 := n1.grow d2'; have d2 := bel' d1 d2'; have x0 : w2.cell? ⟨w.heap.size, 0, none⟩ = some (.string n) := (K0.below d2 K0.lt).at 0; have x1 : w2.cell? ⟨w.heap.size, 1, none⟩ = some (.string d) := (K0.below d2 K0.lt).at 1; have KR2 := KR.below d2 KR.lt; have r0 : w2.cell? ⟨w.heap.size + 1, 0, none⟩ = some (.bool false) := KR2.at 0; have r1 : w2.cell? ⟨w.heap.size + 1, 1, none⟩ = some (.slice none 0 0) := KR2.at 1; have r2 : w2.cell? ⟨w.heap.size + 1, 2, none⟩ = some (.slice none 0 0) := KR2.at 2; have s0 := KR2.free 0; have s1 := KR2.free 1; have s2 := KR2.free 2)
    | (go_at_call 76; refine (RS _).mono ?_; rintro e w1 ⟨a1, l1, c1, rfl, n1, d1'⟩; have d1 := undrew d1'; have y0 : w1.cell? ⟨w.heap.size, 0, none⟩ = some (.string n) := (K0.below d1 K0.lt).at 0; have y1 : w1.cell? ⟨w.heap.size, 1, none⟩ = some (.string d) := (K0.below d1 K0.lt).at 1)
    | fail)
  obtain ⟨F0, F1, F2, FB⟩ := L.put3 (.bool false) (.slice a1 l1 c1) (.slice a2 l2 c2) r0 r1 r2
  have N1 := m1.putQ (x := .bool false) (y := .slice a1 l1 c1) (z := .slice a2 l2 c2) KR2
  have N2 := n2.putQ (x := .bool false) (y := .slice a1 l1 c1) (z := .slice a2 l2 c2) KR2
  have BE := bset3 (n := w.heap.size + 1) (x := .bool false) (y := .slice a1 l1 c1) (z := .slice a2 l2 c2) (bel' pr d2) (by omega)
  go_wp2_with fail
  generalize ((w2.setCell ⟨w.heap.size + 1, 0, none⟩ (.bool false)).setCell ⟨w.heap.size + 1, 1, none⟩ (.slice a1 l1 c1)).setCell ⟨w.heap.size + 1, 2, none⟩ (.slice a2 l2 c2) = WE at *
  exact bodyPost_ret (v := .agg #[.bool false, .slice a1 l1 c1, .slice a2 l2 c2]) (by simp [results, Tryz.results52, go_sem, F0, F1, F2]) rfl ⟨_, _, _, _, _, _, rfl, N1, N2, BE⟩
end Go.Proofs.YtebilgnmnambnaaGreatDoor.Mo
