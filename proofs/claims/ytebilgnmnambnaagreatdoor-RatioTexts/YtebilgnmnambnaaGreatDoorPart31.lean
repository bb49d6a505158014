import Derived.Test.YtebilgnmnambnaaGreatDoorPart30
import Derived.Test.YtebilgnmnambnaaGreatDoorPart24
import Derived.Test.YtebilgnmnambnaaGreatDoorPart11
import Derived.Deep.DeepCutAuto

namespace Go.Proofs.YtebilgnmnambnaaGreatDoor.Mo
open Go.RowKit Dc
def Ml (x : World) (a : Option Addr) (l c : Nat) (N : Int) : Prop := ∃ xs : List Int, L.Rd x (.slice a l c) xs ∧ Tl.Nm xs ∧ Tl.val xs = N ∧ xs.length ≤ 4096
theorem Ml.grow {x x' : World} {a : Option Addr} {l c : Nat} {N : Int} (h : Ml x a l c N) (b : Below x.heap.size x x') : Ml x' a l c N := by
  obtain ⟨xs, r, n, v, m⟩ := h
  exact ⟨xs, r.grow b, n, v, m⟩
def LV (N : Int) (t : Value) (x : World) : Prop := ∃ a l c, t = .slice a l c ∧ Ml x a l c N
theorem LV.grow {x x' : World} {N : Int} {t : Value} (h : LV N t x) (b : Below x.heap.size x x') : LV N t x' := by
  obtain ⟨a, l, c, e, h⟩ := h
  exact ⟨a, l, c, e, h.grow b⟩
theorem lv_one (x : World) (T : TypeId) : LV 1 (.slice (some ⟨x.heap.size, 0, none⟩) 1 1) (x.alloc (.cells #[.int .i64 1] T)) :=
  ⟨_, _, _, rfl, [1], L.rd_one (by simp) (by omega) (by omega), L.nm_one, by decide, by decide⟩
structure GD0 (W x : World) (V0 V1 V2 : Value) (y0 y1 y2 y3 y4 y5 y6 y7 y8 y9 y10 y11 : Bool) (t53 t54 t55 t56 t57 t58 t59 t60 t61 t62 t63 t64 : Value) : Prop where
  bel : Below W.heap.size W x
  o0 : y0 = true → t53 = V0
  o1 : y1 = true → t54 = V1
  o2 : y2 = true → t55 = V2
  o3 : y3 = true → t56 = undef
  o4 : y4 = true → t57 = undef
  o5 : y5 = true → t58 = undef
  o6 : y6 = true → t59 = undef
  o7 : y7 = true → t60 = undef
  o8 : y8 = true → t61 = undef
  o9 : y9 = true → t62 = undef
  o10 : y10 = true → t63 = undef
  o11 : y11 = true → t64 = undef
  d1_0 : y1 = true → y0 = true
  d2_1 : y2 = true → y1 = true
  d4_3 : y4 = true → y3 = true
  d6_5 : y6 = true → y5 = true
  d7_6 : y7 = true → y6 = true
  d8_4 : y8 = true → y4 = true
  d8_7 : y8 = true → y7 = true
  d10_8 : y10 = true → y8 = true
  d10_9 : y10 = true → y9 = true
  d11_10 : y11 = true → y10 = true
structure GD1 (W x : World) (V0 V1 V2 V3 V5 V6 V10 V11 : Value) (N4 N7 N8 N9 : Int) (y0 y1 y2 y3 y4 y5 y6 y7 y8 y9 y10 y11 : Bool) (t53 t54 t55 t56 t57 t58 t59 t60 t61 t62 t63 t64 : Value) : Prop where
  bel : Below W.heap.size W x
  o0 : y0 = true → t53 = V0
  o1 : y1 = true → t54 = V1
  o2 : y2 = true → t55 = V2
  o3 : y3 = true → t56 = V3
  o5 : y5 = true → t58 = V5
  o6 : y6 = true → t59 = V6
  o10 : y10 = true → t63 = V10
  o11 : y11 = true → t64 = V11
  o4 : y4 = true → LV N4 t57 x
  o7 : y7 = true → LV N7 t60 x
  o8 : y8 = true → LV N8 t61 x
  o9 : y9 = true → LV N9 t62 x
  d1_0 : y1 = true → y0 = true
  d2_1 : y2 = true → y1 = true
  d4_3 : y4 = true → y3 = true
  d6_5 : y6 = true → y5 = true
  d7_6 : y7 = true → y6 = true
  d8_4 : y8 = true → y4 = true
  d8_7 : y8 = true → y7 = true
  d10_8 : y10 = true → y8 = true
  d10_9 : y10 = true → y9 = true
  d11_10 : y11 = true → y10 = true
theorem GD1.grow {W x x' : World} {V0 V1 V2 V3 V5 V6 V10 V11 : Value} {N4 N7 N8 N9 : Int} {y0 y1 y2 y3 y4 y5 y6 y7 y8 y9 y10 y11 : Bool} {t53 t54 t55 t56 t57 t58 t59 t60 t61 t62 t63 t64 : Value} (h : GD1 W x V0 V1 V2 V3 V5 V6 V10 V11 N4 N7 N8 N9 y0 y1 y2 y3 y4 y5 y6 y7 y8 y9 y10 y11 t53 t54 t55 t56 t57 t58 t59 t60 t61 t62 t63 t64) (b : Below x.heap.size x x') : GD1 W x' V0 V1 V2 V3 V5 V6 V10 V11 N4 N7 N8 N9 y0 y1 y2 y3 y4 y5 y6 y7 y8 y9 y10 y11 t53 t54 t55 t56 t57 t58 t59 t60 t61 t62 t63 t64 where
  bel := bel' h.bel b
  o0 := h.o0
  o1 := h.o1
  o2 := h.o2
  o3 := h.o3
  o5 := h.o5
  o6 := h.o6
  o10 := h.o10
  o11 := h.o11
  o4 := fun u => (h.o4 u).grow b
  o7 := fun u => (h.o7 u).grow b
  o8 := fun u => (h.o8 u).grow b
  o9 := fun u => (h.o9 u).grow b
  d1_0 := h.d1_0
  d2_1 := h.d2_1
  d4_3 := h.d4_3
  d6_5 := h.d6_5
  d7_6 := h.d7_6
  d8_4 := h.d8_4
  d8_7 := h.d8_7
  d10_8 := h.d10_8
  d10_9 := h.d10_9
  d11_10 := h.d11_10
set_option maxRecDepth 100000 in
set_option maxHeartbeats 1600000 in
theorem Good_plain_h (n d : ByteArray) (w : World) (_ns : n.size ≤ 9223372036854775807) (_ds : d.size ≤ 9223372036854775807) (h0 : 0 < n.size) (z1 : (((n[0].toNat : Int)) == 45) = false) (z2 : n.toList.isEmpty = false) (D1 : ∀ x, Calls Tryz.prog 75 #[.string n] x fun e w' => e = .returned (.bool true) ∧ w' = x) (D2 : ∀ x, Calls Tryz.prog 75 #[.string d] x fun e w' => e = .returned (.bool true) ∧ w' = x) (hd0 : (d.toList == [48]) = false) (hq : (n.toList == [48]) = true) (hL : n.size ≤ 1) (ho : (!(d.toList == [49])) = false) (hl2 : d.size ≤ 4096) :
    Calls Tryz.prog 51 #[.agg #[.string n, .string d]] w fun e w' => e = .returned (.int .i64 0) ∧ Below w.heap.size w w' := by
  have K0 := Blk.new w #[.string n, .string d] 23
  have pr : Below w.heap.size w (w.alloc (.cells #[.string n, .string d] 23)) := (Below.refl _ _).alloc (Nat.le_refl _) _
  have hl1 : (n.size : Int) ≤ 4096 := by omega
  have hl3 : (d.size : Int) ≤ 4096 := by omega
  have hL1 : decide ((1 : Int) < (n.size : Int)) = false := by simp; omega
  go_enter Tryz.func51, Tryz.ntmps51
  go_upto_if 52 with (first
    | (go_at_call 75; (with_reducible refine (D1 _).mono ?_); rintro e w1 ⟨rfl, hw⟩; subst w1)
    | (go_at_call 75; (with_reducible refine (D2 _).mono ?_); rintro e w1 ⟨rfl, hw⟩; subst w1)
    | fail)
  generalize w.alloc (.cells #[.string n, .string d] 23) = W at *
  clear D1 D2
  go_cut [] from 4 to 52 (fun wc => W = wc)
  case first =>
    go_wp2_with fail
    go_meet
    case rel => rfl
  case rest =>
    subst hcut
    go_wp2_with fail
    go_cut [65] from 53 to 64 (fun x wd => x = .bool false ∧ Below W.heap.size W wd)
    case first =>
      rename_i hm hJ
      refine wp_region_held (S := fun _ => True) (by kernel_rfl) (any_inv (fun listed a x => ∃ (y0 y1 y2 y3 y4 y5 y6 y7 y8 y9 y10 y11 : Bool) (t53 t54 t55 t56 t57 t58 t59 t60 t61 t62 t63 t64 : Value) (z65 : Value), a = ⟨#[.agg #[.string n, .string d], .pointer (some ⟨w.heap.size, 0, none⟩), u2, .string n, u4, u5, u6, u7, u8, u9, u10, u11, u12, u13, u14, u15, u16, u17, u18, u19, u20, u21, u22, u23, u24, u25, u26, u27, u28, u29, u30, u31, u32, u33, u34, u35, u36, u37, u38, u39, u40, u41, u42, u43, u44, u45, u46, u47, u48, u49, u50, u51, u52, t53, t54, t55, t56, t57, t58, t59, t60, t61, t62, t63, t64, z65], []⟩ ∧ ((listed = #[y0, y1, y2, y3, y4, y5, y6, y7, y8, y9, y10, y11, false] ∧ GD0 W x (.string n) (.bool false) (.bool false) y0 y1 y2 y3 y4 y5 y6 y7 y8 y9 y10 y11 t53 t54 t55 t56 t57 t58 t59 t60 t61 t62 t63 t64 ∧ z65 = undef) ∨ (listed = #[true, true, true, true, true, true, true, true, true, true, true, true, true] ∧ z65 = .bool false ∧ Below W.heap.size W x))) ?_ ?_ _ _ _ _ (by decide) ?_)
      · rintro listed a x i ⟨y0, y1, y2, y3, y4, y5, y6, y7, y8, y9, y10, y11, t53, t54, t55, t56, t57, t58, t59, t60, t61, t62, t63, t64, z65, rfl, h⟩ hi
        have hr : i < 13 := List.mem_range.1 (List.mem_filter.1 hi).1
        have hc := (List.mem_filter.1 hi).2
        rcases h with ⟨rfl, h⟩ | ⟨rfl, h⟩
        · rcases (show i = 0 ∨ i = 1 ∨ i = 2 ∨ i = 3 ∨ i = 4 ∨ i = 5 ∨ i = 6 ∨ i = 7 ∨ i = 8 ∨ i = 9 ∨ i = 10 ∨ i = 11 ∨ i = 12 by omega) with rfl | rfl | rfl | rfl | rfl | rfl | rfl | rfl | rfl | rfl | rfl | rfl | rfl
          · obtain ⟨h, rfl⟩ := h
            clear hc hi
            refine wpOp_go rfl rfl (fun K hK => ?_)
            go_wp2_with fail
            exact hK.out _ _ ⟨true,_,_,_,_,_,_,_,_,_,_,_,.string n,_,_,_,_,_,_,_,_,_,_,_,undef,rfl,Or.inl ⟨rfl, ⟨{ h with o0 := fun _ => rfl, d1_0 := fun _ => rfl }, rfl⟩⟩⟩
          · obtain ⟨h, rfl⟩ := h
            have e0 : y0 = true := by revert hc; cases y0 <;> simp [Region.binds]
            have r0 := h.o0 e0; subst r0
            clear hc hi
            have q := hq
            refine wpOp_go rfl rfl (fun K hK => ?_)
            go_wp2_with fail
            exact hK.out _ _ ⟨_,true,_,_,_,_,_,_,_,_,_,_,_,.bool false,_,_,_,_,_,_,_,_,_,_,undef,rfl,Or.inl ⟨rfl, ⟨{ h with o1 := fun _ => rfl, d1_0 := fun _ => e0, d2_1 := fun _ => rfl }, rfl⟩⟩⟩
          · obtain ⟨h, rfl⟩ := h
            have e1 : y1 = true := by revert hc; cases y1 <;> simp [Region.binds]
            have r1 := h.o1 e1; subst r1
            clear hc hi
            refine wpOp_go rfl rfl (fun K hK => ?_)
            go_wp2_with fail
            exact hK.out _ _ ⟨_,_,true,_,_,_,_,_,_,_,_,_,_,_,.bool false,_,_,_,_,_,_,_,_,_,undef,rfl,Or.inl ⟨rfl, ⟨{ h with o2 := fun _ => rfl, d2_1 := fun _ => e1 }, rfl⟩⟩⟩
          · obtain ⟨h, rfl⟩ := h
            have e2 : y2 = true := by revert hc; cases y2 <;> simp [Region.binds]
            have r2 := h.o2 e2; subst r2
            clear hc hi
            exact wpOp_skip rfl rfl ⟨y0, y1, y2, true, y4, y5, y6, y7, y8, y9, y10, y11, t53, t54, _, _, t57, t58, t59, t60, t61, t62, t63, t64, undef, rfl, Or.inl ⟨rfl, ⟨{ h with o3 := fun _ => rfl, d4_3 := fun _ => rfl }, rfl⟩⟩⟩
          · obtain ⟨h, rfl⟩ := h
            have e3 : y3 = true := by revert hc; cases y3 <;> simp [Region.binds]
            have e2 : y2 = true := by revert hc; cases y2 <;> simp [Region.binds]
            have r2 := h.o2 e2; subst r2
            clear hc hi
            exact wpOp_skip rfl rfl ⟨y0, y1, y2, y3, true, y5, y6, y7, y8, y9, y10, y11, t53, t54, _, t56, _, t58, t59, t60, t61, t62, t63, t64, undef, rfl, Or.inl ⟨rfl, ⟨{ h with o4 := fun _ => rfl, d4_3 := fun _ => e3, d8_4 := fun _ => rfl }, rfl⟩⟩⟩
          · obtain ⟨h, rfl⟩ := h
            have e2 : y2 = true := by revert hc; cases y2 <;> simp [Region.binds]
            have r2 := h.o2 e2; subst r2
            clear hc hi
            exact wpOp_skip rfl rfl ⟨y0, y1, y2, y3, y4, true, y6, y7, y8, y9, y10, y11, t53, t54, _, t56, t57, _, t59, t60, t61, t62, t63, t64, undef, rfl, Or.inl ⟨rfl, ⟨{ h with o5 := fun _ => rfl, d6_5 := fun _ => rfl }, rfl⟩⟩⟩
          · obtain ⟨h, rfl⟩ := h
            have e5 : y5 = true := by revert hc; cases y5 <;> simp [Region.binds]
            have e2 : y2 = true := by revert hc; cases y2 <;> simp [Region.binds]
            have r2 := h.o2 e2; subst r2
            clear hc hi
            exact wpOp_skip rfl rfl ⟨y0, y1, y2, y3, y4, y5, true, y7, y8, y9, y10, y11, t53, t54, _, t56, t57, t58, _, t60, t61, t62, t63, t64, undef, rfl, Or.inl ⟨rfl, ⟨{ h with o6 := fun _ => rfl, d6_5 := fun _ => e5, d7_6 := fun _ => rfl }, rfl⟩⟩⟩
          · obtain ⟨h, rfl⟩ := h
            have e6 : y6 = true := by revert hc; cases y6 <;> simp [Region.binds]
            have e2 : y2 = true := by revert hc; cases y2 <;> simp [Region.binds]
            have r2 := h.o2 e2; subst r2
            clear hc hi
            exact wpOp_skip rfl rfl ⟨y0, y1, y2, y3, y4, y5, y6, true, y8, y9, y10, y11, t53, t54, _, t56, t57, t58, t59, _, t61, t62, t63, t64, undef, rfl, Or.inl ⟨rfl, ⟨{ h with o7 := fun _ => rfl, d7_6 := fun _ => e6, d8_7 := fun _ => rfl }, rfl⟩⟩⟩
          · obtain ⟨h, rfl⟩ := h
            have e7 : y7 = true := by revert hc; cases y7 <;> simp [Region.binds]
            have e4 : y4 = true := by revert hc; cases y4 <;> simp [Region.binds]
            have e2 : y2 = true := by revert hc; cases y2 <;> simp [Region.binds]
            have r2 := h.o2 e2; subst r2
            clear hc hi
            exact wpOp_skip rfl rfl ⟨y0, y1, y2, y3, y4, y5, y6, y7, true, y9, y10, y11, t53, t54, _, t56, t57, t58, t59, t60, _, t62, t63, t64, undef, rfl, Or.inl ⟨rfl, ⟨{ h with o8 := fun _ => rfl, d8_4 := fun _ => e4, d8_7 := fun _ => e7, d10_8 := fun _ => rfl }, rfl⟩⟩⟩
          · obtain ⟨h, rfl⟩ := h
            have e2 : y2 = true := by revert hc; cases y2 <;> simp [Region.binds]
            have r2 := h.o2 e2; subst r2
            clear hc hi
            exact wpOp_skip rfl rfl ⟨y0, y1, y2, y3, y4, y5, y6, y7, y8, true, y10, y11, t53, t54, _, t56, t57, t58, t59, t60, t61, _, t63, t64, undef, rfl, Or.inl ⟨rfl, ⟨{ h with o9 := fun _ => rfl, d10_9 := fun _ => rfl }, rfl⟩⟩⟩
          · obtain ⟨h, rfl⟩ := h
            have e9 : y9 = true := by revert hc; cases y9 <;> simp [Region.binds]
            have e8 : y8 = true := by revert hc; cases y8 <;> simp [Region.binds]
            have e2 : y2 = true := by revert hc; cases y2 <;> simp [Region.binds]
            have r2 := h.o2 e2; subst r2
            clear hc hi
            exact wpOp_skip rfl rfl ⟨y0, y1, y2, y3, y4, y5, y6, y7, y8, y9, true, y11, t53, t54, _, t56, t57, t58, t59, t60, t61, t62, _, t64, undef, rfl, Or.inl ⟨rfl, ⟨{ h with o10 := fun _ => rfl, d10_8 := fun _ => e8, d10_9 := fun _ => e9, d11_10 := fun _ => rfl }, rfl⟩⟩⟩
          · obtain ⟨h, rfl⟩ := h
            have e10 : y10 = true := by revert hc; cases y10 <;> simp [Region.binds]
            have e2 : y2 = true := by revert hc; cases y2 <;> simp [Region.binds]
            have r2 := h.o2 e2; subst r2
            clear hc hi
            exact wpOp_skip rfl rfl ⟨y0, y1, y2, y3, y4, y5, y6, y7, y8, y9, y10, true, t53, t54, _, t56, t57, t58, t59, t60, t61, t62, t63, _, undef, rfl, Or.inl ⟨rfl, ⟨{ h with o11 := fun _ => rfl, d11_10 := fun _ => e10 }, rfl⟩⟩⟩
          · obtain ⟨h, rfl⟩ := h
            have e2 : y2 = true := by revert hc; cases y2 <;> simp [Region.binds]
            have e11 : y11 = true := by revert hc; cases y11 <;> simp [Region.binds]
            have e1 := h.d2_1 e2
            have e10 := h.d11_10 e11
            have e0 := h.d1_0 e1
            have e8 := h.d10_8 e10
            have e9 := h.d10_9 e10
            have e4 := h.d8_4 e8
            have e7 := h.d8_7 e8
            have e3 := h.d4_3 e4
            have e6 := h.d7_6 e7
            have e5 := h.d6_5 e6
            have r2 := h.o2 e2; subst r2
            clear hc hi
            subst e0 e1 e2 e3 e4 e5 e6 e7 e8 e9 e10 e11
            have bl := h.bel
            clear h
            refine wpOp_go rfl rfl (fun K hK => ?_)
            go_wp2_with fail
            exact hK.out _ _ ⟨true,true,true,true,true,true,true,true,true,true,true,true,_,_,_,_,_,_,_,_,_,_,_,_,_,rfl,Or.inr (⟨rfl, rfl, bl⟩)⟩
        · rcases (show i = 0 ∨ i = 1 ∨ i = 2 ∨ i = 3 ∨ i = 4 ∨ i = 5 ∨ i = 6 ∨ i = 7 ∨ i = 8 ∨ i = 9 ∨ i = 10 ∨ i = 11 ∨ i = 12 by omega) with rfl | rfl | rfl | rfl | rfl | rfl | rfl | rfl | rfl | rfl | rfl | rfl | rfl <;> simp at hc
      · rintro listed a x ⟨y0, y1, y2, y3, y4, y5, y6, y7, y8, y9, y10, y11, t53, t54, t55, t56, t57, t58, t59, t60, t61, t62, t63, t64, z65, rfl, h⟩ hn
        have al := all_listed (by decide +kernel) hn
        rcases h with ⟨rfl, h⟩ | ⟨rfl, h⟩
        · have z := al 12 (by decide)
          simp at z
        · obtain ⟨rfl, bl⟩ := h
          refine hJ _ _ ?_
          go_meet
          case rel => exact ⟨rfl, bl⟩
      · exact ⟨false, false, false, false, false, false, false, false, false, false, false, false, undef, undef, undef, undef, undef, undef, undef, undef, undef, undef, undef, undef, undef, rfl, Or.inl ⟨rfl, ⟨{ bel := (Below.refl _ _).drew, o0 := (by intro q; cases q), o1 := (by intro q; cases q), o2 := (by intro q; cases q), o3 := (by intro q; cases q), o4 := (by intro q; cases q), o5 := (by intro q; cases q), o6 := (by intro q; cases q), o7 := (by intro q; cases q), o8 := (by intro q; cases q), o9 := (by intro q; cases q), o10 := (by intro q; cases q), o11 := (by intro q; cases q), d1_0 := (by intro q; cases q), d2_1 := (by intro q; cases q), d4_3 := (by intro q; cases q), d6_5 := (by intro q; cases q), d7_6 := (by intro q; cases q), d8_4 := (by intro q; cases q), d8_7 := (by intro q; cases q), d10_8 := (by intro q; cases q), d10_9 := (by intro q; cases q), d11_10 := (by intro q; cases q) }, rfl⟩⟩⟩
    case rest =>
      rename World => wd
      obtain ⟨rfl, b2⟩ := hcut
      go_wp2_with fail
      go_ret
      exact ⟨rfl, bel' pr b2⟩
set_option maxRecDepth 100000 in
set_option maxHeartbeats 1600000 in
theorem Good_plain_i (n d : ByteArray) (w : World) (_ns : n.size ≤ 9223372036854775807) (_ds : d.size ≤ 9223372036854775807) (h0 : 0 < n.size) (z1 : (((n[0].toNat : Int)) == 45) = false) (z2 : n.toList.isEmpty = false) (D1 : ∀ x, Calls Tryz.prog 75 #[.string n] x fun e w' => e = .returned (.bool true) ∧ w' = x) (D2 : ∀ x, Calls Tryz.prog 75 #[.string d] x fun e w' => e = .returned (.bool true) ∧ w' = x) (hd0 : (d.toList == [48]) = false) (hq : (n.toList == [48]) = false) (hl : n.size ≤ 4096) (hl2 : d.size ≤ 4096)
    (A B Gc Kc : Int) (z : Bool) (hz : (!(Kc == 0)) = z) (RS : ∀ x, Calls Tryz.prog 76 #[.string n] x fun e w' => ∃ a l c, e = .returned (.slice a l c) ∧ Ml w' a l c A ∧ Below x.heap.size x w') (RD : ∀ x, Calls Tryz.prog 76 #[.string d] x fun e w' => ∃ a l c, e = .returned (.slice a l c) ∧ Ml w' a l c B ∧ Below x.heap.size x w')
    (GC : ∀ x a l c a' l' c', Ml x a l c A → Ml x a' l' c' B → Calls Tryz.prog 112 #[.slice a l c, .slice a' l' c'] x fun e w' => ∃ a l c, e = .returned (.slice a l c) ∧ Ml w' a l c Gc ∧ Below x.heap.size x w') (CM : ∀ x a l c a' l' c', Ml x a l c Gc → Ml x a' l' c' 1 → Calls Tryz.prog 98 #[.slice a l c, .slice a' l' c'] x fun e w' => e = .returned (.int .i64 Kc) ∧ Below x.heap.size x w') :
    Calls Tryz.prog 51 #[.agg #[.string n, .string d]] w fun e w' => e = .returned (.int .i64 (if z = true then 5 else 0)) ∧ Below w.heap.size w w' := by
  have K0 := Blk.new w #[.string n, .string d] 23
  have pr : Below w.heap.size w (w.alloc (.cells #[.string n, .string d] 23)) := (Below.refl _ _).alloc (Nat.le_refl _) _
  have hl1 : (n.size : Int) ≤ 4096 := by omega
  have hl3 : (d.size : Int) ≤ 4096 := by omega
  go_enter Tryz.func51, Tryz.ntmps51
  go_upto_if 52 with (first
    | (go_at_call 75; (with_reducible refine (D1 _).mono ?_); rintro e w1 ⟨rfl, hw⟩; subst w1)
    | (go_at_call 75; (with_reducible refine (D2 _).mono ?_); rintro e w1 ⟨rfl, hw⟩; subst w1)
    | fail)
  generalize w.alloc (.cells #[.string n, .string d] 23) = W at *
  clear D1 D2
  go_cut [] from 4 to 52 (fun wc => W = wc)
  case first =>
    go_wp2_with fail
    go_meet
    case rel => rfl
  case rest =>
    subst hcut
    go_wp2_with fail
    go_cut [65] from 53 to 64 (fun x wd => x = .bool z ∧ Below W.heap.size W wd)
    case first =>
      rename_i hm hJ
      refine wp_region_held (S := fun _ => True) (by kernel_rfl) (any_inv (fun listed a x => ∃ (y0 y1 y2 y3 y4 y5 y6 y7 y8 y9 y10 y11 : Bool) (t53 t54 t55 t56 t57 t58 t59 t60 t61 t62 t63 t64 : Value) (z65 : Value), a = ⟨#[.agg #[.string n, .string d], .pointer (some ⟨w.heap.size, 0, none⟩), u2, .string n, u4, u5, u6, u7, u8, u9, u10, u11, u12, u13, u14, u15, u16, u17, u18, u19, u20, u21, u22, u23, u24, u25, u26, u27, u28, u29, u30, u31, u32, u33, u34, u35, u36, u37, u38, u39, u40, u41, u42, u43, u44, u45, u46, u47, u48, u49, u50, u51, u52, t53, t54, t55, t56, t57, t58, t59, t60, t61, t62, t63, t64, z65], []⟩ ∧ ((listed = #[y0, y1, y2, y3, y4, y5, y6, y7, y8, y9, y10, y11, false] ∧ GD1 W x (.string n) (.bool true) (.bool true) (.string n) (.pointer (some ⟨w.heap.size, 1, none⟩)) (.string d) (.int .i64 Kc) (.bool z) (A) (B) (Gc) (1) y0 y1 y2 y3 y4 y5 y6 y7 y8 y9 y10 y11 t53 t54 t55 t56 t57 t58 t59 t60 t61 t62 t63 t64 ∧ z65 = undef) ∨ (listed = #[true, true, true, true, true, true, true, true, true, true, true, true, true] ∧ z65 = .bool z ∧ Below W.heap.size W x))) ?_ ?_ _ _ _ _ (by decide) ?_)
      · rintro listed a x i ⟨y0, y1, y2, y3, y4, y5, y6, y7, y8, y9, y10, y11, t53, t54, t55, t56, t57, t58, t59, t60, t61, t62, t63, t64, z65, rfl, h⟩ hi
        have hr : i < 13 := List.mem_range.1 (List.mem_filter.1 hi).1
        have hc := (List.mem_filter.1 hi).2
        rcases h with ⟨rfl, h⟩ | ⟨rfl, h⟩
        · rcases (show i = 0 ∨ i = 1 ∨ i = 2 ∨ i = 3 ∨ i = 4 ∨ i = 5 ∨ i = 6 ∨ i = 7 ∨ i = 8 ∨ i = 9 ∨ i = 10 ∨ i = 11 ∨ i = 12 by omega) with rfl | rfl | rfl | rfl | rfl | rfl | rfl | rfl | rfl | rfl | rfl | rfl | rfl
          · obtain ⟨h, rfl⟩ := h
            clear hc hi
            refine wpOp_go rfl rfl (fun K hK => ?_)
            go_wp2_with fail
            exact hK.out _ _ ⟨true,_,_,_,_,_,_,_,_,_,_,_,.string n,_,_,_,_,_,_,_,_,_,_,_,undef,rfl,Or.inl ⟨rfl, ⟨{ h with o0 := fun _ => rfl, d1_0 := fun _ => rfl }, rfl⟩⟩⟩
          · obtain ⟨h, rfl⟩ := h
            have e0 : y0 = true := by revert hc; cases y0 <;> simp [Region.binds]
            have r0 := h.o0 e0; subst r0
            clear hc hi
            have q := hq
            refine wpOp_go rfl rfl (fun K hK => ?_)
            go_wp2_with fail
            exact hK.out _ _ ⟨_,true,_,_,_,_,_,_,_,_,_,_,_,.bool true,_,_,_,_,_,_,_,_,_,_,undef,rfl,Or.inl ⟨rfl, ⟨{ h with o1 := fun _ => rfl, d1_0 := fun _ => e0, d2_1 := fun _ => rfl }, rfl⟩⟩⟩
          · obtain ⟨h, rfl⟩ := h
            have e1 : y1 = true := by revert hc; cases y1 <;> simp [Region.binds]
            have r1 := h.o1 e1; subst r1
            clear hc hi
            refine wpOp_go rfl rfl (fun K hK => ?_)
            go_wp2_with fail
            exact hK.out _ _ ⟨_,_,true,_,_,_,_,_,_,_,_,_,_,_,.bool true,_,_,_,_,_,_,_,_,_,undef,rfl,Or.inl ⟨rfl, ⟨{ h with o2 := fun _ => rfl, d2_1 := fun _ => e1 }, rfl⟩⟩⟩
          · obtain ⟨h, rfl⟩ := h
            have e2 : y2 = true := by revert hc; cases y2 <;> simp [Region.binds]
            have r2 := h.o2 e2; subst r2
            clear hc hi
            refine wpOp_go rfl rfl (fun K hK => ?_)
            go_wp2_with fail
            exact hK.out _ _ ⟨_,_,_,true,_,_,_,_,_,_,_,_,_,_,_,.string n,_,_,_,_,_,_,_,_,undef,rfl,Or.inl ⟨rfl, ⟨{ h with o3 := fun _ => rfl, d4_3 := fun _ => rfl }, rfl⟩⟩⟩
          · obtain ⟨h, rfl⟩ := h
            have e2 : y2 = true := by revert hc; cases y2 <;> simp [Region.binds]
            have e3 : y3 = true := by revert hc; cases y3 <;> simp [Region.binds]
            have r2 := h.o2 e2; subst r2
            have r3 := h.o3 e3; subst r3
            clear hc hi
            refine wpOp_go rfl rfl (fun K hK => ?_)
            go_wp2_with (first | (go_at_call 76; go_must (refine (RS x).mono ?_; rintro e x2 ⟨a9, l9, c9, rfl, H9, bb⟩)) | fail)
            exact hK.out _ _ ⟨_,_,_,_,true,_,_,_,_,_,_,_,_,_,_,_,_,_,_,_,_,_,_,_,undef,rfl,Or.inl ⟨rfl, ⟨{ h.grow bb with o4 := fun _ => ⟨a9, l9, c9, rfl, H9⟩, d4_3 := fun _ => e3, d8_4 := fun _ => rfl }, rfl⟩⟩⟩
          · obtain ⟨h, rfl⟩ := h
            have e2 : y2 = true := by revert hc; cases y2 <;> simp [Region.binds]
            have r2 := h.o2 e2; subst r2
            clear hc hi
            refine wpOp_go rfl rfl (fun K hK => ?_)
            go_wp2_with fail
            exact hK.out _ _ ⟨_,_,_,_,_,true,_,_,_,_,_,_,_,_,_,_,_,.pointer (some ⟨w.heap.size, 1, none⟩),_,_,_,_,_,_,undef,rfl,Or.inl ⟨rfl, ⟨{ h with o5 := fun _ => rfl, d6_5 := fun _ => rfl }, rfl⟩⟩⟩
          · obtain ⟨h, rfl⟩ := h
            have e2 : y2 = true := by revert hc; cases y2 <;> simp [Region.binds]
            have e5 : y5 = true := by revert hc; cases y5 <;> simp [Region.binds]
            have r2 := h.o2 e2; subst r2
            have r5 := h.o5 e5; subst r5
            clear hc hi
            have kd := (K0.below h.bel K0.lt).at 1
            simp at kd
            refine wpOp_go rfl rfl (fun K hK => ?_)
            go_wp2_with fail
            exact hK.out _ _ ⟨_,_,_,_,_,_,true,_,_,_,_,_,_,_,_,_,_,_,.string d,_,_,_,_,_,undef,rfl,Or.inl ⟨rfl, ⟨{ h with o6 := fun _ => rfl, d6_5 := fun _ => e5, d7_6 := fun _ => rfl }, rfl⟩⟩⟩
          · obtain ⟨h, rfl⟩ := h
            have e2 : y2 = true := by revert hc; cases y2 <;> simp [Region.binds]
            have e6 : y6 = true := by revert hc; cases y6 <;> simp [Region.binds]
            have r2 := h.o2 e2; subst r2
            have r6 := h.o6 e6; subst r6
            clear hc hi
            refine wpOp_go rfl rfl (fun K hK => ?_)
            go_wp2_with (first | (go_at_call 76; go_must (refine (RD x).mono ?_; rintro e x2 ⟨a9, l9, c9, rfl, H9, bb⟩)) | fail)
            exact hK.out _ _ ⟨_,_,_,_,_,_,_,true,_,_,_,_,_,_,_,_,_,_,_,_,_,_,_,_,undef,rfl,Or.inl ⟨rfl, ⟨{ h.grow bb with o7 := fun _ => ⟨a9, l9, c9, rfl, H9⟩, d7_6 := fun _ => e6, d8_7 := fun _ => rfl }, rfl⟩⟩⟩
          · obtain ⟨h, rfl⟩ := h
            have e2 : y2 = true := by revert hc; cases y2 <;> simp [Region.binds]
            have e4 : y4 = true := by revert hc; cases y4 <;> simp [Region.binds]
            have e7 : y7 = true := by revert hc; cases y7 <;> simp [Region.binds]
            have r2 := h.o2 e2; subst r2
            obtain ⟨a4, l4, c4, rfl, H4⟩ := h.o4 e4
            obtain ⟨a7, l7, c7, rfl, H7⟩ := h.o7 e7
            clear hc hi
            refine wpOp_go rfl rfl (fun K hK => ?_)
            go_wp2_with (first | (go_at_call 112; go_must (refine (GC x a4 l4 c4 a7 l7 c7 H4 H7).mono ?_; rintro e x2 ⟨a9, l9, c9, rfl, H9, bb⟩)) | fail)
            exact hK.out _ _ ⟨_,_,_,_,_,_,_,_,true,_,_,_,_,_,_,_,_,_,_,_,_,_,_,_,undef,rfl,Or.inl ⟨rfl, ⟨{ h.grow bb with o8 := fun _ => ⟨a9, l9, c9, rfl, H9⟩, d8_4 := fun _ => e4, d8_7 := fun _ => e7, d10_8 := fun _ => rfl }, rfl⟩⟩⟩
          · obtain ⟨h, rfl⟩ := h
            have e2 : y2 = true := by revert hc; cases y2 <;> simp [Region.binds]
            have r2 := h.o2 e2; subst r2
            clear hc hi
            refine wpOp_go rfl rfl (fun K hK => ?_)
            go_wp2_with fail
            exact hK.out _ _ ⟨_,_,_,_,_,_,_,_,_,true,_,_,_,_,_,_,_,_,_,_,_,_,_,_,undef,rfl,Or.inl ⟨rfl, ⟨{ h.grow ((Below.refl _ _).alloc (Nat.le_refl _) _) with o9 := fun _ => lv_one _ _, d10_9 := fun _ => rfl }, rfl⟩⟩⟩
          · obtain ⟨h, rfl⟩ := h
            have e2 : y2 = true := by revert hc; cases y2 <;> simp [Region.binds]
            have e8 : y8 = true := by revert hc; cases y8 <;> simp [Region.binds]
            have e9 : y9 = true := by revert hc; cases y9 <;> simp [Region.binds]
            have r2 := h.o2 e2; subst r2
            obtain ⟨a8, l8, c8, rfl, H8⟩ := h.o8 e8
            obtain ⟨a9, l9, c9, rfl, H9⟩ := h.o9 e9
            clear hc hi
            refine wpOp_go rfl rfl (fun K hK => ?_)
            go_wp2_with (first | (go_at_call 98; go_must (refine (CM x a8 l8 c8 a9 l9 c9 H8 H9).mono ?_; rintro e x2 ⟨rfl, bb⟩)) | fail)
            exact hK.out _ _ ⟨_,_,_,_,_,_,_,_,_,_,true,_,_,_,_,_,_,_,_,_,_,_,_,_,undef,rfl,Or.inl ⟨rfl, ⟨{ h.grow bb with o10 := fun _ => rfl, d10_8 := fun _ => e8, d10_9 := fun _ => e9, d11_10 := fun _ => rfl }, rfl⟩⟩⟩
          · obtain ⟨h, rfl⟩ := h
            have e2 : y2 = true := by revert hc; cases y2 <;> simp [Region.binds]
            have e10 : y10 = true := by revert hc; cases y10 <;> simp [Region.binds]
            have r2 := h.o2 e2; subst r2
            have r10 := h.o10 e10; subst r10
            clear hc hi
            refine wpOp_go rfl rfl (fun K hK => ?_)
            go_wp2_with fail
            first | rw [show (Kc != 0) = z from hz] | rw [show (!decide (Kc = 0)) = z from hz]
            exact hK.out _ _ ⟨_,_,_,_,_,_,_,_,_,_,_,true,_,_,_,_,_,_,_,_,_,_,_,.bool z,undef,rfl,Or.inl ⟨rfl, ⟨{ h with o11 := fun _ => rfl, d11_10 := fun _ => e10 }, rfl⟩⟩⟩
          · obtain ⟨h, rfl⟩ := h
            have e2 : y2 = true := by revert hc; cases y2 <;> simp [Region.binds]
            have e11 : y11 = true := by revert hc; cases y11 <;> simp [Region.binds]
            have e1 := h.d2_1 e2
            have e10 := h.d11_10 e11
            have e0 := h.d1_0 e1
            have e8 := h.d10_8 e10
            have e9 := h.d10_9 e10
            have e4 := h.d8_4 e8
            have e7 := h.d8_7 e8
            have e3 := h.d4_3 e4
            have e6 := h.d7_6 e7
            have e5 := h.d6_5 e6
            have r2 := h.o2 e2; subst r2
            have r11 := h.o11 e11; subst r11
            clear hc hi
            subst e0 e1 e2 e3 e4 e5 e6 e7 e8 e9 e10 e11
            have bl := h.bel
            clear h
            refine wpOp_go rfl rfl (fun K hK => ?_)
            go_wp2_with fail
            exact hK.out _ _ ⟨true,true,true,true,true,true,true,true,true,true,true,true,_,_,_,_,_,_,_,_,_,_,_,_,_,rfl,Or.inr (⟨rfl, rfl, bl⟩)⟩
        · rcases (show i = 0 ∨ i = 1 ∨ i = 2 ∨ i = 3 ∨ i = 4 ∨ i = 5 ∨ i = 6 ∨ i = 7 ∨ i = 8 ∨ i = 9 ∨ i = 10 ∨ i = 11 ∨ i = 12 by omega) with rfl | rfl | rfl | rfl | rfl | rfl | rfl | rfl | rfl | rfl | rfl | rfl | rfl <;> simp at hc
      · rintro listed a x ⟨y0, y1, y2, y3, y4, y5, y6, y7, y8, y9, y10, y11, t53, t54, t55, t56, t57, t58, t59, t60, t61, t62, t63, t64, z65, rfl, h⟩ hn
        have al := all_listed (by decide +kernel) hn
        rcases h with ⟨rfl, h⟩ | ⟨rfl, h⟩
        · have z := al 12 (by decide)
          simp at z
        · obtain ⟨rfl, bl⟩ := h
          refine hJ _ _ ?_
          go_meet
          case rel => exact ⟨rfl, bl⟩
      · exact ⟨false, false, false, false, false, false, false, false, false, false, false, false, undef, undef, undef, undef, undef, undef, undef, undef, undef, undef, undef, undef, undef, rfl, Or.inl ⟨rfl, ⟨{ bel := (Below.refl _ _).drew, o0 := (by intro q; cases q), o1 := (by intro q; cases q), o2 := (by intro q; cases q), o3 := (by intro q; cases q), o4 := (by intro q; cases q), o5 := (by intro q; cases q), o6 := (by intro q; cases q), o7 := (by intro q; cases q), o8 := (by intro q; cases q), o9 := (by intro q; cases q), o10 := (by intro q; cases q), o11 := (by intro q; cases q), d1_0 := (by intro q; cases q), d2_1 := (by intro q; cases q), d4_3 := (by intro q; cases q), d6_5 := (by intro q; cases q), d7_6 := (by intro q; cases q), d8_4 := (by intro q; cases q), d8_7 := (by intro q; cases q), d10_8 := (by intro q; cases q), d10_9 := (by intro q; cases q), d11_10 := (by intro q; cases q) }, rfl⟩⟩⟩
    case rest =>
      rename World => wd
      obtain ⟨rfl, b2⟩ := hcut
      cases z with
      | true =>
        go_wp2_with fail
        go_ret
        exact ⟨rfl, bel' pr b2⟩
      | false =>
        go_wp2_with fail
        go_ret
        exact ⟨rfl, bel' pr b2⟩
set_option maxRecDepth 100000 in
set_option maxHeartbeats 1600000 in
theorem Good_neg_i (n d S : ByteArray) (w : World) (_ns : n.size ≤ 9223372036854775807) (_ds : d.size ≤ 9223372036854775807) (h0 : 0 < n.size) (hn : (((n[0].toNat : Int)) == 45) = true) (he : n.toList.isEmpty = false) (hS : n.extract 1 n.size = S) (D1 : ∀ x, Calls Tryz.prog 75 #[.string S] x fun e w' => e = .returned (.bool true) ∧ w' = x) (D2 : ∀ x, Calls Tryz.prog 75 #[.string d] x fun e w' => e = .returned (.bool true) ∧ w' = x) (hd0 : (d.toList == [48]) = false) (hq : (S.toList == [48]) = false) (hl : S.size ≤ 4096) (hl2 : d.size ≤ 4096)
    (A B Gc Kc : Int) (z : Bool) (hz : (!(Kc == 0)) = z) (RS : ∀ x, Calls Tryz.prog 76 #[.string S] x fun e w' => ∃ a l c, e = .returned (.slice a l c) ∧ Ml w' a l c A ∧ Below x.heap.size x w') (RD : ∀ x, Calls Tryz.prog 76 #[.string d] x fun e w' => ∃ a l c, e = .returned (.slice a l c) ∧ Ml w' a l c B ∧ Below x.heap.size x w')
    (GC : ∀ x a l c a' l' c', Ml x a l c A → Ml x a' l' c' B → Calls Tryz.prog 112 #[.slice a l c, .slice a' l' c'] x fun e w' => ∃ a l c, e = .returned (.slice a l c) ∧ Ml w' a l c Gc ∧ Below x.heap.size x w') (CM : ∀ x a l c a' l' c', Ml x a l c Gc → Ml x a' l' c' 1 → Calls Tryz.prog 98 #[.slice a l c, .slice a' l' c'] x fun e w' => e = .returned (.int .i64 Kc) ∧ Below x.heap.size x w') :
    Calls Tryz.prog 51 #[.agg #[.string n, .string d]] w fun e w' => e = .returned (.int .i64 (if z = true then 5 else 0)) ∧ Below w.heap.size w w' := by
  have K0 := Blk.new w #[.string n, .string d] 23
  have pr : Below w.heap.size w (w.alloc (.cells #[.string n, .string d] 23)) := (Below.refl _ _).alloc (Nat.le_refl _) _
  have hl1 : (S.size : Int) ≤ 4096 := by omega
  have hl3 : (d.size : Int) ≤ 4096 := by omega
  have h1 : (1 : Int) ≤ (n.size : Int) := by omega
  go_enter Tryz.func51, Tryz.ntmps51
  go_upto_if 52 with (first
    | (go_at_call 75; (with_reducible refine (D1 _).mono ?_); rintro e w1 ⟨rfl, hw⟩; subst w1)
    | (go_at_call 75; (with_reducible refine (D2 _).mono ?_); rintro e w1 ⟨rfl, hw⟩; subst w1)
    | fail)
  generalize w.alloc (.cells #[.string n, .string d] 23) = W at *
  clear D1 D2
  go_cut [] from 4 to 52 (fun wc => W = wc)
  case first =>
    go_wp2_with fail
    go_meet
    case rel => rfl
  case rest =>
    subst hcut
    go_wp2_with fail
    go_cut [65] from 53 to 64 (fun x wd => x = .bool z ∧ Below W.heap.size W wd)
    case first =>
      rename_i hm hJ
      refine wp_region_held (S := fun _ => True) (by kernel_rfl) (any_inv (fun listed a x => ∃ (y0 y1 y2 y3 y4 y5 y6 y7 y8 y9 y10 y11 : Bool) (t53 t54 t55 t56 t57 t58 t59 t60 t61 t62 t63 t64 : Value) (z65 : Value), a = ⟨#[.agg #[.string n, .string d], .pointer (some ⟨w.heap.size, 0, none⟩), u2, .string S, u4, u5, u6, u7, u8, u9, u10, u11, u12, u13, u14, u15, u16, u17, u18, u19, u20, u21, u22, u23, u24, u25, u26, u27, u28, u29, u30, u31, u32, u33, u34, u35, u36, u37, u38, u39, u40, u41, u42, u43, u44, u45, u46, u47, u48, u49, u50, u51, u52, t53, t54, t55, t56, t57, t58, t59, t60, t61, t62, t63, t64, z65], []⟩ ∧ ((listed = #[y0, y1, y2, y3, y4, y5, y6, y7, y8, y9, y10, y11, false] ∧ GD1 W x (.string S) (.bool true) (.bool true) (.string S) (.pointer (some ⟨w.heap.size, 1, none⟩)) (.string d) (.int .i64 Kc) (.bool z) (A) (B) (Gc) (1) y0 y1 y2 y3 y4 y5 y6 y7 y8 y9 y10 y11 t53 t54 t55 t56 t57 t58 t59 t60 t61 t62 t63 t64 ∧ z65 = undef) ∨ (listed = #[true, true, true, true, true, true, true, true, true, true, true, true, true] ∧ z65 = .bool z ∧ Below W.heap.size W x))) ?_ ?_ _ _ _ _ (by decide) ?_)
      · rintro listed a x i ⟨y0, y1, y2, y3, y4, y5, y6, y7, y8, y9, y10, y11, t53, t54, t55, t56, t57, t58, t59, t60, t61, t62, t63, t64, z65, rfl, h⟩ hi
        have hr : i < 13 := List.mem_range.1 (List.mem_filter.1 hi).1
        have hc := (List.mem_filter.1 hi).2
        rcases h with ⟨rfl, h⟩ | ⟨rfl, h⟩
        · rcases (show i = 0 ∨ i = 1 ∨ i = 2 ∨ i = 3 ∨ i = 4 ∨ i = 5 ∨ i = 6 ∨ i = 7 ∨ i = 8 ∨ i = 9 ∨ i = 10 ∨ i = 11 ∨ i = 12 by omega) with rfl | rfl | rfl | rfl | rfl | rfl | rfl | rfl | rfl | rfl | rfl | rfl | rfl
          · obtain ⟨h, rfl⟩ := h
            clear hc hi
            refine wpOp_go rfl rfl (fun K hK => ?_)
            go_wp2_with fail
            exact hK.out _ _ ⟨true,_,_,_,_,_,_,_,_,_,_,_,.string S,_,_,_,_,_,_,_,_,_,_,_,undef,rfl,Or.inl ⟨rfl, ⟨{ h with o0 := fun _ => rfl, d1_0 := fun _ => rfl }, rfl⟩⟩⟩
          · obtain ⟨h, rfl⟩ := h
            have e0 : y0 = true := by revert hc; cases y0 <;> simp [Region.binds]
            have r0 := h.o0 e0; subst r0
            clear hc hi
            have q := hq
            refine wpOp_go rfl rfl (fun K hK => ?_)
            go_wp2_with fail
            exact hK.out _ _ ⟨_,true,_,_,_,_,_,_,_,_,_,_,_,.bool true,_,_,_,_,_,_,_,_,_,_,undef,rfl,Or.inl ⟨rfl, ⟨{ h with o1 := fun _ => rfl, d1_0 := fun _ => e0, d2_1 := fun _ => rfl }, rfl⟩⟩⟩
          · obtain ⟨h, rfl⟩ := h
            have e1 : y1 = true := by revert hc; cases y1 <;> simp [Region.binds]
            have r1 := h.o1 e1; subst r1
            clear hc hi
            refine wpOp_go rfl rfl (fun K hK => ?_)
            go_wp2_with fail
            exact hK.out _ _ ⟨_,_,true,_,_,_,_,_,_,_,_,_,_,_,.bool true,_,_,_,_,_,_,_,_,_,undef,rfl,Or.inl ⟨rfl, ⟨{ h with o2 := fun _ => rfl, d2_1 := fun _ => e1 }, rfl⟩⟩⟩
          · obtain ⟨h, rfl⟩ := h
            have e2 : y2 = true := by revert hc; cases y2 <;> simp [Region.binds]
            have r2 := h.o2 e2; subst r2
            clear hc hi
            refine wpOp_go rfl rfl (fun K hK => ?_)
            go_wp2_with fail
            exact hK.out _ _ ⟨_,_,_,true,_,_,_,_,_,_,_,_,_,_,_,.string S,_,_,_,_,_,_,_,_,undef,rfl,Or.inl ⟨rfl, ⟨{ h with o3 := fun _ => rfl, d4_3 := fun _ => rfl }, rfl⟩⟩⟩
          · obtain ⟨h, rfl⟩ := h
            have e2 : y2 = true := by revert hc; cases y2 <;> simp [Region.binds]
            have e3 : y3 = true := by revert hc; cases y3 <;> simp [Region.binds]
            have r2 := h.o2 e2; subst r2
            have r3 := h.o3 e3; subst r3
            clear hc hi
            refine wpOp_go rfl rfl (fun K hK => ?_)
            go_wp2_with (first | (go_at_call 76; go_must (refine (RS x).mono ?_; rintro e x2 ⟨a9, l9, c9, rfl, H9, bb⟩)) | fail)
            exact hK.out _ _ ⟨_,_,_,_,true,_,_,_,_,_,_,_,_,_,_,_,_,_,_,_,_,_,_,_,undef,rfl,Or.inl ⟨rfl, ⟨{ h.grow bb with o4 := fun _ => ⟨a9, l9, c9, rfl, H9⟩, d4_3 := fun _ => e3, d8_4 := fun _ => rfl }, rfl⟩⟩⟩
          · obtain ⟨h, rfl⟩ := h
            have e2 : y2 = true := by revert hc; cases y2 <;> simp [Region.binds]
            have r2 := h.o2 e2; subst r2
            clear hc hi
            refine wpOp_go rfl rfl (fun K hK => ?_)
            go_wp2_with fail
            exact hK.out _ _ ⟨_,_,_,_,_,true,_,_,_,_,_,_,_,_,_,_,_,.pointer (some ⟨w.heap.size, 1, none⟩),_,_,_,_,_,_,undef,rfl,Or.inl ⟨rfl, ⟨{ h with o5 := fun _ => rfl, d6_5 := fun _ => rfl }, rfl⟩⟩⟩
          · obtain ⟨h, rfl⟩ := h
            have e2 : y2 = true := by revert hc; cases y2 <;> simp [Region.binds]
            have e5 : y5 = true := by revert hc; cases y5 <;> simp [Region.binds]
            have r2 := h.o2 e2; subst r2
            have r5 := h.o5 e5; subst r5
            clear hc hi
            have kd := (K0.below h.bel K0.lt).at 1
            simp at kd
            refine wpOp_go rfl rfl (fun K hK => ?_)
            go_wp2_with fail
            exact hK.out _ _ ⟨_,_,_,_,_,_,true,_,_,_,_,_,_,_,_,_,_,_,.string d,_,_,_,_,_,undef,rfl,Or.inl ⟨rfl, ⟨{ h with o6 := fun _ => rfl, d6_5 := fun _ => e5, d7_6 := fun _ => rfl }, rfl⟩⟩⟩
          · obtain ⟨h, rfl⟩ := h
            have e2 : y2 = true := by revert hc; cases y2 <;> simp [Region.binds]
            have e6 : y6 = true := by revert hc; cases y6 <;> simp [Region.binds]
            have r2 := h.o2 e2; subst r2
            have r6 := h.o6 e6; subst r6
            clear hc hi
            refine wpOp_go rfl rfl (fun K hK => ?_)
            go_wp2_with (first | (go_at_call 76; go_must (refine (RD x).mono ?_; rintro e x2 ⟨a9, l9, c9, rfl, H9, bb⟩)) | fail)
            exact hK.out _ _ ⟨_,_,_,_,_,_,_,true,_,_,_,_,_,_,_,_,_,_,_,_,_,_,_,_,undef,rfl,Or.inl ⟨rfl, ⟨{ h.grow bb with o7 := fun _ => ⟨a9, l9, c9, rfl, H9⟩, d7_6 := fun _ => e6, d8_7 := fun _ => rfl }, rfl⟩⟩⟩
          · obtain ⟨h, rfl⟩ := h
            have e2 : y2 = true := by revert hc; cases y2 <;> simp [Region.binds]
            have e4 : y4 = true := by revert hc; cases y4 <;> simp [Region.binds]
            have e7 : y7 = true := by revert hc; cases y7 <;> simp [Region.binds]
            have r2 := h.o2 e2; subst r2
            obtain ⟨a4, l4, c4, rfl, H4⟩ := h.o4 e4
            obtain ⟨a7, l7, c7, rfl, H7⟩ := h.o7 e7
            clear hc hi
            refine wpOp_go rfl rfl (fun K hK => ?_)
            go_wp2_with (first | (go_at_call 112; go_must (refine (GC x a4 l4 c4 a7 l7 c7 H4 H7).mono ?_; rintro e x2 ⟨a9, l9, c9, rfl, H9, bb⟩)) | fail)
            exact hK.out _ _ ⟨_,_,_,_,_,_,_,_,true,_,_,_,_,_,_,_,_,_,_,_,_,_,_,_,undef,rfl,Or.inl ⟨rfl, ⟨{ h.grow bb with o8 := fun _ => ⟨a9, l9, c9, rfl, H9⟩, d8_4 := fun _ => e4, d8_7 := fun _ => e7, d10_8 := fun _ => rfl }, rfl⟩⟩⟩
          · obtain ⟨h, rfl⟩ := h
            have e2 : y2 = true := by revert hc; cases y2 <;> simp [Region.binds]
            have r2 := h.o2 e2; subst r2
            clear hc hi
            refine wpOp_go rfl rfl (fun K hK => ?_)
            go_wp2_with fail
            exact hK.out _ _ ⟨_,_,_,_,_,_,_,_,_,true,_,_,_,_,_,_,_,_,_,_,_,_,_,_,undef,rfl,Or.inl ⟨rfl, ⟨{ h.grow ((Below.refl _ _).alloc (Nat.le_refl _) _) with o9 := fun _ => lv_one _ _, d10_9 := fun _ => rfl }, rfl⟩⟩⟩
          · obtain ⟨h, rfl⟩ := h
            have e2 : y2 = true := by revert hc; cases y2 <;> simp [Region.binds]
            have e8 : y8 = true := by revert hc; cases y8 <;> simp [Region.binds]
            have e9 : y9 = true := by revert hc; cases y9 <;> simp [Region.binds]
            have r2 := h.o2 e2; subst r2
            obtain ⟨a8, l8, c8, rfl, H8⟩ := h.o8 e8
            obtain ⟨a9, l9, c9, rfl, H9⟩ := h.o9 e9
            clear hc hi
            refine wpOp_go rfl rfl (fun K hK => ?_)
            go_wp2_with (first | (go_at_call 98; go_must (refine (CM x a8 l8 c8 a9 l9 c9 H8 H9).mono ?_; rintro e x2 ⟨rfl, bb⟩)) | fail)
            exact hK.out _ _ ⟨_,_,_,_,_,_,_,_,_,_,true,_,_,_,_,_,_,_,_,_,_,_,_,_,undef,rfl,Or.inl ⟨rfl, ⟨{ h.grow bb with o10 := fun _ => rfl, d10_8 := fun _ => e8, d10_9 := fun _ => e9, d11_10 := fun _ => rfl }, rfl⟩⟩⟩
          · obtain ⟨h, rfl⟩ := h
            have e2 : y2 = true := by revert hc; cases y2 <;> simp [Region.binds]
            have e10 : y10 = true := by revert hc; cases y10 <;> simp [Region.binds]
            have r2 := h.o2 e2; subst r2
            have r10 := h.o10 e10; subst r10
            clear hc hi
            refine wpOp_go rfl rfl (fun K hK => ?_)
            go_wp2_with fail
            first | rw [show (Kc != 0) = z from hz] | rw [show (!decide (Kc = 0)) = z from hz]
            exact hK.out _ _ ⟨_,_,_,_,_,_,_,_,_,_,_,true,_,_,_,_,_,_,_,_,_,_,_,.bool z,undef,rfl,Or.inl ⟨rfl, ⟨{ h with o11 := fun _ => rfl, d11_10 := fun _ => e10 }, rfl⟩⟩⟩
          · obtain ⟨h, rfl⟩ := h
            have e2 : y2 = true := by revert hc; cases y2 <;> simp [Region.binds]
            have e11 : y11 = true := by revert hc; cases y11 <;> simp [Region.binds]
            have e1 := h.d2_1 e2
            have e10 := h.d11_10 e11
            have e0 := h.d1_0 e1
            have e8 := h.d10_8 e10
            have e9 := h.d10_9 e10
            have e4 := h.d8_4 e8
            have e7 := h.d8_7 e8
            have e3 := h.d4_3 e4
            have e6 := h.d7_6 e7
            have e5 := h.d6_5 e6
            have r2 := h.o2 e2; subst r2
            have r11 := h.o11 e11; subst r11
            clear hc hi
            subst e0 e1 e2 e3 e4 e5 e6 e7 e8 e9 e10 e11
            have bl := h.bel
            clear h
            refine wpOp_go rfl rfl (fun K hK => ?_)
            go_wp2_with fail
            exact hK.out _ _ ⟨true,true,true,true,true,true,true,true,true,true,true,true,_,_,_,_,_,_,_,_,_,_,_,_,_,rfl,Or.inr (⟨rfl, rfl, bl⟩)⟩
        · rcases (show i = 0 ∨ i = 1 ∨ i = 2 ∨ i = 3 ∨ i = 4 ∨ i = 5 ∨ i = 6 ∨ i = 7 ∨ i = 8 ∨ i = 9 ∨ i = 10 ∨ i = 11 ∨ i = 12 by omega) with rfl | rfl | rfl | rfl | rfl | rfl | rfl | rfl | rfl | rfl | rfl | rfl | rfl <;> simp at hc
      · rintro listed a x ⟨y0, y1, y2, y3, y4, y5, y6, y7, y8, y9, y10, y11, t53, t54, t55, t56, t57, t58, t59, t60, t61, t62, t63, t64, z65, rfl, h⟩ hn
        have al := all_listed (by decide +kernel) hn
        rcases h with ⟨rfl, h⟩ | ⟨rfl, h⟩
        · have z := al 12 (by decide)
          simp at z
        · obtain ⟨rfl, bl⟩ := h
          refine hJ _ _ ?_
          go_meet
          case rel => exact ⟨rfl, bl⟩
      · exact ⟨false, false, false, false, false, false, false, false, false, false, false, false, undef, undef, undef, undef, undef, undef, undef, undef, undef, undef, undef, undef, undef, rfl, Or.inl ⟨rfl, ⟨{ bel := (Below.refl _ _).drew, o0 := (by intro q; cases q), o1 := (by intro q; cases q), o2 := (by intro q; cases q), o3 := (by intro q; cases q), o4 := (by intro q; cases q), o5 := (by intro q; cases q), o6 := (by intro q; cases q), o7 := (by intro q; cases q), o8 := (by intro q; cases q), o9 := (by intro q; cases q), o10 := (by intro q; cases q), o11 := (by intro q; cases q), d1_0 := (by intro q; cases q), d2_1 := (by intro q; cases q), d4_3 := (by intro q; cases q), d6_5 := (by intro q; cases q), d7_6 := (by intro q; cases q), d8_4 := (by intro q; cases q), d8_7 := (by intro q; cases q), d10_8 := (by intro q; cases q), d10_9 := (by intro q; cases q), d11_10 := (by intro q; cases q) }, rfl⟩⟩⟩
    case rest =>
      rename World => wd
      obtain ⟨rfl, b2⟩ := hcut
      cases z with
      | true =>
        go_wp2_with fail
        go_ret
        exact ⟨rfl, bel' pr b2⟩
      | false =>
        go_wp2_with fail
        go_ret
        exact ⟨rfl, bel' pr b2⟩
end Go.Proofs.YtebilgnmnambnaaGreatDoor.Mo
