import Derived.Test.YtapdhadpdbmkcaaGreatDoorPart39
import Derived.Test.YtapdhadpdbmkcaaGreatDoorPart42

namespace Go.Proofs.YtapdhadpdbmkcaaGreatDoor.Mo
open Go.RowKit Fu Tn Go.Lib Dc Wt

structure FMmore (W x : World) (V0 : Value) (V3 : Value) (V4 : Value) (V5 : Value) (N1 : Int) (N2 : Int) (N6 : Int) (y0 y1 y2 y3 y4 y5 y6 : Bool) (t21 t22 t23 t24 t25 t26 t27 : Value) : Prop where
 bel : Below W.heap.size W x
 o0 : y0 = true → t21 = V0
 o3 : y3 = true → t24 = V3
 o4 : y4 = true → t25 = V4
 o5 : y5 = true → t26 = V5
 o1 : y1 = true → NV N1 t22 x
 o2 : y2 = true → NV N2 t23 x
 o6 : y6 = true → NV N6 t27 x
 d4_3 : y4 = true → y3 = true
 d6_4 : y6 = true → y4 = true
 d6_5 : y6 = true → y5 = true
theorem FMmore.grow {W x x' : World} {V0 : Value} {V3 : Value} {V4 : Value} {V5 : Value} {N1 : Int} {N2 : Int} {N6 : Int} {y0 y1 y2 y3 y4 y5 y6 : Bool} {t21 t22 t23 t24 t25 t26 t27 : Value} (h : FMmore W x V0 V3 V4 V5 N1 N2 N6 y0 y1 y2 y3 y4 y5 y6 t21 t22 t23 t24 t25 t26 t27) (b : Below x.heap.size x x') : FMmore W x' V0 V3 V4 V5 N1 N2 N6 y0 y1 y2 y3 y4 y5 y6 t21 t22 t23 t24 t25 t26 t27 where
 bel := bel' h.bel b
 o0 := h.o0
 o3 := h.o3
 o4 := h.o4
 o5 := h.o5
 o1 := fun u => (h.o1 u).grow b
 o2 := fun u => (h.o2 u).grow b
 o6 := fun u => (h.o6 u).grow b
 d4_3 := h.d4_3
 d6_4 := h.d6_4
 d6_5 := h.d6_5
structure FLmore (W x : World) (gz : Bool) (V0 : Value) (V1 : Value) (V2 : Value) (V4 : Value) (V5 : Value) (V6 : Value) (V7 : Value) (N3 : Int) (y0 y1 y2 y3 y4 y5 y6 y7 : Bool) (t28 t29 t30 t31 t32 t33 t34 t35 : Value) : Prop where
 bel : Below W.heap.size W x
 o0 : y0 = true → t28 = V0
 o1 : y1 = true → t29 = V1
 o2 : y2 = true → t30 = V2
 o4 : y4 = true → t32 = V4
 o5 : y5 = true → t33 = V5
 o6 : y6 = true → t34 = V6
 o7 : y7 = true → t35 = V7
 o3 : y3 = true → UW gz N3 t31 x
theorem FLmore.grow {W x x' : World} {gz : Bool} {V0 : Value} {V1 : Value} {V2 : Value} {V4 : Value} {V5 : Value} {V6 : Value} {V7 : Value} {N3 : Int} {y0 y1 y2 y3 y4 y5 y6 y7 : Bool} {t28 t29 t30 t31 t32 t33 t34 t35 : Value} (h : FLmore W x gz V0 V1 V2 V4 V5 V6 V7 N3 y0 y1 y2 y3 y4 y5 y6 y7 t28 t29 t30 t31 t32 t33 t34 t35) (b : Below x.heap.size x x') : FLmore W x' gz V0 V1 V2 V4 V5 V6 V7 N3 y0 y1 y2 y3 y4 y5 y6 y7 t28 t29 t30 t31 t32 t33 t34 t35 where
 bel := bel' h.bel b
 o0 := h.o0
 o1 := h.o1
 o2 := h.o2
 o4 := h.o4
 o5 := h.o5
 o6 := h.o6
 o7 := h.o7
 o3 := fun u => (h.o3 u).grow b
set_option maxHeartbeats 6400000 in
set_option maxRecDepth 100000 in
theorem Floor_more (U V : Wl) (A B Z Y : Int) (gz : Bool) (m : Nat) (w : World) (h1 : Nn w U.a U.l U.c A) (h2 : Nn w V.a V.l V.c B) (hA : A < pw m) (hB : B < pw m) (B0 : 0 < B) (hm : m ≤ 900000) (m1 : 1 ≤ m) (hz : A / B + 1 = Z) (hy : B - A % B = Y) (h0 : A % B ≠ 0) (hg : (true && !decide (Z = 0)) = gz) :
  Calls Tryz.prog 17 #[.agg #[.bool true, .slice U.a U.l U.c, .slice V.a V.l V.c]] w fun e w' => ∃ (xa : Option Addr × Option Addr) (xl xc : Nat × Nat) (ya : Option Addr) (yl yc : Nat), e = .returned (.tuple #[.agg #[.bool gz, .slice xa.1 xl.1 xc.1, .slice xa.2 xl.2 xc.2], .agg #[.bool false, .slice ya yl yc, .slice V.a V.l V.c]]) ∧ ((Nn w' xa.1 xl.1 xc.1 Z ∧ Nn w' xa.2 xl.2 xc.2 1) ∧ Nn w' ya yl yc Y ∧ Nn w' V.a V.l V.c B) ∧ Below w.heap.size w w' := by
 have KF := ((Rb.new w (.bool true) (.slice U.a U.l U.c) (.slice V.a V.l V.c) 44).alloc (.cells #[.bool false, .slice none 0 0, .slice none 0 0] 44)).alloc (.cells #[.bool false, .slice none 0 0, .slice none 0 0] 44)
 have KR := (Rb.new (w.alloc (.cells #[.bool true, .slice U.a U.l U.c, .slice V.a V.l V.c] 44)) (.bool false) (.slice none 0 0) (.slice none 0 0) 44).alloc (.cells #[.bool false, .slice none 0 0, .slice none 0 0] 44)
 have KT := Rb.new ((w.alloc (.cells #[.bool true, .slice U.a U.l U.c, .slice V.a V.l V.c] 44)).alloc (.cells #[.bool false, .slice none 0 0, .slice none 0 0] 44)) (.bool false) (.slice none 0 0) (.slice none 0 0) 44
 have pr : Below w.heap.size w (((w.alloc (.cells #[.bool true, .slice U.a U.l U.c, .slice V.a V.l V.c] 44)).alloc (.cells #[.bool false, .slice none 0 0, .slice none 0 0] 44)).alloc (.cells #[.bool false, .slice none 0 0, .slice none 0 0] 44)) := (((Below.refl _ _).alloc (Nat.le_refl _) _).alloc (by simp) _).alloc (by simp; omega) _
 simp only [World.size_alloc] at KR KT
 have A0 := h1.nonneg
 have OW : ∀ y (a : Option Addr) (l c : Nat), Nn y a l c Z → Calls Tryz.prog 48 #[.bool true, .agg #[.slice a l c]] y fun e w' => ∃ (p : Option Addr × Option Addr) (q s : Nat × Nat), e = .returned (.agg #[.bool gz, .slice p.1 q.1 s.1, .slice p.2 q.2 s.2]) ∧ (Nn w' p.1 q.1 s.1 Z ∧ Nn w' p.2 q.2 s.2 1) ∧ Below y.heap.size y w' := fun y a l c k => by
  have := OfWhole_n true k
  rw [hg] at this
  exact this
 go_enter Tryz.func17, Tryz.ntmps17
 go_wp2_with fail
 have k1 := KF.c1
 have k2 := KF.c2
 generalize (((w.alloc (.cells #[.bool true, .slice U.a U.l U.c, .slice V.a V.l V.c] 44)).alloc (.cells #[.bool false, .slice none 0 0, .slice none 0 0] 44)).alloc (.cells #[.bool false, .slice none 0 0, .slice none 0 0] 44)) = W at *
 have lt := L.lt_of_cell KT.c0
 have h1 := h1.grow pr
 have h2 := h2.grow pr
 go_wp2_with (first
  | (go_at_call 44; go_must (refine (DivMod_n h1 h2 hA B0 (by omega)).mono ?_; rintro e w1 ⟨da, dl, dc, rfl, ⟨n1, n2⟩, b1⟩; (have ba : Below w1.heap.size w1 ((w1.alloc (.cells #[.slice da.1 dl.1 dc.1] 42)).alloc (.cells #[.slice da.2 dl.2 dc.2] 42)) := ((Below.refl _ _).alloc (Nat.le_refl _) _).alloc (by simp) _); (have KN := (Bx.new w1 (.slice da.1 dl.1 dc.1) 42).alloc (.cells #[.slice da.2 dl.2 dc.2] 42)); (have KS := Bx.new (w1.alloc (.cells #[.slice da.1 dl.1 dc.1] 42)) (.slice da.2 dl.2 dc.2) 42); (have sz : (w1.alloc (.cells #[.slice da.1 dl.1 dc.1] 42)).heap.size = w1.heap.size + 1 := World.size_alloc _ _); (rw [sz] at KS); (have KF1 := (KF.grow b1).grow ba); (have KR1 := (KR.grow b1).grow ba); (have KT1 := (KT.grow b1).grow ba); (have p1 := bel' (bel' pr b1) ba); (have n1 := n1.grow ba); (have n2 := n2.grow ba); (have h2' := (h2.grow b1).grow ba); (have k10 := KF1.c0); (have k12 := KF1.c2); (have kn := KN.1); (have ks := KS.1); (have s1 := b1.size)))
  | (go_at_call 45; go_must (refine (IsZero_n n2).mono ?_; rw [show decide (A % B = 0) = false from (decide_eq_false h0)]; rintro e w2 ⟨rfl, b2⟩))
  | fail)
 have KF2 := KF1.grow b2
 have KR2 := KR1.grow b2
 have KT2 := KT1.grow b2
 have KN2 := KN.below b2
 have KS2 := KS.below b2
 have n1 := n1.grow b2
 have n2 := n2.grow b2
 have h2 := h2'.grow b2
 have p2 := bel' p1 b2
 have lm : A % B < B := Int.emod_lt_of_pos _ B0
 have lz : A / B < pw m := by have := Int.ediv_le_self B A0; omega
 have one : (1 : Int) < pw m := by have := pw_mono m1; have p : pw 1 = 18446744073709551616 := (by decide); omega
 have AD : ∀ y (a : Option Addr) (l c : Nat), Below w2.heap.size w2 y → Nn y a l c 1 → Calls Tryz.prog 46 #[.agg #[.slice da.1 dl.1 dc.1], .agg #[.slice a l c]] y fun e w' => ∃ a l c, e = .returned (.agg #[.slice a l c]) ∧ Nn w' a l c (A / B + 1) ∧ Below y.heap.size y w' := fun y a l c b k => Add_n (n1.grow b) k lz one (by omega)
 have SU : ∀ y, Below w2.heap.size w2 y → Calls Tryz.prog 47 #[.agg #[.slice V.a V.l V.c], .agg #[.slice da.2 dl.2 dc.2]] y fun e w' => ∃ a l c, e = .returned (.agg #[.slice a l c]) ∧ Nn w' a l c (B - A % B) ∧ Below y.heap.size y w' := fun y b => Sub_n (h2.grow b) (n2.grow b) hB (by omega) (by omega) (by omega)
 clear kn ks k10 k12
 refine Code.wp_mono (Q := fun ex a x => ex = .normal ∧ (fun a x => ∃ t21 t22 t23 t24 t25 t26 t27, a = ⟨#[.agg #[.bool true, .slice U.a U.l U.c, .slice V.a V.l V.c], .pointer (some ⟨w.heap.size, 0, none⟩), .pointer (some ⟨w.heap.size + 1, 0, none⟩), .pointer (some ⟨w.heap.size + 1 + 1, 0, none⟩), .pointer (some ⟨w1.heap.size, 0, none⟩), .pointer (some ⟨w1.heap.size + 1, 0, none⟩), .tuple #[.agg #[.slice da.1 dl.1 dc.1], .agg #[.slice da.2 dl.2 dc.2]], .pointer (some ⟨w.heap.size, 1, none⟩), .agg #[.slice U.a U.l U.c], .pointer (some ⟨w.heap.size, 2, none⟩), .agg #[.slice V.a V.l V.c], .tuple #[.agg #[.slice da.1 dl.1 dc.1], .agg #[.slice da.2 dl.2 dc.2]], .agg #[.slice da.1 dl.1 dc.1], .agg #[.slice da.2 dl.2 dc.2], .pointer (some ⟨w.heap.size, 0, none⟩), .bool true, .bool true, .agg #[.slice da.2 dl.2 dc.2], .bool false, .bool true, .bool true, t21, t22, t23, t24, t25, t26, t27, undef, undef, undef, undef, undef, undef, undef, undef], []⟩ ∧ (∃ (x0 : World) (na ra : Option Addr) (nl nc rl rc : Nat), Below w2.heap.size w2 x0 ∧ (Nn x0 na nl nc (A / B + 1) ∧ Nn x0 ra rl rc (B - A % B)) ∧ True ∧ x = (x0.setCell ⟨w1.heap.size, 0, none⟩ (.slice na nl nc)).setCell ⟨w1.heap.size + 1, 0, none⟩ (.slice ra rl rc))) a x) ?_ ?_
 rotate_left
 ·refine wp_region_held (S := fun _ => True) (by kernel_rfl) (any_inv (fun listed a x => ∃ (y0 y1 y2 y3 y4 y5 y6 : Bool) (t21 t22 t23 t24 t25 t26 t27 : Value), a = ⟨#[.agg #[.bool true, .slice U.a U.l U.c, .slice V.a V.l V.c], .pointer (some ⟨w.heap.size, 0, none⟩), .pointer (some ⟨w.heap.size + 1, 0, none⟩), .pointer (some ⟨w.heap.size + 1 + 1, 0, none⟩), .pointer (some ⟨w1.heap.size, 0, none⟩), .pointer (some ⟨w1.heap.size + 1, 0, none⟩), .tuple #[.agg #[.slice da.1 dl.1 dc.1], .agg #[.slice da.2 dl.2 dc.2]], .pointer (some ⟨w.heap.size, 1, none⟩), .agg #[.slice U.a U.l U.c], .pointer (some ⟨w.heap.size, 2, none⟩), .agg #[.slice V.a V.l V.c], .tuple #[.agg #[.slice da.1 dl.1 dc.1], .agg #[.slice da.2 dl.2 dc.2]], .agg #[.slice da.1 dl.1 dc.1], .agg #[.slice da.2 dl.2 dc.2], .pointer (some ⟨w.heap.size, 0, none⟩), .bool true, .bool true, .agg #[.slice da.2 dl.2 dc.2], .bool false, .bool true, .bool true, t21, t22, t23, t24, t25, t26, t27, undef, undef, undef, undef, undef, undef, undef, undef], []⟩ ∧ ((listed = #[y0, y1, y2, y3, y4, y5, y6, false, false] ∧ FMmore w2 x (.agg #[.slice da.1 dl.1 dc.1]) (.pointer (some ⟨w.heap.size, 2, none⟩)) (.agg #[.slice V.a V.l V.c]) (.agg #[.slice da.2 dl.2 dc.2]) (1) (A / B + 1) (B - A % B) y0 y1 y2 y3 y4 y5 y6 t21 t22 t23 t24 t25 t26 t27) ∨ (listed = #[true, true, true, true, true, true, true, true, false] ∧ ∃ (x0 : World) (na ra : Option Addr) (nl nc rl rc : Nat), Below w2.heap.size w2 x0 ∧ (Nn x0 na nl nc (A / B + 1) ∧ Nn x0 ra rl rc (B - A % B)) ∧ t27 = .agg #[.slice ra rl rc] ∧ x = x0.setCell ⟨w1.heap.size, 0, none⟩ (.slice na nl nc)) ∨ (listed = #[true, true, true, true, true, true, true, true, true] ∧ ∃ (x0 : World) (na ra : Option Addr) (nl nc rl rc : Nat), Below w2.heap.size w2 x0 ∧ (Nn x0 na nl nc (A / B + 1) ∧ Nn x0 ra rl rc (B - A % B)) ∧ True ∧ x = (x0.setCell ⟨w1.heap.size, 0, none⟩ (.slice na nl nc)).setCell ⟨w1.heap.size + 1, 0, none⟩ (.slice ra rl rc)))) ?_ ?_ _ _ _ _ (by decide) ?_)
  ·rintro listed a x i ⟨y0, y1, y2, y3, y4, y5, y6, t21, t22, t23, t24, t25, t26, t27, rfl, h⟩ hi
   have hr : i < 9 := List.mem_range.1 (List.mem_filter.1 hi).1
   have hc := (List.mem_filter.1 hi).2
   rcases h with ⟨rfl, h⟩ | ⟨rfl, h⟩ | ⟨rfl, h⟩
   ·rcases (show i = 0 ∨ i = 1 ∨ i = 2 ∨ i = 3 ∨ i = 4 ∨ i = 5 ∨ i = 6 ∨ i = 7 ∨ i = 8 by omega) with rfl | rfl | rfl | rfl | rfl | rfl | rfl | rfl | rfl
    ·clear hc hi
     have kn0 := (KN2.below h.bel).1
     refine wpOp_step rfl (fun K hK0 => ?_)
     have hK : Hid _ := hK0
     clear hK0
     rw [if_pos (by rfl)]
     go_wp2_with fail
     exact hK.out _ _ ⟨true, y1, y2, y3, y4, y5, y6, .agg #[.slice da.1 dl.1 dc.1], t22, t23, t24, t25, t26, t27, rfl, Or.inl ⟨rfl, { h with o0 := fun _ => rfl }⟩⟩
    ·clear hc hi
     refine wpOp_step rfl (fun K hK0 => ?_)
     have hK : Hid _ := hK0
     clear hK0
     rw [if_pos (by rfl)]
     go_wp2_with (first | (go_at_call 19; go_must (refine (Of_n 1 _ (by decide) (by decide)).mono ?_; rintro e x2 ⟨a9, l9, c9, rfl, H9, bb⟩)) | fail)
     exact hK.out _ _ ⟨y0, true, y2, y3, y4, y5, y6, t21, _, t23, t24, t25, t26, t27, rfl, Or.inl ⟨rfl, { h.grow bb with o1 := fun _ => ⟨a9, l9, c9, rfl, H9⟩ }⟩⟩
    ·have e0 : y0 = true := by
      revert hc
      cases y0 <;> simp [Region.binds]
     have e1 : y1 = true := by
      revert hc
      cases y1 <;> simp [Region.binds]
     have r0 := h.o0 e0
     subst r0
     obtain ⟨a1, l1, c1, rfl, H1⟩ := h.o1 e1
     clear hc hi
     refine wpOp_step rfl (fun K hK0 => ?_)
     have hK : Hid _ := hK0
     clear hK0
     rw [if_pos (by rfl)]
     go_wp2_with (first | (go_at_call 46; go_must (refine (AD _ _ _ _ h.bel H1).mono ?_; rintro e x2 ⟨a9, l9, c9, rfl, H9, bb⟩)) | fail)
     exact hK.out _ _ ⟨y0, y1, true, y3, y4, y5, y6, _, _, _, t24, t25, t26, t27, rfl, Or.inl ⟨rfl, { h.grow bb with o2 := fun _ => ⟨a9, l9, c9, rfl, H9⟩ }⟩⟩
    ·clear hc hi
     refine wpOp_step rfl (fun K hK0 => ?_)
     have hK : Hid _ := hK0
     clear hK0
     rw [if_pos (by rfl)]
     go_wp2_with fail
     exact hK.out _ _ ⟨y0, y1, y2, true, y4, y5, y6, t21, t22, t23, .pointer (some ⟨w.heap.size, 2, none⟩), t25, t26, t27, rfl, Or.inl ⟨rfl, { h with o3 := fun _ => rfl, d4_3 := fun _ => rfl }⟩⟩
    ·have e3 : y3 = true := by
      revert hc
      cases y3 <;> simp [Region.binds]
     have r3 := h.o3 e3
     subst r3
     clear hc hi
     have kf2 := (KF2.grow h.bel).c2
     refine wpOp_step rfl (fun K hK0 => ?_)
     have hK : Hid _ := hK0
     clear hK0
     rw [if_pos (by rfl)]
     go_wp2_with fail
     exact hK.out _ _ ⟨y0, y1, y2, y3, true, y5, y6, t21, t22, t23, _, .agg #[.slice V.a V.l V.c], t26, t27, rfl, Or.inl ⟨rfl, { h with o4 := fun _ => rfl, d4_3 := fun _ => e3, d6_4 := fun _ => rfl }⟩⟩
    ·clear hc hi
     have ks0 := (KS2.below h.bel).1
     refine wpOp_step rfl (fun K hK0 => ?_)
     have hK : Hid _ := hK0
     clear hK0
     rw [if_pos (by rfl)]
     go_wp2_with fail
     exact hK.out _ _ ⟨y0, y1, y2, y3, y4, true, y6, t21, t22, t23, t24, t25, .agg #[.slice da.2 dl.2 dc.2], t27, rfl, Or.inl ⟨rfl, { h with o5 := fun _ => rfl, d6_5 := fun _ => rfl }⟩⟩
    ·have e4 : y4 = true := by
      revert hc
      cases y4 <;> simp [Region.binds]
     have e5 : y5 = true := by
      revert hc
      cases y5 <;> simp [Region.binds]
     have r4 := h.o4 e4
     subst r4
     have r5 := h.o5 e5
     subst r5
     clear hc hi
     refine wpOp_step rfl (fun K hK0 => ?_)
     have hK : Hid _ := hK0
     clear hK0
     rw [if_pos (by rfl)]
     go_wp2_with (first | (go_at_call 47; go_must (refine (SU _ h.bel).mono ?_; rintro e x2 ⟨a9, l9, c9, rfl, H9, bb⟩)) | fail)
     exact hK.out _ _ ⟨y0, y1, y2, y3, y4, y5, true, t21, t22, t23, t24, _, _, _, rfl, Or.inl ⟨rfl, { h.grow bb with o6 := fun _ => ⟨a9, l9, c9, rfl, H9⟩, d6_4 := fun _ => e4, d6_5 := fun _ => e5 }⟩⟩
    ·have e0 : y0 = true := by
      revert hc
      cases y0 <;> simp [Region.binds]
     have e1 : y1 = true := by
      revert hc
      cases y1 <;> simp [Region.binds]
     have e2 : y2 = true := by
      revert hc
      cases y2 <;> simp [Region.binds]
     have e6 : y6 = true := by
      revert hc
      cases y6 <;> simp [Region.binds]
     have e4 := h.d6_4 e6
     have e5 := h.d6_5 e6
     have e3 := h.d4_3 e4
     obtain ⟨a2, l2, c2, rfl, H2⟩ := h.o2 e2
     obtain ⟨a6, l6, c6, rfl, H6⟩ := h.o6 e6
     clear hc hi
     subst e0 e1 e2 e3 e4 e5 e6
     have bl := h.bel
     have kn0 := (KN2.below bl).1
     have kn1 := (KN2.below bl).2
     clear h
     refine wpOp_step rfl (fun K hK0 => ?_)
     have hK : Hid _ := hK0
     clear hK0
     rw [if_pos (by rfl)]
     go_wp2_with fail
     exact hK.out _ _ ⟨true, true, true, true, true, true, true, t21, t22, _, t24, t25, t26, _, rfl, Or.inr (Or.inl ⟨rfl, x, a2, a6, l2, c2, l6, c6, bl, ⟨H2, H6⟩, rfl, rfl⟩)⟩
    ·simp [Region.binds] at hc
   ·rcases (show i = 0 ∨ i = 1 ∨ i = 2 ∨ i = 3 ∨ i = 4 ∨ i = 5 ∨ i = 6 ∨ i = 7 ∨ i = 8 by omega) with rfl | rfl | rfl | rfl | rfl | rfl | rfl | rfl | rfl
    ·simp at hc
    ·simp at hc
    ·simp at hc
    ·simp at hc
    ·simp at hc
    ·simp at hc
    ·simp at hc
    ·simp at hc
    ·clear hc hi
     obtain ⟨x0, na, ra, nl, nc, rl, rc, bl, HH, rfl, rfl⟩ := h
     have kb := (KS2.below bl).wr ((Wr.refl (w1.heap.size) 0 1 x0).setCell 0 (by omega) (.slice na nl nc)) (by omega)
     have kb0 := kb.1
     have kb1 := kb.2
     refine wpOp_step rfl (fun K hK0 => ?_)
     have hK : Hid _ := hK0
     clear hK0
     rw [if_pos (by rfl)]
     go_wp2_with fail
     exact hK.out _ _ ⟨true, true, true, true, true, true, true, _, _, _, _, _, _, _, rfl, Or.inr (Or.inr (⟨rfl, x0, na, ra, nl, nc, rl, rc, bl, HH, trivial, rfl⟩))⟩
   ·rcases (show i = 0 ∨ i = 1 ∨ i = 2 ∨ i = 3 ∨ i = 4 ∨ i = 5 ∨ i = 6 ∨ i = 7 ∨ i = 8 by omega) with rfl | rfl | rfl | rfl | rfl | rfl | rfl | rfl | rfl <;> simp at hc
  ·rintro listed a x ⟨y0, y1, y2, y3, y4, y5, y6, t21, t22, t23, t24, t25, t26, t27, rfl, h⟩ hn
   have al := all_listed2 (by decide +kernel) hn
   rcases h with ⟨rfl, h⟩ | ⟨rfl, h⟩ | ⟨rfl, h⟩
   ·have z := al 7 (by decide)
    simp at z
   ·have z := al 8 (by decide)
    simp at z
   ·obtain ⟨x0, na, ra, nl, nc, rl, rc, bl, HH, _, rfl⟩ := h
    refine ⟨rfl, ?_⟩
    exact ⟨_, _, _, _, _, _, _, rfl, x0, na, ra, nl, nc, rl, rc, bl, HH, trivial, rfl⟩
  ·exact ⟨false, false, false, false, false, false, false, undef, undef, undef, undef, undef, undef, undef, rfl, Or.inl ⟨rfl, { bel := (Below.refl _ _).drew, o0 := (by intro q; cases q), o1 := (by intro q; cases q), o2 := (by intro q; cases q), o3 := (by intro q; cases q), o4 := (by intro q; cases q), o5 := (by intro q; cases q), o6 := (by intro q; cases q), d4_3 := (by intro q; cases q), d6_4 := (by intro q; cases q), d6_5 := (by intro q; cases q) }⟩⟩
 rintro _ a x ⟨rfl, t21, t22, t23, t24, t25, t26, t27, rfl, w5, na, ra, nl, nc, rl, rc, b5', ⟨nn, ny⟩, _, rfl⟩
 go_wp2_with fail
 have KN5 := KN2.below b5'
 have KS5 := KS2.below b5'
 have KF5 := KF2.grow b5'
 have ka : Wr w1.heap.size 0 1 w5 (w5.setCell ⟨w1.heap.size, 0, none⟩ (.slice na nl nc)) := (Wr.refl _ 0 1 w5).setCell 0 (by omega) _
 have kb : Wr (w1.heap.size + 1) 0 1 (w5.setCell ⟨w1.heap.size, 0, none⟩ (.slice na nl nc)) ((w5.setCell ⟨w1.heap.size, 0, none⟩ (.slice na nl nc)).setCell ⟨w1.heap.size + 1, 0, none⟩ (.slice ra rl rc)) := (Wr.refl _ 0 1 _).setCell 0 (by omega) _
 have KN := (KN5.set (.slice na nl nc)).wr kb (by omega)
 have KS0 := KS5.wr ka (by omega)
 have KS := KS0.set (.slice ra rl rc)
 have KF := (KF5.skip (m := w1.heap.size) (by omega) (.slice na nl nc)).skip (m := w1.heap.size + 1) (by omega) (.slice ra rl rc)
 have KR := ((KR2.grow b5').skip (m := w1.heap.size) (by omega) (.slice na nl nc)).skip (m := w1.heap.size + 1) (by omega) (.slice ra rl rc)
 have KT := ((KT2.grow b5').skip (m := w1.heap.size) (by omega) (.slice na nl nc)).skip (m := w1.heap.size + 1) (by omega) (.slice ra rl rc)
 have nn := (nn.box (u := .slice na nl nc) KN5).box (u := .slice ra rl rc) KS0
 have ny := (ny.box (u := .slice na nl nc) KN5).box (u := .slice ra rl rc) KS0
 have h3 := ((h2.grow b5').box (u := .slice na nl nc) KN5).box (u := .slice ra rl rc) KS0
 have p1 := below_put (below_put (bel' p2 b5') (show w.heap.size ≤ w1.heap.size by omega) (.slice na nl nc)) (show w.heap.size ≤ w1.heap.size + 1 by omega) (.slice ra rl rc)
 have sD := s1
 generalize (w5.setCell ⟨w1.heap.size, 0, none⟩ (.slice na nl nc)).setCell ⟨w1.heap.size + 1, 0, none⟩ (.slice ra rl rc) = WD at *
 rw [hz] at nn
 rw [hy] at ny
 have OW : ∀ y, Below WD.heap.size WD y → Calls Tryz.prog 48 #[.bool true, .agg #[.slice na nl nc]] y fun e w' => ∃ (p : Option Addr × Option Addr) (q s : Nat × Nat), e = .returned (.agg #[.bool gz, .slice p.1 q.1 s.1, .slice p.2 q.2 s.2]) ∧ (Nn w' p.1 q.1 s.1 Z ∧ Nn w' p.2 q.2 s.2 1) ∧ Below y.heap.size y w' := fun y b => OW y _ _ _ (nn.grow b)
 have neF : w.heap.size ≠ w.heap.size + 1 := by omega
 have neT : w.heap.size + 1 + 1 ≠ w.heap.size + 1 := by omega
 have neS : w1.heap.size + 1 ≠ w.heap.size + 1 := by omega
 have lw := pr.size
 clear h1 h2 hA hB B0 hz hy hg n1 n2 k1 k2
 refine Code.wp_mono (Q := fun ex a x => ex = .normal ∧ (fun a x => ∃ t28 t29 t30 t31 t32 t33 t34 t35, a = ⟨#[.agg #[.bool true, .slice U.a U.l U.c, .slice V.a V.l V.c], .pointer (some ⟨w.heap.size, 0, none⟩), .pointer (some ⟨w.heap.size + 1, 0, none⟩), .pointer (some ⟨w.heap.size + 1 + 1, 0, none⟩), .pointer (some ⟨w1.heap.size, 0, none⟩), .pointer (some ⟨w1.heap.size + 1, 0, none⟩), .tuple #[.agg #[.slice da.1 dl.1 dc.1], .agg #[.slice da.2 dl.2 dc.2]], .pointer (some ⟨w.heap.size, 1, none⟩), .agg #[.slice U.a U.l U.c], .pointer (some ⟨w.heap.size, 2, none⟩), .agg #[.slice V.a V.l V.c], .tuple #[.agg #[.slice da.1 dl.1 dc.1], .agg #[.slice da.2 dl.2 dc.2]], .agg #[.slice da.1 dl.1 dc.1], .agg #[.slice da.2 dl.2 dc.2], .pointer (some ⟨w.heap.size, 0, none⟩), .bool true, .bool true, .agg #[.slice da.2 dl.2 dc.2], .bool false, .bool true, .bool true, t21, t22, t23, t24, t25, t26, t27, t28, t29, t30, t31, t32, t33, t34, t35], []⟩ ∧ (∃ (x0 : World) (xa : Option Addr × Option Addr) (xl xc : Nat × Nat), Below WD.heap.size WD x0 ∧ (Nn x0 xa.1 xl.1 xc.1 Z ∧ Nn x0 xa.2 xl.2 xc.2 1) ∧ x = ((((((x0.setCell ⟨w.heap.size + 1, 0, none⟩ (.bool gz)).setCell ⟨w.heap.size + 1, 1, none⟩ (.slice xa.1 xl.1 xc.1)).setCell ⟨w.heap.size + 1, 2, none⟩ (.slice xa.2 xl.2 xc.2)).setCell ⟨w.heap.size + 1 + 1, 0, none⟩ (.bool false)).setCell ⟨w.heap.size + 1 + 1, 1, none⟩ (.slice ra rl rc)).setCell ⟨w.heap.size + 1 + 1, 2, none⟩ (.slice V.a V.l V.c)))) a x) ?_ ?_
 rotate_left
 ·refine wp_region_held (S := fun _ => True) (by kernel_rfl) (any_inv (fun listed a x => ∃ (y0 y1 y2 y3 y4 y5 y6 y7 : Bool) (t28 t29 t30 t31 t32 t33 t34 t35 : Value), a = ⟨#[.agg #[.bool true, .slice U.a U.l U.c, .slice V.a V.l V.c], .pointer (some ⟨w.heap.size, 0, none⟩), .pointer (some ⟨w.heap.size + 1, 0, none⟩), .pointer (some ⟨w.heap.size + 1 + 1, 0, none⟩), .pointer (some ⟨w1.heap.size, 0, none⟩), .pointer (some ⟨w1.heap.size + 1, 0, none⟩), .tuple #[.agg #[.slice da.1 dl.1 dc.1], .agg #[.slice da.2 dl.2 dc.2]], .pointer (some ⟨w.heap.size, 1, none⟩), .agg #[.slice U.a U.l U.c], .pointer (some ⟨w.heap.size, 2, none⟩), .agg #[.slice V.a V.l V.c], .tuple #[.agg #[.slice da.1 dl.1 dc.1], .agg #[.slice da.2 dl.2 dc.2]], .agg #[.slice da.1 dl.1 dc.1], .agg #[.slice da.2 dl.2 dc.2], .pointer (some ⟨w.heap.size, 0, none⟩), .bool true, .bool true, .agg #[.slice da.2 dl.2 dc.2], .bool false, .bool true, .bool true, t21, t22, t23, t24, t25, t26, t27, t28, t29, t30, t31, t32, t33, t34, t35], []⟩ ∧ ((listed = #[y0, y1, y2, y3, y4, y5, y6, y7, false, false] ∧ FLmore WD x gz (.pointer (some ⟨w.heap.size, 0, none⟩)) (.bool true) (.agg #[.slice na nl nc]) (.agg #[.slice ra rl rc]) (.pointer (some ⟨w.heap.size, 2, none⟩)) (.agg #[.slice V.a V.l V.c]) (.agg #[.bool false, .slice ra rl rc, .slice V.a V.l V.c]) (Z) y0 y1 y2 y3 y4 y5 y6 y7 t28 t29 t30 t31 t32 t33 t34 t35) ∨ (listed = #[true, true, true, true, y4, y5, y6, y7, true, false] ∧ (y4 = true → t32 = .agg #[.slice ra rl rc]) ∧ (y5 = true → t33 = .pointer (some ⟨w.heap.size, 2, none⟩)) ∧ (y6 = true → t34 = .agg #[.slice V.a V.l V.c]) ∧ (y7 = true → t35 = .agg #[.bool false, .slice ra rl rc, .slice V.a V.l V.c]) ∧ ∃ (x0 : World) (xa : Option Addr × Option Addr) (xl xc : Nat × Nat), Below WD.heap.size WD x0 ∧ (Nn x0 xa.1 xl.1 xc.1 Z ∧ Nn x0 xa.2 xl.2 xc.2 1) ∧ x = (((x0.setCell ⟨w.heap.size + 1, 0, none⟩ (.bool gz)).setCell ⟨w.heap.size + 1, 1, none⟩ (.slice xa.1 xl.1 xc.1)).setCell ⟨w.heap.size + 1, 2, none⟩ (.slice xa.2 xl.2 xc.2))) ∨ (listed = #[true, true, true, true, true, true, true, true, true, true] ∧ ∃ (x0 : World) (xa : Option Addr × Option Addr) (xl xc : Nat × Nat), Below WD.heap.size WD x0 ∧ (Nn x0 xa.1 xl.1 xc.1 Z ∧ Nn x0 xa.2 xl.2 xc.2 1) ∧ x = ((((((x0.setCell ⟨w.heap.size + 1, 0, none⟩ (.bool gz)).setCell ⟨w.heap.size + 1, 1, none⟩ (.slice xa.1 xl.1 xc.1)).setCell ⟨w.heap.size + 1, 2, none⟩ (.slice xa.2 xl.2 xc.2)).setCell ⟨w.heap.size + 1 + 1, 0, none⟩ (.bool false)).setCell ⟨w.heap.size + 1 + 1, 1, none⟩ (.slice ra rl rc)).setCell ⟨w.heap.size + 1 + 1, 2, none⟩ (.slice V.a V.l V.c))))) ?_ ?_ _ _ _ _ (by decide) ?_)
  ·rintro listed a x i ⟨y0, y1, y2, y3, y4, y5, y6, y7, t28, t29, t30, t31, t32, t33, t34, t35, rfl, h⟩ hi
   have hr : i < 10 := List.mem_range.1 (List.mem_filter.1 hi).1
   have hc := (List.mem_filter.1 hi).2
   rcases h with ⟨rfl, h⟩ | ⟨rfl, h⟩ | ⟨rfl, h⟩
   ·rcases (show i = 0 ∨ i = 1 ∨ i = 2 ∨ i = 3 ∨ i = 4 ∨ i = 5 ∨ i = 6 ∨ i = 7 ∨ i = 8 ∨ i = 9 by omega) with rfl | rfl | rfl | rfl | rfl | rfl | rfl | rfl | rfl | rfl
    ·clear hc hi
     refine wpOp_step rfl (fun K hK0 => ?_)
     have hK : Hid _ := hK0
     clear hK0
     rw [if_pos (by rfl)]
     go_wp2_with fail
     exact hK.out _ _ ⟨true, y1, y2, y3, y4, y5, y6, y7, .pointer (some ⟨w.heap.size, 0, none⟩), t29, t30, t31, t32, t33, t34, t35, rfl, Or.inl ⟨rfl, { h with o0 := fun _ => rfl }⟩⟩
    ·have e0 : y0 = true := by
      revert hc
      cases y0 <;> simp [Region.binds]
     have r0 := h.o0 e0
     subst r0
     clear hc hi
     have kf0 := (KF.grow h.bel).c0
     refine wpOp_step rfl (fun K hK0 => ?_)
     have hK : Hid _ := hK0
     clear hK0
     rw [if_pos (by rfl)]
     go_wp2_with fail
     exact hK.out _ _ ⟨y0, true, y2, y3, y4, y5, y6, y7, _, .bool true, t30, t31, t32, t33, t34, t35, rfl, Or.inl ⟨rfl, { h with o1 := fun _ => rfl }⟩⟩
    ·clear hc hi
     have kn0 := (KN.below h.bel).1
     refine wpOp_step rfl (fun K hK0 => ?_)
     have hK : Hid _ := hK0
     clear hK0
     rw [if_pos (by rfl)]
     go_wp2_with fail
     exact hK.out _ _ ⟨y0, y1, true, y3, y4, y5, y6, y7, t28, t29, .agg #[.slice na nl nc], t31, t32, t33, t34, t35, rfl, Or.inl ⟨rfl, { h with o2 := fun _ => rfl }⟩⟩
    ·have e1 : y1 = true := by
      revert hc
      cases y1 <;> simp [Region.binds]
     have e2 : y2 = true := by
      revert hc
      cases y2 <;> simp [Region.binds]
     have r1 := h.o1 e1
     subst r1
     have r2 := h.o2 e2
     subst r2
     clear hc hi
     refine wpOp_step rfl (fun K hK0 => ?_)
     have hK : Hid _ := hK0
     clear hK0
     rw [if_pos (by rfl)]
     go_wp2_with (first | (go_at_call 48; go_must (refine (OW _ h.bel).mono ?_; rintro e x2 ⟨a9, l9, c9, rfl, H9, bb⟩)) | fail)
     exact hK.out _ _ ⟨y0, y1, y2, true, y4, y5, y6, y7, t28, _, _, _, t32, t33, t34, t35, rfl, Or.inl ⟨rfl, { h.grow bb with o3 := fun _ => ⟨a9, l9, c9, rfl, H9⟩ }⟩⟩
    ·clear hc hi
     have ks0 := (KS.below h.bel).1
     refine wpOp_step rfl (fun K hK0 => ?_)
     have hK : Hid _ := hK0
     clear hK0
     rw [if_pos (by rfl)]
     go_wp2_with fail
     exact hK.out _ _ ⟨y0, y1, y2, y3, true, y5, y6, y7, t28, t29, t30, t31, .agg #[.slice ra rl rc], t33, t34, t35, rfl, Or.inl ⟨rfl, { h with o4 := fun _ => rfl }⟩⟩
    ·clear hc hi
     refine wpOp_step rfl (fun K hK0 => ?_)
     have hK : Hid _ := hK0
     clear hK0
     rw [if_pos (by rfl)]
     go_wp2_with fail
     exact hK.out _ _ ⟨y0, y1, y2, y3, y4, true, y6, y7, t28, t29, t30, t31, t32, .pointer (some ⟨w.heap.size, 2, none⟩), t34, t35, rfl, Or.inl ⟨rfl, { h with o5 := fun _ => rfl }⟩⟩
    ·have e5 : y5 = true := by
      revert hc
      cases y5 <;> simp [Region.binds]
     have r5 := h.o5 e5
     subst r5
     clear hc hi
     have kf2 := (KF.grow h.bel).c2
     refine wpOp_step rfl (fun K hK0 => ?_)
     have hK : Hid _ := hK0
     clear hK0
     rw [if_pos (by rfl)]
     go_wp2_with fail
     exact hK.out _ _ ⟨y0, y1, y2, y3, y4, y5, true, y7, t28, t29, t30, t31, t32, _, .agg #[.slice V.a V.l V.c], t35, rfl, Or.inl ⟨rfl, { h with o6 := fun _ => rfl }⟩⟩
    ·have e4 : y4 = true := by
      revert hc
      cases y4 <;> simp [Region.binds]
     have e6 : y6 = true := by
      revert hc
      cases y6 <;> simp [Region.binds]
     have r4 := h.o4 e4
     subst r4
     have r6 := h.o6 e6
     subst r6
     clear hc hi
     refine wpOp_step rfl (fun K hK0 => ?_)
     have hK : Hid _ := hK0
     clear hK0
     rw [if_pos (by rfl)]
     go_wp2_with fail
     exact hK.out _ _ ⟨y0, y1, y2, y3, y4, y5, y6, true, t28, t29, t30, t31, _, t33, _, .agg #[.bool false, .slice ra rl rc, .slice V.a V.l V.c], rfl, Or.inl ⟨rfl, { h with o7 := fun _ => rfl }⟩⟩
    ·have e0 : y0 = true := by
      revert hc
      cases y0 <;> simp [Region.binds]
     have e1 : y1 = true := by
      revert hc
      cases y1 <;> simp [Region.binds]
     have e2 : y2 = true := by
      revert hc
      cases y2 <;> simp [Region.binds]
     have e3 : y3 = true := by
      revert hc
      cases y3 <;> simp [Region.binds]
     obtain ⟨a3, l3, c3, rfl, H3⟩ := h.o3 e3
     have hl4 := h.o4
     have hl5 := h.o5
     have hl6 := h.o6
     have hl7 := h.o7
     clear hc hi
     subst e0 e1 e2 e3
     have bl := h.bel
     have kr0 := (KR.grow bl).c0
     have kr1 := (KR.grow bl).c1
     have kr2 := (KR.grow bl).c2
     have kr3 := (KR.grow bl).f0
     have kr4 := (KR.grow bl).f1
     have kr5 := (KR.grow bl).f2
     clear h
     refine wpOp_step rfl (fun K hK0 => ?_)
     have hK : Hid _ := hK0
     clear hK0
     rw [if_pos (by rfl)]
     go_wp2_with fail
     exact hK.out _ _ ⟨true, true, true, true, y4, y5, y6, y7, t28, t29, t30, _, t32, t33, t34, t35, rfl, Or.inr (Or.inl ⟨rfl, hl4, hl5, hl6, hl7, x, a3, l3, c3, bl, H3, rfl⟩)⟩
    ·simp [Region.binds] at hc
   ·rcases (show i = 0 ∨ i = 1 ∨ i = 2 ∨ i = 3 ∨ i = 4 ∨ i = 5 ∨ i = 6 ∨ i = 7 ∨ i = 8 ∨ i = 9 by omega) with rfl | rfl | rfl | rfl | rfl | rfl | rfl | rfl | rfl | rfl
    ·simp at hc
    ·simp at hc
    ·simp at hc
    ·simp at hc
    ·clear hc hi
     obtain ⟨hl4, h⟩ := h
     obtain ⟨hl5, h⟩ := h
     obtain ⟨hl6, h⟩ := h
     obtain ⟨hl7, h⟩ := h
     obtain ⟨x0, xa, xl, xc, bl, HH, rfl⟩ := h
     have ks9 := ((KS.below bl).wr (wr3 x0 (w.heap.size + 1) (.bool gz) (.slice xa.1 xl.1 xc.1) (.slice xa.2 xl.2 xc.2)) neS).1
     have kq0 := ((KF.grow bl).skip3 neF (.bool gz) (.slice xa.1 xl.1 xc.1) (.slice xa.2 xl.2 xc.2)).c0
     have kq1 := ((KF.grow bl).skip3 neF (.bool gz) (.slice xa.1 xl.1 xc.1) (.slice xa.2 xl.2 xc.2)).c1
     have kq2 := ((KF.grow bl).skip3 neF (.bool gz) (.slice xa.1 xl.1 xc.1) (.slice xa.2 xl.2 xc.2)).c2
     refine wpOp_step rfl (fun K hK0 => ?_)
     have hK : Hid _ := hK0
     clear hK0
     rw [if_pos (by rfl)]
     go_wp2_with fail
     exact hK.out _ _ ⟨true, true, true, true, true, y5, y6, y7, _, _, _, _, _, _, _, _, rfl, Or.inr (Or.inl ⟨rfl, fun _ => rfl, hl5, hl6, hl7, x0, xa, xl, xc, bl, HH, rfl⟩)⟩
    ·clear hc hi
     obtain ⟨hl4, h⟩ := h
     obtain ⟨hl5, h⟩ := h
     obtain ⟨hl6, h⟩ := h
     obtain ⟨hl7, h⟩ := h
     obtain ⟨x0, xa, xl, xc, bl, HH, rfl⟩ := h
     have ks9 := ((KS.below bl).wr (wr3 x0 (w.heap.size + 1) (.bool gz) (.slice xa.1 xl.1 xc.1) (.slice xa.2 xl.2 xc.2)) neS).1
     have kq0 := ((KF.grow bl).skip3 neF (.bool gz) (.slice xa.1 xl.1 xc.1) (.slice xa.2 xl.2 xc.2)).c0
     have kq1 := ((KF.grow bl).skip3 neF (.bool gz) (.slice xa.1 xl.1 xc.1) (.slice xa.2 xl.2 xc.2)).c1
     have kq2 := ((KF.grow bl).skip3 neF (.bool gz) (.slice xa.1 xl.1 xc.1) (.slice xa.2 xl.2 xc.2)).c2
     refine wpOp_step rfl (fun K hK0 => ?_)
     have hK : Hid _ := hK0
     clear hK0
     rw [if_pos (by rfl)]
     go_wp2_with fail
     exact hK.out _ _ ⟨true, true, true, true, y4, true, y6, y7, _, _, _, _, _, _, _, _, rfl, Or.inr (Or.inl ⟨rfl, hl4, fun _ => rfl, hl6, hl7, x0, xa, xl, xc, bl, HH, rfl⟩)⟩
    ·have e5 : y5 = true := by
      revert hc
      cases y5 <;> simp [Region.binds]
     clear hc hi
     obtain ⟨hl4, h⟩ := h
     obtain ⟨hl5, h⟩ := h
     obtain ⟨hl6, h⟩ := h
     obtain ⟨hl7, h⟩ := h
     have r5 := hl5 e5
     subst r5
     obtain ⟨x0, xa, xl, xc, bl, HH, rfl⟩ := h
     have ks9 := ((KS.below bl).wr (wr3 x0 (w.heap.size + 1) (.bool gz) (.slice xa.1 xl.1 xc.1) (.slice xa.2 xl.2 xc.2)) neS).1
     have kq0 := ((KF.grow bl).skip3 neF (.bool gz) (.slice xa.1 xl.1 xc.1) (.slice xa.2 xl.2 xc.2)).c0
     have kq1 := ((KF.grow bl).skip3 neF (.bool gz) (.slice xa.1 xl.1 xc.1) (.slice xa.2 xl.2 xc.2)).c1
     have kq2 := ((KF.grow bl).skip3 neF (.bool gz) (.slice xa.1 xl.1 xc.1) (.slice xa.2 xl.2 xc.2)).c2
     refine wpOp_step rfl (fun K hK0 => ?_)
     have hK : Hid _ := hK0
     clear hK0
     rw [if_pos (by rfl)]
     go_wp2_with fail
     exact hK.out _ _ ⟨true, true, true, true, y4, y5, true, y7, _, _, _, _, _, _, _, _, rfl, Or.inr (Or.inl ⟨rfl, hl4, fun _ => rfl, fun _ => rfl, hl7, x0, xa, xl, xc, bl, HH, rfl⟩)⟩
    ·have e4 : y4 = true := by
      revert hc
      cases y4 <;> simp [Region.binds]
     have e6 : y6 = true := by
      revert hc
      cases y6 <;> simp [Region.binds]
     clear hc hi
     obtain ⟨hl4, h⟩ := h
     obtain ⟨hl5, h⟩ := h
     obtain ⟨hl6, h⟩ := h
     obtain ⟨hl7, h⟩ := h
     have r4 := hl4 e4
     subst r4
     have r6 := hl6 e6
     subst r6
     obtain ⟨x0, xa, xl, xc, bl, HH, rfl⟩ := h
     have ks9 := ((KS.below bl).wr (wr3 x0 (w.heap.size + 1) (.bool gz) (.slice xa.1 xl.1 xc.1) (.slice xa.2 xl.2 xc.2)) neS).1
     have kq0 := ((KF.grow bl).skip3 neF (.bool gz) (.slice xa.1 xl.1 xc.1) (.slice xa.2 xl.2 xc.2)).c0
     have kq1 := ((KF.grow bl).skip3 neF (.bool gz) (.slice xa.1 xl.1 xc.1) (.slice xa.2 xl.2 xc.2)).c1
     have kq2 := ((KF.grow bl).skip3 neF (.bool gz) (.slice xa.1 xl.1 xc.1) (.slice xa.2 xl.2 xc.2)).c2
     refine wpOp_step rfl (fun K hK0 => ?_)
     have hK : Hid _ := hK0
     clear hK0
     rw [if_pos (by rfl)]
     go_wp2_with fail
     exact hK.out _ _ ⟨true, true, true, true, y4, y5, y6, true, _, _, _, _, _, _, _, _, rfl, Or.inr (Or.inl ⟨rfl, fun _ => rfl, hl5, fun _ => rfl, fun _ => rfl, x0, xa, xl, xc, bl, HH, rfl⟩)⟩
    ·simp at hc
    ·have e4 : y4 = true := by
      revert hc
      cases y4 <;> simp [Region.binds]
     have e5 : y5 = true := by
      revert hc
      cases y5 <;> simp [Region.binds]
     have e6 : y6 = true := by
      revert hc
      cases y6 <;> simp [Region.binds]
     have e7 : y7 = true := by
      revert hc
      cases y7 <;> simp [Region.binds]
     obtain ⟨hl4, h⟩ := h
     obtain ⟨hl5, h⟩ := h
     obtain ⟨hl6, h⟩ := h
     obtain ⟨hl7, h⟩ := h
     have r4 := hl4 e4
     have r5 := hl5 e5
     have r6 := hl6 e6
     have r7 := hl7 e7
     clear hl4
     clear hl5
     clear hl6
     clear hl7
     subst e4 r4
     subst e5 r5
     subst e6 r6
     subst e7 r7
     clear hc hi
     obtain ⟨x0, xa, xl, xc, bl, HH, rfl⟩ := h
     have kt0 := ((KT.grow bl).skip3 neT (.bool gz) (.slice xa.1 xl.1 xc.1) (.slice xa.2 xl.2 xc.2)).c0
     have kt1 := ((KT.grow bl).skip3 neT (.bool gz) (.slice xa.1 xl.1 xc.1) (.slice xa.2 xl.2 xc.2)).c1
     have kt2 := ((KT.grow bl).skip3 neT (.bool gz) (.slice xa.1 xl.1 xc.1) (.slice xa.2 xl.2 xc.2)).c2
     have kt3 := ((KT.grow bl).skip3 neT (.bool gz) (.slice xa.1 xl.1 xc.1) (.slice xa.2 xl.2 xc.2)).f0
     have kt4 := ((KT.grow bl).skip3 neT (.bool gz) (.slice xa.1 xl.1 xc.1) (.slice xa.2 xl.2 xc.2)).f1
     have kt5 := ((KT.grow bl).skip3 neT (.bool gz) (.slice xa.1 xl.1 xc.1) (.slice xa.2 xl.2 xc.2)).f2
     refine wpOp_step rfl (fun K hK0 => ?_)
     have hK : Hid _ := hK0
     clear hK0
     rw [if_pos (by rfl)]
     go_wp2_with fail
     exact hK.out _ _ ⟨true, true, true, true, true, true, true, true, _, _, _, _, _, _, _, _, rfl, Or.inr (Or.inr (⟨rfl, x0, xa, xl, xc, bl, HH, rfl⟩))⟩
   ·rcases (show i = 0 ∨ i = 1 ∨ i = 2 ∨ i = 3 ∨ i = 4 ∨ i = 5 ∨ i = 6 ∨ i = 7 ∨ i = 8 ∨ i = 9 by omega) with rfl | rfl | rfl | rfl | rfl | rfl | rfl | rfl | rfl | rfl <;> simp at hc
  ·rintro listed a x ⟨y0, y1, y2, y3, y4, y5, y6, y7, t28, t29, t30, t31, t32, t33, t34, t35, rfl, h⟩ hn
   have al := all_listed2 (by decide +kernel) hn
   rcases h with ⟨rfl, h⟩ | ⟨rfl, h⟩ | ⟨rfl, h⟩
   ·have z := al 8 (by decide)
    simp at z
   ·have z := al 9 (by decide)
    simp at z
   ·obtain ⟨x0, xa, xl, xc, bl, HH, rfl⟩ := h
    refine ⟨rfl, ?_⟩
    exact ⟨_, _, _, _, _, _, _, _, rfl, x0, xa, xl, xc, bl, HH, rfl⟩
  ·exact ⟨false, false, false, false, false, false, false, false, undef, undef, undef, undef, undef, undef, undef, undef, rfl, Or.inl ⟨rfl, { bel := (Below.refl _ _).drew, o0 := (by intro q; cases q), o1 := (by intro q; cases q), o2 := (by intro q; cases q), o3 := (by intro q; cases q), o4 := (by intro q; cases q), o5 := (by intro q; cases q), o6 := (by intro q; cases q), o7 := (by intro q; cases q) }⟩⟩
 ·rintro _ a x ⟨rfl, t28, t29, t30, t31, t32, t33, t34, t35, rfl, x0, xa, xl, xc, bl, HH, rfl⟩
  have KR3 := KR.grow bl
  have KT3 := (KT.grow bl).skip3 neT (.bool gz) (.slice xa.1 xl.1 xc.1) (.slice xa.2 xl.2 xc.2)
  have RS := KR3.sets (.bool gz) (.slice xa.1 xl.1 xc.1) (.slice xa.2 xl.2 xc.2)
  have p3 := bset3 (n := w.heap.size + 1 + 1) (x := .bool false) (y := .slice ra rl rc) (z := .slice V.a V.l V.c) (bset3 (n := w.heap.size + 1) (x := .bool gz) (y := .slice xa.1 xl.1 xc.1) (z := .slice xa.2 xl.2 xc.2) (bel' p1 bl) (by omega)) (by omega)
  have e1 := (HH.1.putF (x := .bool gz) (y := .slice xa.1 xl.1 xc.1) (z := .slice xa.2 xl.2 xc.2) KR3).putF (x := .bool false) (y := .slice ra rl rc) (z := .slice V.a V.l V.c) KT3
  have e2 := (HH.2.putF (x := .bool gz) (y := .slice xa.1 xl.1 xc.1) (z := .slice xa.2 xl.2 xc.2) KR3).putF (x := .bool false) (y := .slice ra rl rc) (z := .slice V.a V.l V.c) KT3
  have e3 := ((ny.grow bl).putF (x := .bool gz) (y := .slice xa.1 xl.1 xc.1) (z := .slice xa.2 xl.2 xc.2) KR3).putF (x := .bool false) (y := .slice ra rl rc) (z := .slice V.a V.l V.c) KT3
  have e4 := ((h3.grow bl).putF (x := .bool gz) (y := .slice xa.1 xl.1 xc.1) (z := .slice xa.2 xl.2 xc.2) KR3).putF (x := .bool false) (y := .slice ra rl rc) (z := .slice V.a V.l V.c) KT3
  have R9 := RS.skip3 (Ne.symm neT) (.bool false) (.slice ra rl rc) (.slice V.a V.l V.c)
  have T9 := KT3.sets (.bool false) (.slice ra rl rc) (.slice V.a V.l V.c)
  have z9 := R9.c0
  have z8 := R9.c1
  have z7 := R9.c2
  have z6 := T9.c0
  have z5 := T9.c1
  have z4 := T9.c2
  go_wp2
  exact bodyPost_ret (v := .tuple #[.agg #[.bool gz, .slice xa.1 xl.1 xc.1, .slice xa.2 xl.2 xc.2], .agg #[.bool false, .slice ra rl rc, .slice V.a V.l V.c]]) (by simp [results, Tryz.results17, go_sem, z9, z8, z7, z6, z5, z4]) rfl ⟨_, _, _, _, _, _, rfl, ⟨⟨e1, e2⟩, e3, e4⟩, p3⟩
end Go.Proofs.YtapdhadpdbmkcaaGreatDoor.Mo
