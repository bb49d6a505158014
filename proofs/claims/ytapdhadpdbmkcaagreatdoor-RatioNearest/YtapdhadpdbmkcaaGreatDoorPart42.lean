import Derived.Test.YtapdhadpdbmkcaaGreatDoorPart39
import Derived.Test.YtapdhadpdbmkcaaGreatDoorPart33

namespace Go.Proofs.YtapdhadpdbmkcaaGreatDoor.Mo
open Go.RowKit Fu Tn Go.Lib Dc Wt

/-- A whole number, as a fraction. -/
def UW (gz : Bool) (N : Int) (t : Value) (x : World) : Prop := ∃ (a : Option Addr × Option Addr) (l c : Nat × Nat), t = .agg #[.bool gz, .slice a.1 l.1 c.1, .slice a.2 l.2 c.2] ∧ (Nn x a.1 l.1 c.1 N ∧ Nn x a.2 l.2 c.2 1)
theorem UW.grow {gz : Bool} {N : Int} {t : Value} {x x' : World} (h : UW gz N t x) (b : Below x.heap.size x x') : UW gz N t x' := by
 obtain ⟨a, l, c, e, h⟩ := h
 exact ⟨a, l, c, e, h.1.grow b, h.2.grow b⟩
theorem OfWhole_n (g : Bool) {a : Option Addr} {l c : Nat} {N : Int} {w : World} (h : Nn w a l c N) :
  Calls Tryz.prog 48 #[.bool g, .agg #[.slice a l c]] w fun e w' => ∃ (p : Option Addr × Option Addr) (q s : Nat × Nat), e = .returned (.agg #[.bool (g && !decide (N = 0)), .slice p.1 q.1 s.1, .slice p.2 q.2 s.2]) ∧ (Nn w' p.1 q.1 s.1 N ∧ Nn w' p.2 q.2 s.2 1) ∧ Below w.heap.size w w' := by
 obtain ⟨xs, r, n, rfl⟩ := h
 refine (OfWhole_any g _ xs w r n).mono ?_
 rintro e w' ⟨r2, ys, rfl, k1, k2, k3, k4, b⟩
 obtain ⟨a', l', c', rfl⟩ := k2.shape
 exact ⟨(a, a'), (l, l'), (c, c'), rfl, ⟨⟨xs, k1, n, rfl⟩, ⟨ys, k2, k3, k4⟩⟩, b⟩
structure FLlow (W x : World) (gz : Bool) (V0 : Value) (V1 : Value) (V2 : Value) (V4 : Value) (V5 : Value) (V6 : Value) (V7 : Value) (N3 : Int) (y0 y1 y2 y3 y4 y5 y6 y7 : Bool) (t28 t29 t30 t31 t32 t33 t34 t35 : Value) : Prop where
 bel : Below W.heap.size W x
 o0 : y0 = true → t28 = V0
 o1 : y1 = true → t29 = V1
 o2 : y2 = true → t30 = V2
 o4 : y4 = true → t32 = V4
 o5 : y5 = true → t33 = V5
 o6 : y6 = true → t34 = V6
 o7 : y7 = true → t35 = V7
 o3 : y3 = true → UW gz N3 t31 x
theorem FLlow.grow {W x x' : World} {gz : Bool} {V0 : Value} {V1 : Value} {V2 : Value} {V4 : Value} {V5 : Value} {V6 : Value} {V7 : Value} {N3 : Int} {y0 y1 y2 y3 y4 y5 y6 y7 : Bool} {t28 t29 t30 t31 t32 t33 t34 t35 : Value} (h : FLlow W x gz V0 V1 V2 V4 V5 V6 V7 N3 y0 y1 y2 y3 y4 y5 y6 y7 t28 t29 t30 t31 t32 t33 t34 t35) (b : Below x.heap.size x x') : FLlow W x' gz V0 V1 V2 V4 V5 V6 V7 N3 y0 y1 y2 y3 y4 y5 y6 y7 t28 t29 t30 t31 t32 t33 t34 t35 where
 bel := bel' h.bel b
 o0 := h.o0
 o1 := h.o1
 o2 := h.o2
 o4 := h.o4
 o5 := h.o5
 o6 := h.o6
 o7 := h.o7
 o3 := fun u => (h.o3 u).grow b
set_option maxHeartbeats 6400000 in
set_option maxRecDepth 100000 in
theorem Floor_low (U V : Wl) (A B Z Y : Int) (gz : Bool) (m : Nat) (w : World) (h1 : Nn w U.a U.l U.c A) (h2 : Nn w V.a V.l V.c B) (hA : A < pw m) (_hB : B < pw m) (B0 : 0 < B) (hm : m ≤ 900000) (m1 : 1 ≤ m) (hz : A / B = Z) (hy : A % B = Y) (hg : (false && !decide (Z = 0)) = gz) :
  Calls Tryz.prog 17 #[.agg #[.bool false, .slice U.a U.l U.c, .slice V.a V.l V.c]] w fun e w' => ∃ (xa : Option Addr × Option Addr) (xl xc : Nat × Nat) (ya : Option Addr) (yl yc : Nat), e = .returned (.tuple #[.agg #[.bool gz, .slice xa.1 xl.1 xc.1, .slice xa.2 xl.2 xc.2], .agg #[.bool false, .slice ya yl yc, .slice V.a V.l V.c]]) ∧ ((Nn w' xa.1 xl.1 xc.1 Z ∧ Nn w' xa.2 xl.2 xc.2 1) ∧ Nn w' ya yl yc Y ∧ Nn w' V.a V.l V.c B) ∧ Below w.heap.size w w' := by
 have KF := ((Rb.new w (.bool false) (.slice U.a U.l U.c) (.slice V.a V.l V.c) 44).alloc (.cells #[.bool false, .slice none 0 0, .slice none 0 0] 44)).alloc (.cells #[.bool false, .slice none 0 0, .slice none 0 0] 44)
 have KR := (Rb.new (w.alloc (.cells #[.bool false, .slice U.a U.l U.c, .slice V.a V.l V.c] 44)) (.bool false) (.slice none 0 0) (.slice none 0 0) 44).alloc (.cells #[.bool false, .slice none 0 0, .slice none 0 0] 44)
 have KT := Rb.new ((w.alloc (.cells #[.bool false, .slice U.a U.l U.c, .slice V.a V.l V.c] 44)).alloc (.cells #[.bool false, .slice none 0 0, .slice none 0 0] 44)) (.bool false) (.slice none 0 0) (.slice none 0 0) 44
 have pr : Below w.heap.size w (((w.alloc (.cells #[.bool false, .slice U.a U.l U.c, .slice V.a V.l V.c] 44)).alloc (.cells #[.bool false, .slice none 0 0, .slice none 0 0] 44)).alloc (.cells #[.bool false, .slice none 0 0, .slice none 0 0] 44)) := (((Below.refl _ _).alloc (Nat.le_refl _) _).alloc (by simp) _).alloc (by simp; omega) _
 simp only [World.size_alloc] at KR KT
 have A0 := h1.nonneg
 have OW : ∀ y (a : Option Addr) (l c : Nat), Nn y a l c Z → Calls Tryz.prog 48 #[.bool false, .agg #[.slice a l c]] y fun e w' => ∃ (p : Option Addr × Option Addr) (q s : Nat × Nat), e = .returned (.agg #[.bool gz, .slice p.1 q.1 s.1, .slice p.2 q.2 s.2]) ∧ (Nn w' p.1 q.1 s.1 Z ∧ Nn w' p.2 q.2 s.2 1) ∧ Below y.heap.size y w' := fun y a l c k => by
  have := OfWhole_n false k
  rw [hg] at this
  exact this
 go_enter Tryz.func17, Tryz.ntmps17
 go_wp2_with fail
 have k1 := KF.c1
 have k2 := KF.c2
 generalize (((w.alloc (.cells #[.bool false, .slice U.a U.l U.c, .slice V.a V.l V.c] 44)).alloc (.cells #[.bool false, .slice none 0 0, .slice none 0 0] 44)).alloc (.cells #[.bool false, .slice none 0 0, .slice none 0 0] 44)) = W at *
 have lt := L.lt_of_cell KT.c0
 have h1 := h1.grow pr
 have h2 := h2.grow pr
 go_wp2_with (first
  | (go_at_call 44; go_must (refine (DivMod_n h1 h2 hA B0 (by omega)).mono ?_; rintro e w1 ⟨da, dl, dc, rfl, ⟨n1, n2⟩, b1⟩; (have ba : Below w1.heap.size w1 ((w1.alloc (.cells #[.slice da.1 dl.1 dc.1] 42)).alloc (.cells #[.slice da.2 dl.2 dc.2] 42)) := ((Below.refl _ _).alloc (Nat.le_refl _) _).alloc (by simp) _); (have KN := (Bx.new w1 (.slice da.1 dl.1 dc.1) 42).alloc (.cells #[.slice da.2 dl.2 dc.2] 42)); (have KS := Bx.new (w1.alloc (.cells #[.slice da.1 dl.1 dc.1] 42)) (.slice da.2 dl.2 dc.2) 42); (have sz : (w1.alloc (.cells #[.slice da.1 dl.1 dc.1] 42)).heap.size = w1.heap.size + 1 := World.size_alloc _ _); (rw [sz] at KS); (have KF1 := (KF.grow b1).grow ba); (have KR1 := (KR.grow b1).grow ba); (have KT1 := (KT.grow b1).grow ba); (have p1 := bel' (bel' pr b1) ba); (have n1 := n1.grow ba); (have n2 := n2.grow ba); (have h2' := (h2.grow b1).grow ba); (have k10 := KF1.c0); (have k12 := KF1.c2); (have kn := KN.1); (have ks := KS.1); (have s1 := b1.size)))
  | fail)
 generalize ((w1.alloc (.cells #[.slice da.1 dl.1 dc.1] 42)).alloc (.cells #[.slice da.2 dl.2 dc.2] 42)) = WD at *
 have KF := KF1
 have KR := KR1
 have KT := KT1
 have nn := n1
 have ny := n2
 have h3 := h2'
 have sD := s1
 rw [hz] at nn
 rw [hy] at ny
 have OW : ∀ y, Below WD.heap.size WD y → Calls Tryz.prog 48 #[.bool false, .agg #[.slice da.1 dl.1 dc.1]] y fun e w' => ∃ (p : Option Addr × Option Addr) (q s : Nat × Nat), e = .returned (.agg #[.bool gz, .slice p.1 q.1 s.1, .slice p.2 q.2 s.2]) ∧ (Nn w' p.1 q.1 s.1 Z ∧ Nn w' p.2 q.2 s.2 1) ∧ Below y.heap.size y w' := fun y b => OW y _ _ _ (nn.grow b)
 have neF : w.heap.size ≠ w.heap.size + 1 := by omega
 have neT : w.heap.size + 1 + 1 ≠ w.heap.size + 1 := by omega
 have neS : w1.heap.size + 1 ≠ w.heap.size + 1 := by omega
 have lw := pr.size
 clear h1 h2 hA _hB B0 hz hy hg n1 n2 k1 k2
 refine Code.wp_mono (Q := fun ex a x => ex = .normal ∧ (fun a x => ∃ t28 t29 t30 t31 t32 t33 t34 t35, a = ⟨#[.agg #[.bool false, .slice U.a U.l U.c, .slice V.a V.l V.c], .pointer (some ⟨w.heap.size, 0, none⟩), .pointer (some ⟨w.heap.size + 1, 0, none⟩), .pointer (some ⟨w.heap.size + 1 + 1, 0, none⟩), .pointer (some ⟨w1.heap.size, 0, none⟩), .pointer (some ⟨w1.heap.size + 1, 0, none⟩), .tuple #[.agg #[.slice da.1 dl.1 dc.1], .agg #[.slice da.2 dl.2 dc.2]], .pointer (some ⟨w.heap.size, 1, none⟩), .agg #[.slice U.a U.l U.c], .pointer (some ⟨w.heap.size, 2, none⟩), .agg #[.slice V.a V.l V.c], .tuple #[.agg #[.slice da.1 dl.1 dc.1], .agg #[.slice da.2 dl.2 dc.2]], .agg #[.slice da.1 dl.1 dc.1], .agg #[.slice da.2 dl.2 dc.2], .pointer (some ⟨w.heap.size, 0, none⟩), .bool false, .bool false, undef, undef, undef, .bool false, undef, undef, undef, undef, undef, undef, undef, t28, t29, t30, t31, t32, t33, t34, t35], []⟩ ∧ (∃ (x0 : World) (xa : Option Addr × Option Addr) (xl xc : Nat × Nat), Below WD.heap.size WD x0 ∧ (Nn x0 xa.1 xl.1 xc.1 Z ∧ Nn x0 xa.2 xl.2 xc.2 1) ∧ x = ((((((x0.setCell ⟨w.heap.size + 1, 0, none⟩ (.bool gz)).setCell ⟨w.heap.size + 1, 1, none⟩ (.slice xa.1 xl.1 xc.1)).setCell ⟨w.heap.size + 1, 2, none⟩ (.slice xa.2 xl.2 xc.2)).setCell ⟨w.heap.size + 1 + 1, 0, none⟩ (.bool false)).setCell ⟨w.heap.size + 1 + 1, 1, none⟩ (.slice da.2 dl.2 dc.2)).setCell ⟨w.heap.size + 1 + 1, 2, none⟩ (.slice V.a V.l V.c)))) a x) ?_ ?_
 rotate_left
 ·refine wp_region_held (S := fun _ => True) (by kernel_rfl) (any_inv (fun listed a x => ∃ (y0 y1 y2 y3 y4 y5 y6 y7 : Bool) (t28 t29 t30 t31 t32 t33 t34 t35 : Value), a = ⟨#[.agg #[.bool false, .slice U.a U.l U.c, .slice V.a V.l V.c], .pointer (some ⟨w.heap.size, 0, none⟩), .pointer (some ⟨w.heap.size + 1, 0, none⟩), .pointer (some ⟨w.heap.size + 1 + 1, 0, none⟩), .pointer (some ⟨w1.heap.size, 0, none⟩), .pointer (some ⟨w1.heap.size + 1, 0, none⟩), .tuple #[.agg #[.slice da.1 dl.1 dc.1], .agg #[.slice da.2 dl.2 dc.2]], .pointer (some ⟨w.heap.size, 1, none⟩), .agg #[.slice U.a U.l U.c], .pointer (some ⟨w.heap.size, 2, none⟩), .agg #[.slice V.a V.l V.c], .tuple #[.agg #[.slice da.1 dl.1 dc.1], .agg #[.slice da.2 dl.2 dc.2]], .agg #[.slice da.1 dl.1 dc.1], .agg #[.slice da.2 dl.2 dc.2], .pointer (some ⟨w.heap.size, 0, none⟩), .bool false, .bool false, undef, undef, undef, .bool false, undef, undef, undef, undef, undef, undef, undef, t28, t29, t30, t31, t32, t33, t34, t35], []⟩ ∧ ((listed = #[y0, y1, y2, y3, y4, y5, y6, y7, false, false] ∧ FLlow WD x gz (.pointer (some ⟨w.heap.size, 0, none⟩)) (.bool false) (.agg #[.slice da.1 dl.1 dc.1]) (.agg #[.slice da.2 dl.2 dc.2]) (.pointer (some ⟨w.heap.size, 2, none⟩)) (.agg #[.slice V.a V.l V.c]) (.agg #[.bool false, .slice da.2 dl.2 dc.2, .slice V.a V.l V.c]) (Z) y0 y1 y2 y3 y4 y5 y6 y7 t28 t29 t30 t31 t32 t33 t34 t35) ∨ (listed = #[true, true, true, true, y4, y5, y6, y7, true, false] ∧ (y4 = true → t32 = .agg #[.slice da.2 dl.2 dc.2]) ∧ (y5 = true → t33 = .pointer (some ⟨w.heap.size, 2, none⟩)) ∧ (y6 = true → t34 = .agg #[.slice V.a V.l V.c]) ∧ (y7 = true → t35 = .agg #[.bool false, .slice da.2 dl.2 dc.2, .slice V.a V.l V.c]) ∧ ∃ (x0 : World) (xa : Option Addr × Option Addr) (xl xc : Nat × Nat), Below WD.heap.size WD x0 ∧ (Nn x0 xa.1 xl.1 xc.1 Z ∧ Nn x0 xa.2 xl.2 xc.2 1) ∧ x = (((x0.setCell ⟨w.heap.size + 1, 0, none⟩ (.bool gz)).setCell ⟨w.heap.size + 1, 1, none⟩ (.slice xa.1 xl.1 xc.1)).setCell ⟨w.heap.size + 1, 2, none⟩ (.slice xa.2 xl.2 xc.2))) ∨ (listed = #[true, true, true, true, true, true, true, true, true, true] ∧ ∃ (x0 : World) (xa : Option Addr × Option Addr) (xl xc : Nat × Nat), Below WD.heap.size WD x0 ∧ (Nn x0 xa.1 xl.1 xc.1 Z ∧ Nn x0 xa.2 xl.2 xc.2 1) ∧ x = ((((((x0.setCell ⟨w.heap.size + 1, 0, none⟩ (.bool gz)).setCell ⟨w.heap.size + 1, 1, none⟩ (.slice xa.1 xl.1 xc.1)).setCell ⟨w.heap.size + 1, 2, none⟩ (.slice xa.2 xl.2 xc.2)).setCell ⟨w.heap.size + 1 + 1, 0, none⟩ (.bool false)).setCell ⟨w.heap.size + 1 + 1, 1, none⟩ (.slice da.2 dl.2 dc.2)).setCell ⟨w.heap.size + 1 + 1, 2, none⟩ (.slice V.a V.l V.c))))) ?_ ?_ _ _ _ _ (by decide) ?_)
  ·rintro listed a x i ⟨y0, y1, y2, y3, y4, y5, y6, y7, t28, t29, t30, t31, t32, t33, t34, t35, rfl, h⟩ hi
   have hr : i < 10 := List.mem_range.1 (List.mem_filter.1 hi).1
   have hc := (List.mem_filter.1 hi).2
   rcases h with ⟨rfl, h⟩ | ⟨rfl, h⟩ | ⟨rfl, h⟩
   ·rcases (show i = 0 ∨ i = 1 ∨ i = 2 ∨ i = 3 ∨ i = 4 ∨ i = 5 ∨ i = 6 ∨ i = 7 ∨ i = 8 ∨ i = 9 by omega) with rfl | rfl | rfl | rfl | rfl | rfl | rfl | rfl | rfl | rfl
    ·clear hc hi
     refine wpOp_step rfl (fun K hK0 => ?_)
     have hK : Hid _ := hK0
     clear hK0
     rw [if_pos (by rfl)]
     go_wp2_with fail
     exact hK.out _ _ ⟨true, y1, y2, y3, y4, y5, y6, y7, .pointer (some ⟨w.heap.size, 0, none⟩), t29, t30, t31, t32, t33, t34, t35, rfl, Or.inl ⟨rfl, { h with o0 := fun _ => rfl }⟩⟩
    ·have e0 : y0 = true := by
      revert hc
      cases y0 <;> simp [Region.binds]
     have r0 := h.o0 e0
     subst r0
     clear hc hi
     have kf0 := (KF.grow h.bel).c0
     refine wpOp_step rfl (fun K hK0 => ?_)
     have hK : Hid _ := hK0
     clear hK0
     rw [if_pos (by rfl)]
     go_wp2_with fail
     exact hK.out _ _ ⟨y0, true, y2, y3, y4, y5, y6, y7, _, .bool false, t30, t31, t32, t33, t34, t35, rfl, Or.inl ⟨rfl, { h with o1 := fun _ => rfl }⟩⟩
    ·clear hc hi
     have kn0 := (KN.below h.bel).1
     refine wpOp_step rfl (fun K hK0 => ?_)
     have hK : Hid _ := hK0
     clear hK0
     rw [if_pos (by rfl)]
     go_wp2_with fail
     exact hK.out _ _ ⟨y0, y1, true, y3, y4, y5, y6, y7, t28, t29, .agg #[.slice da.1 dl.1 dc.1], t31, t32, t33, t34, t35, rfl, Or.inl ⟨rfl, { h with o2 := fun _ => rfl }⟩⟩
    ·have e1 : y1 = true := by
      revert hc
      cases y1 <;> simp [Region.binds]
     have e2 : y2 = true := by
      revert hc
      cases y2 <;> simp [Region.binds]
     have r1 := h.o1 e1
     subst r1
     have r2 := h.o2 e2
     subst r2
     clear hc hi
     refine wpOp_step rfl (fun K hK0 => ?_)
     have hK : Hid _ := hK0
     clear hK0
     rw [if_pos (by rfl)]
     go_wp2_with (first | (go_at_call 48; go_must (refine (OW _ h.bel).mono ?_; rintro e x2 ⟨a9, l9, c9, rfl, H9, bb⟩)) | fail)
     exact hK.out _ _ ⟨y0, y1, y2, true, y4, y5, y6, y7, t28, _, _, _, t32, t33, t34, t35, rfl, Or.inl ⟨rfl, { h.grow bb with o3 := fun _ => ⟨a9, l9, c9, rfl, H9⟩ }⟩⟩
    ·clear hc hi
     have ks0 := (KS.below h.bel).1
     refine wpOp_step rfl (fun K hK0 => ?_)
     have hK : Hid _ := hK0
     clear hK0
     rw [if_pos (by rfl)]
     go_wp2_with fail
     exact hK.out _ _ ⟨y0, y1, y2, y3, true, y5, y6, y7, t28, t29, t30, t31, .agg #[.slice da.2 dl.2 dc.2], t33, t34, t35, rfl, Or.inl ⟨rfl, { h with o4 := fun _ => rfl }⟩⟩
    ·clear hc hi
     refine wpOp_step rfl (fun K hK0 => ?_)
     have hK : Hid _ := hK0
     clear hK0
     rw [if_pos (by rfl)]
     go_wp2_with fail
     exact hK.out _ _ ⟨y0, y1, y2, y3, y4, true, y6, y7, t28, t29, t30, t31, t32, .pointer (some ⟨w.heap.size, 2, none⟩), t34, t35, rfl, Or.inl ⟨rfl, { h with o5 := fun _ => rfl }⟩⟩
    ·have e5 : y5 = true := by
      revert hc
      cases y5 <;> simp [Region.binds]
     have r5 := h.o5 e5
     subst r5
     clear hc hi
     have kf2 := (KF.grow h.bel).c2
     refine wpOp_step rfl (fun K hK0 => ?_)
     have hK : Hid _ := hK0
     clear hK0
     rw [if_pos (by rfl)]
     go_wp2_with fail
     exact hK.out _ _ ⟨y0, y1, y2, y3, y4, y5, true, y7, t28, t29, t30, t31, t32, _, .agg #[.slice V.a V.l V.c], t35, rfl, Or.inl ⟨rfl, { h with o6 := fun _ => rfl }⟩⟩
    ·have e4 : y4 = true := by
      revert hc
      cases y4 <;> simp [Region.binds]
     have e6 : y6 = true := by
      revert hc
      cases y6 <;> simp [Region.binds]
     have r4 := h.o4 e4
     subst r4
     have r6 := h.o6 e6
     subst r6
     clear hc hi
     refine wpOp_step rfl (fun K hK0 => ?_)
     have hK : Hid _ := hK0
     clear hK0
     rw [if_pos (by rfl)]
     go_wp2_with fail
     exact hK.out _ _ ⟨y0, y1, y2, y3, y4, y5, y6, true, t28, t29, t30, t31, _, t33, _, .agg #[.bool false, .slice da.2 dl.2 dc.2, .slice V.a V.l V.c], rfl, Or.inl ⟨rfl, { h with o7 := fun _ => rfl }⟩⟩
    ·have e0 : y0 = true := by
      revert hc
      cases y0 <;> simp [Region.binds]
     have e1 : y1 = true := by
      revert hc
      cases y1 <;> simp [Region.binds]
     have e2 : y2 = true := by
      revert hc
      cases y2 <;> simp [Region.binds]
     have e3 : y3 = true := by
      revert hc
      cases y3 <;> simp [Region.binds]
     obtain ⟨a3, l3, c3, rfl, H3⟩ := h.o3 e3
     have hl4 := h.o4
     have hl5 := h.o5
     have hl6 := h.o6
     have hl7 := h.o7
     clear hc hi
     subst e0 e1 e2 e3
     have bl := h.bel
     have kr0 := (KR.grow bl).c0
     have kr1 := (KR.grow bl).c1
     have kr2 := (KR.grow bl).c2
     have kr3 := (KR.grow bl).f0
     have kr4 := (KR.grow bl).f1
     have kr5 := (KR.grow bl).f2
     clear h
     refine wpOp_step rfl (fun K hK0 => ?_)
     have hK : Hid _ := hK0
     clear hK0
     rw [if_pos (by rfl)]
     go_wp2_with fail
     exact hK.out _ _ ⟨true, true, true, true, y4, y5, y6, y7, t28, t29, t30, _, t32, t33, t34, t35, rfl, Or.inr (Or.inl ⟨rfl, hl4, hl5, hl6, hl7, x, a3, l3, c3, bl, H3, rfl⟩)⟩
    ·simp [Region.binds] at hc
   ·rcases (show i = 0 ∨ i = 1 ∨ i = 2 ∨ i = 3 ∨ i = 4 ∨ i = 5 ∨ i = 6 ∨ i = 7 ∨ i = 8 ∨ i = 9 by omega) with rfl | rfl | rfl | rfl | rfl | rfl | rfl | rfl | rfl | rfl
    ·simp at hc
    ·simp at hc
    ·simp at hc
    ·simp at hc
    ·clear hc hi
     obtain ⟨hl4, h⟩ := h
     obtain ⟨hl5, h⟩ := h
     obtain ⟨hl6, h⟩ := h
     obtain ⟨hl7, h⟩ := h
     obtain ⟨x0, xa, xl, xc, bl, HH, rfl⟩ := h
     have ks9 := ((KS.below bl).wr (wr3 x0 (w.heap.size + 1) (.bool gz) (.slice xa.1 xl.1 xc.1) (.slice xa.2 xl.2 xc.2)) neS).1
     have kq0 := ((KF.grow bl).skip3 neF (.bool gz) (.slice xa.1 xl.1 xc.1) (.slice xa.2 xl.2 xc.2)).c0
     have kq1 := ((KF.grow bl).skip3 neF (.bool gz) (.slice xa.1 xl.1 xc.1) (.slice xa.2 xl.2 xc.2)).c1
     have kq2 := ((KF.grow bl).skip3 neF (.bool gz) (.slice xa.1 xl.1 xc.1) (.slice xa.2 xl.2 xc.2)).c2
     refine wpOp_step rfl (fun K hK0 => ?_)
     have hK : Hid _ := hK0
     clear hK0
     rw [if_pos (by rfl)]
     go_wp2_with fail
     exact hK.out _ _ ⟨true, true, true, true, true, y5, y6, y7, _, _, _, _, _, _, _, _, rfl, Or.inr (Or.inl ⟨rfl, fun _ => rfl, hl5, hl6, hl7, x0, xa, xl, xc, bl, HH, rfl⟩)⟩
    ·clear hc hi
     obtain ⟨hl4, h⟩ := h
     obtain ⟨hl5, h⟩ := h
     obtain ⟨hl6, h⟩ := h
     obtain ⟨hl7, h⟩ := h
     obtain ⟨x0, xa, xl, xc, bl, HH, rfl⟩ := h
     have ks9 := ((KS.below bl).wr (wr3 x0 (w.heap.size + 1) (.bool gz) (.slice xa.1 xl.1 xc.1) (.slice xa.2 xl.2 xc.2)) neS).1
     have kq0 := ((KF.grow bl).skip3 neF (.bool gz) (.slice xa.1 xl.1 xc.1) (.slice xa.2 xl.2 xc.2)).c0
     have kq1 := ((KF.grow bl).skip3 neF (.bool gz) (.slice xa.1 xl.1 xc.1) (.slice xa.2 xl.2 xc.2)).c1
     have kq2 := ((KF.grow bl).skip3 neF (.bool gz) (.slice xa.1 xl.1 xc.1) (.slice xa.2 xl.2 xc.2)).c2
     refine wpOp_step rfl (fun K hK0 => ?_)
     have hK : Hid _ := hK0
     clear hK0
     rw [if_pos (by rfl)]
     go_wp2_with fail
     exact hK.out _ _ ⟨true, true, true, true, y4, true, y6, y7, _, _, _, _, _, _, _, _, rfl, Or.inr (Or.inl ⟨rfl, hl4, fun _ => rfl, hl6, hl7, x0, xa, xl, xc, bl, HH, rfl⟩)⟩
    ·have e5 : y5 = true := by
      revert hc
      cases y5 <;> simp [Region.binds]
     clear hc hi
     obtain ⟨hl4, h⟩ := h
     obtain ⟨hl5, h⟩ := h
     obtain ⟨hl6, h⟩ := h
     obtain ⟨hl7, h⟩ := h
     have r5 := hl5 e5
     subst r5
     obtain ⟨x0, xa, xl, xc, bl, HH, rfl⟩ := h
     have ks9 := ((KS.below bl).wr (wr3 x0 (w.heap.size + 1) (.bool gz) (.slice xa.1 xl.1 xc.1) (.slice xa.2 xl.2 xc.2)) neS).1
     have kq0 := ((KF.grow bl).skip3 neF (.bool gz) (.slice xa.1 xl.1 xc.1) (.slice xa.2 xl.2 xc.2)).c0
     have kq1 := ((KF.grow bl).skip3 neF (.bool gz) (.slice xa.1 xl.1 xc.1) (.slice xa.2 xl.2 xc.2)).c1
     have kq2 := ((KF.grow bl).skip3 neF (.bool gz) (.slice xa.1 xl.1 xc.1) (.slice xa.2 xl.2 xc.2)).c2
     refine wpOp_step rfl (fun K hK0 => ?_)
     have hK : Hid _ := hK0
     clear hK0
     rw [if_pos (by rfl)]
     go_wp2_with fail
     exact hK.out _ _ ⟨true, true, true, true, y4, y5, true, y7, _, _, _, _, _, _, _, _, rfl, Or.inr (Or.inl ⟨rfl, hl4, fun _ => rfl, fun _ => rfl, hl7, x0, xa, xl, xc, bl, HH, rfl⟩)⟩
    ·have e4 : y4 = true := by
      revert hc
      cases y4 <;> simp [Region.binds]
     have e6 : y6 = true := by
      revert hc
      cases y6 <;> simp [Region.binds]
     clear hc hi
     obtain ⟨hl4, h⟩ := h
     obtain ⟨hl5, h⟩ := h
     obtain ⟨hl6, h⟩ := h
     obtain ⟨hl7, h⟩ := h
     have r4 := hl4 e4
     subst r4
     have r6 := hl6 e6
     subst r6
     obtain ⟨x0, xa, xl, xc, bl, HH, rfl⟩ := h
     have ks9 := ((KS.below bl).wr (wr3 x0 (w.heap.size + 1) (.bool gz) (.slice xa.1 xl.1 xc.1) (.slice xa.2 xl.2 xc.2)) neS).1
     have kq0 := ((KF.grow bl).skip3 neF (.bool gz) (.slice xa.1 xl.1 xc.1) (.slice xa.2 xl.2 xc.2)).c0
     have kq1 := ((KF.grow bl).skip3 neF (.bool gz) (.slice xa.1 xl.1 xc.1) (.slice xa.2 xl.2 xc.2)).c1
     have kq2 := ((KF.grow bl).skip3 neF (.bool gz) (.slice xa.1 xl.1 xc.1) (.slice xa.2 xl.2 xc.2)).c2
     refine wpOp_step rfl (fun K hK0 => ?_)
     have hK : Hid _ := hK0
     clear hK0
     rw [if_pos (by rfl)]
     go_wp2_with fail
     exact hK.out _ _ ⟨true, true, true, true, y4, y5, y6, true, _, _, _, _, _, _, _, _, rfl, Or.inr (Or.inl ⟨rfl, fun _ => rfl, hl5, fun _ => rfl, fun _ => rfl, x0, xa, xl, xc, bl, HH, rfl⟩)⟩
    ·simp at hc
    ·have e4 : y4 = true := by
      revert hc
      cases y4 <;> simp [Region.binds]
     have e5 : y5 = true := by
      revert hc
      cases y5 <;> simp [Region.binds]
     have e6 : y6 = true := by
      revert hc
      cases y6 <;> simp [Region.binds]
     have e7 : y7 = true := by
      revert hc
      cases y7 <;> simp [Region.binds]
     obtain ⟨hl4, h⟩ := h
     obtain ⟨hl5, h⟩ := h
     obtain ⟨hl6, h⟩ := h
     obtain ⟨hl7, h⟩ := h
     have r4 := hl4 e4
     have r5 := hl5 e5
     have r6 := hl6 e6
     have r7 := hl7 e7
     clear hl4
     clear hl5
     clear hl6
     clear hl7
     subst e4 r4
     subst e5 r5
     subst e6 r6
     subst e7 r7
     clear hc hi
     obtain ⟨x0, xa, xl, xc, bl, HH, rfl⟩ := h
     have kt0 := ((KT.grow bl).skip3 neT (.bool gz) (.slice xa.1 xl.1 xc.1) (.slice xa.2 xl.2 xc.2)).c0
     have kt1 := ((KT.grow bl).skip3 neT (.bool gz) (.slice xa.1 xl.1 xc.1) (.slice xa.2 xl.2 xc.2)).c1
     have kt2 := ((KT.grow bl).skip3 neT (.bool gz) (.slice xa.1 xl.1 xc.1) (.slice xa.2 xl.2 xc.2)).c2
     have kt3 := ((KT.grow bl).skip3 neT (.bool gz) (.slice xa.1 xl.1 xc.1) (.slice xa.2 xl.2 xc.2)).f0
     have kt4 := ((KT.grow bl).skip3 neT (.bool gz) (.slice xa.1 xl.1 xc.1) (.slice xa.2 xl.2 xc.2)).f1
     have kt5 := ((KT.grow bl).skip3 neT (.bool gz) (.slice xa.1 xl.1 xc.1) (.slice xa.2 xl.2 xc.2)).f2
     refine wpOp_step rfl (fun K hK0 => ?_)
     have hK : Hid _ := hK0
     clear hK0
     rw [if_pos (by rfl)]
     go_wp2_with fail
     exact hK.out _ _ ⟨true, true, true, true, true, true, true, true, _, _, _, _, _, _, _, _, rfl, Or.inr (Or.inr (⟨rfl, x0, xa, xl, xc, bl, HH, rfl⟩))⟩
   ·rcases (show i = 0 ∨ i = 1 ∨ i = 2 ∨ i = 3 ∨ i = 4 ∨ i = 5 ∨ i = 6 ∨ i = 7 ∨ i = 8 ∨ i = 9 by omega) with rfl | rfl | rfl | rfl | rfl | rfl | rfl | rfl | rfl | rfl <;> simp at hc
  ·rintro listed a x ⟨y0, y1, y2, y3, y4, y5, y6, y7, t28, t29, t30, t31, t32, t33, t34, t35, rfl, h⟩ hn
   have al := all_listed2 (by decide +kernel) hn
   rcases h with ⟨rfl, h⟩ | ⟨rfl, h⟩ | ⟨rfl, h⟩
   ·have z := al 8 (by decide)
    simp at z
   ·have z := al 9 (by decide)
    simp at z
   ·obtain ⟨x0, xa, xl, xc, bl, HH, rfl⟩ := h
    refine ⟨rfl, ?_⟩
    exact ⟨_, _, _, _, _, _, _, _, rfl, x0, xa, xl, xc, bl, HH, rfl⟩
  ·exact ⟨false, false, false, false, false, false, false, false, undef, undef, undef, undef, undef, undef, undef, undef, rfl, Or.inl ⟨rfl, { bel := (Below.refl _ _).drew, o0 := (by intro q; cases q), o1 := (by intro q; cases q), o2 := (by intro q; cases q), o3 := (by intro q; cases q), o4 := (by intro q; cases q), o5 := (by intro q; cases q), o6 := (by intro q; cases q), o7 := (by intro q; cases q) }⟩⟩
 ·rintro _ a x ⟨rfl, t28, t29, t30, t31, t32, t33, t34, t35, rfl, x0, xa, xl, xc, bl, HH, rfl⟩
  have KR3 := KR.grow bl
  have KT3 := (KT.grow bl).skip3 neT (.bool gz) (.slice xa.1 xl.1 xc.1) (.slice xa.2 xl.2 xc.2)
  have RS := KR3.sets (.bool gz) (.slice xa.1 xl.1 xc.1) (.slice xa.2 xl.2 xc.2)
  have p3 := bset3 (n := w.heap.size + 1 + 1) (x := .bool false) (y := .slice da.2 dl.2 dc.2) (z := .slice V.a V.l V.c) (bset3 (n := w.heap.size + 1) (x := .bool gz) (y := .slice xa.1 xl.1 xc.1) (z := .slice xa.2 xl.2 xc.2) (bel' p1 bl) (by omega)) (by omega)
  have e1 := (HH.1.putF (x := .bool gz) (y := .slice xa.1 xl.1 xc.1) (z := .slice xa.2 xl.2 xc.2) KR3).putF (x := .bool false) (y := .slice da.2 dl.2 dc.2) (z := .slice V.a V.l V.c) KT3
  have e2 := (HH.2.putF (x := .bool gz) (y := .slice xa.1 xl.1 xc.1) (z := .slice xa.2 xl.2 xc.2) KR3).putF (x := .bool false) (y := .slice da.2 dl.2 dc.2) (z := .slice V.a V.l V.c) KT3
  have e3 := ((ny.grow bl).putF (x := .bool gz) (y := .slice xa.1 xl.1 xc.1) (z := .slice xa.2 xl.2 xc.2) KR3).putF (x := .bool false) (y := .slice da.2 dl.2 dc.2) (z := .slice V.a V.l V.c) KT3
  have e4 := ((h3.grow bl).putF (x := .bool gz) (y := .slice xa.1 xl.1 xc.1) (z := .slice xa.2 xl.2 xc.2) KR3).putF (x := .bool false) (y := .slice da.2 dl.2 dc.2) (z := .slice V.a V.l V.c) KT3
  have R9 := RS.skip3 (Ne.symm neT) (.bool false) (.slice da.2 dl.2 dc.2) (.slice V.a V.l V.c)
  have T9 := KT3.sets (.bool false) (.slice da.2 dl.2 dc.2) (.slice V.a V.l V.c)
  have z9 := R9.c0
  have z8 := R9.c1
  have z7 := R9.c2
  have z6 := T9.c0
  have z5 := T9.c1
  have z4 := T9.c2
  go_wp2
  exact bodyPost_ret (v := .tuple #[.agg #[.bool gz, .slice xa.1 xl.1 xc.1, .slice xa.2 xl.2 xc.2], .agg #[.bool false, .slice da.2 dl.2 dc.2, .slice V.a V.l V.c]]) (by simp [results, Tryz.results17, go_sem, z9, z8, z7, z6, z5, z4]) rfl ⟨_, _, _, _, _, _, rfl, ⟨⟨e1, e2⟩, e3, e4⟩, p3⟩
end Go.Proofs.YtapdhadpdbmkcaaGreatDoor.Mo
