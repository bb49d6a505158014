import Derived.Test.YtmopfnhjooopkaaGreatDoorPart39
import Derived.Test.YtmopfnhjooopkaaGreatDoorPart06
import Derived.Test.YtmopfnhjooopkaaGreatDoorPart37
import Derived.Test.YtmopfnhjooopkaaGreatDoorPart10
import Derived.Test.YtmopfnhjooopkaaGreatDoorPart11
import Derived.Test.YtmopfnhjooopkaaGreatDoorPart24
import Derived.Deep.RegionHeld3

namespace Go.Proofs.YtmopfnhjooopkaaGreatDoor.Mo
open Go.RowKit Tn Ip

/-- A fraction that a slot holds, by pairs. -/
def FV (r : Rat) (_ : Int) (t : Value) (x : World) : Prop := ∃ (a : Bool × Option Addr × Option Addr) (l c : Nat × Nat), t = .agg #[.bool a.1, .slice a.2.1 l.1 c.1, .slice a.2.2 l.2 c.2] ∧ PF x (.agg #[.bool a.1, .slice a.2.1 l.1 c.1, .slice a.2.2 l.2 c.2]) r
theorem FV.grow {r : Rat} {n : Int} {t : Value} {x x' : World} (h : FV r n t x) (b : Below x.heap.size x x') : FV r n t x' := by
  obtain ⟨a, l, c, e, h⟩ := h
  exact ⟨a, l, c, e, h.grow b⟩
/-- A fraction is answered, by pairs. -/
def FP (r : Rat) (x : World) (e : Ending) (w' : World) : Prop := ∃ (a : Bool × Option Addr × Option Addr) (l c : Nat × Nat), e = .returned (.agg #[.bool a.1, .slice a.2.1 l.1 c.1, .slice a.2.2 l.2 c.2]) ∧ PF w' (.agg #[.bool a.1, .slice a.2.1 l.1 c.1, .slice a.2.2 l.2 c.2]) r ∧ Below x.heap.size x w'
theorem fp_of {r : Rat} {x w' : World} {e : Ending} (h : Fa r x e w') : FP r x e w' := by
  obtain ⟨g, a, l, c, a', l', c', h1, h2, h3⟩ := h
  exact ⟨(g, a, a'), (l, l'), (c, c'), h1, h2, h3⟩
structure VR4 (W x : World) (T : Rat) (U : Rat) (R : Rat) (V0 V1 V2 V3 V4 V5 V7 V8 V9 V10 V11 V12 V13 V14 V15 V16 : Value) (N6 N17 N18 : Int) (y0 y1 y2 y3 y4 y5 y6 y7 y8 y9 y10 y11 y12 y13 y14 y15 y16 y17 y18 : Bool) (t15 t16 t17 t18 t19 t20 t21 t22 t23 t24 t25 t26 t27 t28 t29 t30 t31 t32 t33 : Value) : Prop where
  bel : Below W.heap.size W x
  o0 : y0 = true → t15 = V0
  o1 : y1 = true → t16 = V1
  o2 : y2 = true → t17 = V2
  o3 : y3 = true → t18 = V3
  o4 : y4 = true → t19 = V4
  o5 : y5 = true → t20 = V5
  o7 : y7 = true → t22 = V7
  o8 : y8 = true → t23 = V8
  o9 : y9 = true → t24 = V9
  o10 : y10 = true → t25 = V10
  o11 : y11 = true → t26 = V11
  o12 : y12 = true → t27 = V12
  o13 : y13 = true → t28 = V13
  o14 : y14 = true → t29 = V14
  o15 : y15 = true → t30 = V15
  o16 : y16 = true → t31 = V16
  o6 : y6 = true → FV T N6 t21 x
  o17 : y17 = true → FV U N17 t32 x
  o18 : y18 = true → FV R N18 t33 x
theorem VR4.grow {W x x' : World} {T : Rat} {U : Rat} {R : Rat} {V0 V1 V2 V3 V4 V5 V7 V8 V9 V10 V11 V12 V13 V14 V15 V16 : Value} {N6 N17 N18 : Int} {y0 y1 y2 y3 y4 y5 y6 y7 y8 y9 y10 y11 y12 y13 y14 y15 y16 y17 y18 : Bool} {t15 t16 t17 t18 t19 t20 t21 t22 t23 t24 t25 t26 t27 t28 t29 t30 t31 t32 t33 : Value} (h : VR4 W x T U R V0 V1 V2 V3 V4 V5 V7 V8 V9 V10 V11 V12 V13 V14 V15 V16 N6 N17 N18 y0 y1 y2 y3 y4 y5 y6 y7 y8 y9 y10 y11 y12 y13 y14 y15 y16 y17 y18 t15 t16 t17 t18 t19 t20 t21 t22 t23 t24 t25 t26 t27 t28 t29 t30 t31 t32 t33) (b : Below x.heap.size x x') : VR4 W x' T U R V0 V1 V2 V3 V4 V5 V7 V8 V9 V10 V11 V12 V13 V14 V15 V16 N6 N17 N18 y0 y1 y2 y3 y4 y5 y6 y7 y8 y9 y10 y11 y12 y13 y14 y15 y16 y17 y18 t15 t16 t17 t18 t19 t20 t21 t22 t23 t24 t25 t26 t27 t28 t29 t30 t31 t32 t33 where
  bel := bel' h.bel b
  o0 := h.o0
  o1 := h.o1
  o2 := h.o2
  o3 := h.o3
  o4 := h.o4
  o5 := h.o5
  o7 := h.o7
  o8 := h.o8
  o9 := h.o9
  o10 := h.o10
  o11 := h.o11
  o12 := h.o12
  o13 := h.o13
  o14 := h.o14
  o15 := h.o15
  o16 := h.o16
  o6 := fun u => (h.o6 u).grow b
  o17 := fun u => (h.o17 u).grow b
  o18 := fun u => (h.o18 u).grow b
set_option maxRecDepth 100000 in
set_option maxHeartbeats 6400000 in
theorem value_0 (g : Nat) (v : Value) (w : World) (hv : ∃ a l c a' l' c', v = .agg #[.bool false, .slice a l c, .slice a' l' c']) (OI : ∀ x, Calls Tryz.prog 29 #[.int .i64 0] x (Fa ((0 : Int) : Rat) x)) :
    Calls Tryz.prog 181 #[.slice (some ⟨g, 0, none⟩) 0 0, v, .int .i64 0] w (Fa ((0 : Int) : Rat) w) := by
  obtain ⟨P1, M1, C1, P2, M2, C2, rfl⟩ := hv
  have KR := Rb.new (w.alloc (.cells #[.bool false, .slice P1 M1 C1, .slice P2 M2 C2] 57)) (.bool false) (.slice none 0 0) (.slice none 0 0) 57
  have pr : Below w.heap.size w ((w.alloc (.cells #[.bool false, .slice P1 M1 C1, .slice P2 M2 C2] 57)).alloc (.cells #[.bool false, .slice none 0 0, .slice none 0 0] 57)) := ((Below.refl _ _).alloc (Nat.le_refl _) _).alloc (by simp) _
  simp only [World.size_alloc] at KR
  go_enter Tryz.func181, Tryz.ntmps181
  go_wp2_with (first
    | (go_at_call 29; (refine (OI _).mono ?_); (rintro e w1 ⟨g1, a1, l1, c1, a1', l1', c1', rfl, t1, b1⟩); (have p1 := bel' pr b1); (have R := KR.grow b1); (have q0 := R.c0); (have q1 := R.c1); (have q2 := R.c2); (have y0 := R.f0); (have y1 := R.f1); (have y2 := R.f2))
    | fail)
  obtain ⟨F0, F1, F2⟩ := R.put (.bool g1) (.slice a1 l1 c1) (.slice a1' l1' c1')
  exact bodyPost_ret (v := .agg #[.bool g1, .slice a1 l1 c1, .slice a1' l1' c1']) (by simp [results, Tryz.results181, go_sem, F0, F1, F2]) rfl ⟨g1, a1, l1, c1, a1', l1', c1', rfl, t1.putF R, bset3 p1 (by omega)⟩
set_option maxRecDepth 100000 in
set_option maxHeartbeats 60000000 in
theorem value_1 (g M N : Nat) (P1 : Option Addr) (M1 C1 : Nat) (P2 : Option Addr) (M2 C2 : Nat) (A D Tl E : Int) (T U R : Rat) (w : World) (hM : M + 1 = N) (hN : N ≤ 130)
    (x8 : w.cell? ⟨g, M * 4, none⟩ = some (.int .i64 Tl)) (hE : IntKind.i64.wrap (0 - Tl) = E)
    (WO : ∀ x, Below w.heap.size w x → Calls Tryz.prog 205 #[.slice (some ⟨g, 0, none⟩) N N, .agg #[.bool false, .slice P1 M1 C1, .slice P2 M2 C2]] x fun e w' => ∃ a l c a' l' c', e = .returned (.agg #[.bool false, .slice a l c, .slice a' l' c']) ∧ Nn w' a l c A ∧ Nn w' a' l' c' D ∧ Below x.heap.size x w')
    (LO : ∀ x a l c a' l' c', Nn x a l c A → Nn x a' l' c' D → Calls Tryz.prog 173 #[.bool false, .agg #[.slice a l c], .agg #[.slice a' l' c']] x (Fa T x))
    (PO : ∀ x, Below w.heap.size w x → Calls Tryz.prog 38 #[.agg #[.bool false, .slice P1 M1 C1, .slice P2 M2 C2], .int .i64 E] x (Fa U x))
    (TI : ∀ x v1 v2, PF x v1 T → PF x v2 U → Calls Tryz.prog 30 #[v1, v2] x (Fa R x)) :
    Calls Tryz.prog 181 #[.slice (some ⟨g, 0, none⟩) N N, .agg #[.bool false, .slice P1 M1 C1, .slice P2 M2 C2], .int .i64 0] w (Fa R w) := by
  have lg0 : g < w.heap.size := L.lt_of_cell x8
  have KG := (Rb.new w (.bool false) (.slice P1 M1 C1) (.slice P2 M2 C2) 57).alloc (.cells #[.bool false, .slice none 0 0, .slice none 0 0] 57)
  have KR := Rb.new (w.alloc (.cells #[.bool false, .slice P1 M1 C1, .slice P2 M2 C2] 57)) (.bool false) (.slice none 0 0) (.slice none 0 0) 57
  have pr : Below w.heap.size w ((w.alloc (.cells #[.bool false, .slice P1 M1 C1, .slice P2 M2 C2] 57)).alloc (.cells #[.bool false, .slice none 0 0, .slice none 0 0] 57)) := ((Below.refl _ _).alloc (Nat.le_refl _) _).alloc (by simp) _
  simp only [World.size_alloc] at KR
  have u0 := KG.c0
  have u1 := KG.c1
  have u2 := KG.c2
  have hne : ((N : Int) == 0) = false := beq_eq_false_iff_ne.2 (by omega)
  go_enter Tryz.func181, Tryz.ntmps181
  go_wp2_with (first
    | (go_at_call 205; (refine (WO _ pr).mono ?_); (rintro e w1 ⟨fa, fl, fc, ha, hl, hd, rfl, n1, n2, b1⟩); (have al1 := (Below.refl w1.heap.size w1).alloc (Nat.le_refl _) (.cells #[.bool false, .slice fa fl fc, .slice ha hl hd] 57)); (have KF := Rb.new w1 (.bool false) (.slice fa fl fc) (.slice ha hl hd) 57); (have d1 := bel' b1 al1); (have p1 := bel' pr d1); (have KG1 := KG.grow d1); (have KR1 := KR.grow d1); (have m1 := n1.grow al1); (have m2 := n2.grow al1); (have lF : w.heap.size + 1 < w1.heap.size := by have := b1.size; simp at this; omega))
    | fail)
  generalize w1.alloc (.cells #[.bool false, .slice fa fl fc, .slice ha hl hd] 57) = V at *
  generalize w1.heap.size = F at *
  have x9 := (p1.cell (p := ⟨g, M * 4, none⟩) lg0).trans x8
  have lg : g < V.heap.size := L.lt_of_cell x9
  have e1 : F ≠ w.heap.size + 1 := by omega
  have e2 : w.heap.size + 1 ≠ F := by omega
  have e3 : g ≠ w.heap.size + 1 := by omega
  have e4 : w.heap.size + 1 ≠ g := by omega
  have z1 : IntKind.i64.wrap ((N : Int) - 1) = (M : Int) := by rw [show (N : Int) - 1 = (M : Int) by omega]; exact wrapIc _ (by omega) (by omega)
  have j1 : (0 : Int) ≤ (M : Int) := by omega
  have j2 : ((M : Int)).toNat = M := by omega
  have j3 : (M : Int) < (N : Int) := by omega
  have v0 := KF.c0
  have v1 := KF.c1
  have v2 := KF.c2
  have v3 := KG1.c0
  have v4 := KG1.c1
  have v5 := KG1.c2
  have hE3 := hE
  simp at hE3
  have LO1 : ∀ x, Below V.heap.size V x → Calls Tryz.prog 173 #[.bool false, .agg #[.slice fa fl fc], .agg #[.slice ha hl hd]] x (FP T x) := fun x b => (LO x _ _ _ _ _ _ (m1.grow b) (m2.grow b)).mono fun e w' h => fp_of h
  have PO1 : ∀ x, Below V.heap.size V x → Calls Tryz.prog 38 #[.agg #[.bool false, .slice P1 M1 C1, .slice P2 M2 C2], .int .i64 E] x (FP U x) := fun x b => (PO x (bel' p1 b)).mono fun e w' h => fp_of h
  have TI1 : ∀ x v1 v2, PF x v1 T → PF x v2 U → Calls Tryz.prog 30 #[v1, v2] x (FP R x) := fun x v1 v2 h1 h2 => (TI x v1 v2 h1 h2).mono fun e w' h => fp_of h
  clear WO PO LO TI u0 u1 u2 KG KR pr n1 n2 b1 d1 al1 x8 lg0 lF hN hM hne m1 m2 v0 v1 v2 v3 v4 v5
  refine Code.wp_mono (Q := fun ex a x => ex = .normal ∧ (fun a x => ∃ t15 t16 t17 t18 t19 t20 t21 t22 t23 t24 t25 t26 t27 t28 t29 t30 t31 t32 t33, a = ⟨#[.slice (some ⟨g, 0, none⟩) N N, .agg #[.bool false, .slice P1 M1 C1, .slice P2 M2 C2], .int .i64 0, undef, .pointer (some ⟨w.heap.size, 0, none⟩), undef, .pointer (some ⟨w.heap.size + 1, 0, none⟩), .pointer (some ⟨F, 0, none⟩), .slice (some ⟨g, 0, none⟩) N N, .int .i64 (N : Int), .bool false, undef, .slice (some ⟨g, 0, none⟩) N N, .agg #[.bool false, .slice P1 M1 C1, .slice P2 M2 C2], .agg #[.bool false, .slice fa fl fc, .slice ha hl hd], t15, t16, t17, t18, t19, t20, t21, t22, t23, t24, t25, t26, t27, t28, t29, t30, t31, t32, t33], []⟩ ∧ (∃ (a9 : Bool × Option Addr × Option Addr) (l9 c9 : Nat × Nat) (x0 : World), Below V.heap.size V x0 ∧ PF x0 (.agg #[.bool a9.1, .slice a9.2.1 l9.1 c9.1, .slice a9.2.2 l9.2 c9.2]) R ∧ x = ((x0.setCell ⟨w.heap.size + 1, 0, none⟩ (.bool a9.1)).setCell ⟨w.heap.size + 1, 1, none⟩ (.slice a9.2.1 l9.1 c9.1)).setCell ⟨w.heap.size + 1, 2, none⟩ (.slice a9.2.2 l9.2 c9.2))) a x) ?_ ?_
  rotate_left
  · refine wp_region_held (S := fun _ => True) (by kernel_rfl) (any_inv (fun listed a x => ∃ (y0 y1 y2 y3 y4 y5 y6 y7 y8 y9 y10 y11 y12 y13 y14 y15 y16 y17 y18 : Bool) (t15 t16 t17 t18 t19 t20 t21 t22 t23 t24 t25 t26 t27 t28 t29 t30 t31 t32 t33 : Value), a = ⟨#[.slice (some ⟨g, 0, none⟩) N N, .agg #[.bool false, .slice P1 M1 C1, .slice P2 M2 C2], .int .i64 0, undef, .pointer (some ⟨w.heap.size, 0, none⟩), undef, .pointer (some ⟨w.heap.size + 1, 0, none⟩), .pointer (some ⟨F, 0, none⟩), .slice (some ⟨g, 0, none⟩) N N, .int .i64 (N : Int), .bool false, undef, .slice (some ⟨g, 0, none⟩) N N, .agg #[.bool false, .slice P1 M1 C1, .slice P2 M2 C2], .agg #[.bool false, .slice fa fl fc, .slice ha hl hd], t15, t16, t17, t18, t19, t20, t21, t22, t23, t24, t25, t26, t27, t28, t29, t30, t31, t32, t33], []⟩ ∧ ((listed = #[y0, y1, y2, y3, y4, y5, y6, y7, y8, y9, y10, y11, y12, y13, y14, y15, y16, y17, y18, false] ∧ VR4 V x T U R (.pointer (some ⟨F, 0, none⟩)) (.bool false) (.pointer (some ⟨F, 1, none⟩)) (.agg #[.slice fa fl fc]) (.pointer (some ⟨F, 2, none⟩)) (.agg #[.slice ha hl hd]) (.agg #[.bool false, .slice P1 M1 C1, .slice P2 M2 C2]) (.int .i64 0) (.slice (some ⟨g, 0, none⟩) N N) (.slice (some ⟨g, 0, none⟩) N N) (.int .i64 (N : Int)) (.int .i64 (M : Int)) (.pointer (some ⟨g, M * 4, none⟩)) (.pointer (some ⟨g, M * 4, none⟩)) (.int .i64 Tl) (.int .i64 E) (0) (0) (0) y0 y1 y2 y3 y4 y5 y6 y7 y8 y9 y10 y11 y12 y13 y14 y15 y16 y17 y18 t15 t16 t17 t18 t19 t20 t21 t22 t23 t24 t25 t26 t27 t28 t29 t30 t31 t32 t33) ∨ (listed = #[true, true, true, true, true, true, true, true, true, true, true, true, true, true, true, true, true, true, true, true] ∧ ∃ (a9 : Bool × Option Addr × Option Addr) (l9 c9 : Nat × Nat) (x0 : World), Below V.heap.size V x0 ∧ PF x0 (.agg #[.bool a9.1, .slice a9.2.1 l9.1 c9.1, .slice a9.2.2 l9.2 c9.2]) R ∧ x = ((x0.setCell ⟨w.heap.size + 1, 0, none⟩ (.bool a9.1)).setCell ⟨w.heap.size + 1, 1, none⟩ (.slice a9.2.1 l9.1 c9.1)).setCell ⟨w.heap.size + 1, 2, none⟩ (.slice a9.2.2 l9.2 c9.2)))) ?_ ?_ _ _ _ _ (by decide) ?_)
    · rintro listed a x i ⟨y0, y1, y2, y3, y4, y5, y6, y7, y8, y9, y10, y11, y12, y13, y14, y15, y16, y17, y18, t15, t16, t17, t18, t19, t20, t21, t22, t23, t24, t25, t26, t27, t28, t29, t30, t31, t32, t33, rfl, h⟩ hi
      have hr : i < 20 := List.mem_range.1 (List.mem_filter.1 hi).1
      have hc := (List.mem_filter.1 hi).2
      rcases h with ⟨rfl, h⟩ | ⟨rfl, h⟩
      · rcases (show i = 0 ∨ i = 1 ∨ i = 2 ∨ i = 3 ∨ i = 4 ∨ i = 5 ∨ i = 6 ∨ i = 7 ∨ i = 8 ∨ i = 9 ∨ i = 10 ∨ i = 11 ∨ i = 12 ∨ i = 13 ∨ i = 14 ∨ i = 15 ∨ i = 16 ∨ i = 17 ∨ i = 18 ∨ i = 19 by omega) with rfl | rfl | rfl | rfl | rfl | rfl | rfl | rfl | rfl | rfl | rfl | rfl | rfl | rfl | rfl | rfl | rfl | rfl | rfl | rfl
        · clear hc hi
          refine wpOp_go rfl rfl (fun K hK => ?_)
          go_wp2_with fail
          exact hK.out _ _ ⟨true,_,_,_,_,_,_,_,_,_,_,_,_,_,_,_,_,_,_,.pointer (some ⟨F, 0, none⟩),_,_,_,_,_,_,_,_,_,_,_,_,_,_,_,_,_,_,rfl,Or.inl ⟨rfl, { h with o0 := fun _ => rfl }⟩⟩
        · have e0 : y0 = true := by revert hc; cases y0 <;> simp [Region.binds]
          have r0 := h.o0 e0; subst r0
          clear hc hi
          have kd := (KF.grow h.bel).c0
          refine wpOp_go rfl rfl (fun K hK => ?_)
          go_wp2_with fail
          exact hK.out _ _ ⟨_,true,_,_,_,_,_,_,_,_,_,_,_,_,_,_,_,_,_,_,.bool false,_,_,_,_,_,_,_,_,_,_,_,_,_,_,_,_,_,rfl,Or.inl ⟨rfl, { h with o1 := fun _ => rfl }⟩⟩
        · clear hc hi
          refine wpOp_go rfl rfl (fun K hK => ?_)
          go_wp2_with fail
          exact hK.out _ _ ⟨_,_,true,_,_,_,_,_,_,_,_,_,_,_,_,_,_,_,_,_,_,.pointer (some ⟨F, 1, none⟩),_,_,_,_,_,_,_,_,_,_,_,_,_,_,_,_,rfl,Or.inl ⟨rfl, { h with o2 := fun _ => rfl }⟩⟩
        · have e2 : y2 = true := by revert hc; cases y2 <;> simp [Region.binds]
          have r2 := h.o2 e2; subst r2
          clear hc hi
          have kd := (KF.grow h.bel).c1
          refine wpOp_go rfl rfl (fun K hK => ?_)
          go_wp2_with fail
          exact hK.out _ _ ⟨_,_,_,true,_,_,_,_,_,_,_,_,_,_,_,_,_,_,_,_,_,_,.agg #[.slice fa fl fc],_,_,_,_,_,_,_,_,_,_,_,_,_,_,_,rfl,Or.inl ⟨rfl, { h with o3 := fun _ => rfl }⟩⟩
        · clear hc hi
          refine wpOp_go rfl rfl (fun K hK => ?_)
          go_wp2_with fail
          exact hK.out _ _ ⟨_,_,_,_,true,_,_,_,_,_,_,_,_,_,_,_,_,_,_,_,_,_,_,.pointer (some ⟨F, 2, none⟩),_,_,_,_,_,_,_,_,_,_,_,_,_,_,rfl,Or.inl ⟨rfl, { h with o4 := fun _ => rfl }⟩⟩
        · have e4 : y4 = true := by revert hc; cases y4 <;> simp [Region.binds]
          have r4 := h.o4 e4; subst r4
          clear hc hi
          have kd := (KF.grow h.bel).c2
          refine wpOp_go rfl rfl (fun K hK => ?_)
          go_wp2_with fail
          exact hK.out _ _ ⟨_,_,_,_,_,true,_,_,_,_,_,_,_,_,_,_,_,_,_,_,_,_,_,_,.agg #[.slice ha hl hd],_,_,_,_,_,_,_,_,_,_,_,_,_,rfl,Or.inl ⟨rfl, { h with o5 := fun _ => rfl }⟩⟩
        · have e1 : y1 = true := by revert hc; cases y1 <;> simp [Region.binds]
          have e3 : y3 = true := by revert hc; cases y3 <;> simp [Region.binds]
          have e5 : y5 = true := by revert hc; cases y5 <;> simp [Region.binds]
          have r1 := h.o1 e1; subst r1
          have r3 := h.o3 e3; subst r3
          have r5 := h.o5 e5; subst r5
          clear hc hi
          refine wpOp_go rfl rfl (fun K hK => ?_)
          go_wp2_with (first | (go_at_call 173; go_must (refine (LO1 x h.bel).mono ?_; rintro e x2 ⟨a9, l9, c9, rfl, H9, bb⟩)) | fail)
          exact hK.out _ _ ⟨_,_,_,_,_,_,true,_,_,_,_,_,_,_,_,_,_,_,_,_,_,_,_,_,_,_,_,_,_,_,_,_,_,_,_,_,_,_,rfl,Or.inl ⟨rfl, { h.grow bb with o6 := fun _ => ⟨a9, l9, c9, rfl, H9⟩ }⟩⟩
        · clear hc hi
          have k9 := KG1.grow h.bel
          have kd0 := k9.c0
          have kd1 := k9.c1
          have kd2 := k9.c2
          refine wpOp_go rfl rfl (fun K hK => ?_)
          go_wp2_with fail
          exact hK.out _ _ ⟨_,_,_,_,_,_,_,true,_,_,_,_,_,_,_,_,_,_,_,_,_,_,_,_,_,_,.agg #[.bool false, .slice P1 M1 C1, .slice P2 M2 C2],_,_,_,_,_,_,_,_,_,_,_,rfl,Or.inl ⟨rfl, { h with o7 := fun _ => rfl }⟩⟩
        · clear hc hi
          refine wpOp_go rfl rfl (fun K hK => ?_)
          go_wp2_with fail
          exact hK.out _ _ ⟨_,_,_,_,_,_,_,_,true,_,_,_,_,_,_,_,_,_,_,_,_,_,_,_,_,_,_,.int .i64 0,_,_,_,_,_,_,_,_,_,_,rfl,Or.inl ⟨rfl, { h with o8 := fun _ => rfl }⟩⟩
        · clear hc hi
          refine wpOp_go rfl rfl (fun K hK => ?_)
          go_wp2_with fail
          exact hK.out _ _ ⟨_,_,_,_,_,_,_,_,_,true,_,_,_,_,_,_,_,_,_,_,_,_,_,_,_,_,_,_,.slice (some ⟨g, 0, none⟩) N N,_,_,_,_,_,_,_,_,_,rfl,Or.inl ⟨rfl, { h with o9 := fun _ => rfl }⟩⟩
        · clear hc hi
          refine wpOp_go rfl rfl (fun K hK => ?_)
          go_wp2_with fail
          exact hK.out _ _ ⟨_,_,_,_,_,_,_,_,_,_,true,_,_,_,_,_,_,_,_,_,_,_,_,_,_,_,_,_,_,.slice (some ⟨g, 0, none⟩) N N,_,_,_,_,_,_,_,_,rfl,Or.inl ⟨rfl, { h with o10 := fun _ => rfl }⟩⟩
        · have e10 : y10 = true := by revert hc; cases y10 <;> simp [Region.binds]
          have r10 := h.o10 e10; subst r10
          clear hc hi
          refine wpOp_go rfl rfl (fun K hK => ?_)
          go_wp2_with fail
          exact hK.out _ _ ⟨_,_,_,_,_,_,_,_,_,_,_,true,_,_,_,_,_,_,_,_,_,_,_,_,_,_,_,_,_,_,.int .i64 (N : Int),_,_,_,_,_,_,_,rfl,Or.inl ⟨rfl, { h with o11 := fun _ => rfl }⟩⟩
        · have e11 : y11 = true := by revert hc; cases y11 <;> simp [Region.binds]
          have r11 := h.o11 e11; subst r11
          clear hc hi
          refine wpOp_go rfl rfl (fun K hK => ?_)
          go_wp2_with fail
          exact hK.out _ _ ⟨_,_,_,_,_,_,_,_,_,_,_,_,true,_,_,_,_,_,_,_,_,_,_,_,_,_,_,_,_,_,_,.int .i64 (M : Int),_,_,_,_,_,_,rfl,Or.inl ⟨rfl, { h with o12 := fun _ => rfl }⟩⟩
        · have e9 : y9 = true := by revert hc; cases y9 <;> simp [Region.binds]
          have e12 : y12 = true := by revert hc; cases y12 <;> simp [Region.binds]
          have r9 := h.o9 e9; subst r9
          have r12 := h.o12 e12; subst r12
          clear hc hi
          refine wpOp_go rfl rfl (fun K hK => ?_)
          go_wp2_with fail
          exact hK.out _ _ ⟨_,_,_,_,_,_,_,_,_,_,_,_,_,true,_,_,_,_,_,_,_,_,_,_,_,_,_,_,_,_,_,_,.pointer (some ⟨g, M * 4, none⟩),_,_,_,_,_,rfl,Or.inl ⟨rfl, { h with o13 := fun _ => rfl }⟩⟩
        · have e13 : y13 = true := by revert hc; cases y13 <;> simp [Region.binds]
          have r13 := h.o13 e13; subst r13
          clear hc hi
          refine wpOp_go rfl rfl (fun K hK => ?_)
          go_wp2_with fail
          exact hK.out _ _ ⟨_,_,_,_,_,_,_,_,_,_,_,_,_,_,true,_,_,_,_,_,_,_,_,_,_,_,_,_,_,_,_,_,_,.pointer (some ⟨g, M * 4, none⟩),_,_,_,_,rfl,Or.inl ⟨rfl, { h with o14 := fun _ => rfl }⟩⟩
        · have e14 : y14 = true := by revert hc; cases y14 <;> simp [Region.binds]
          have r14 := h.o14 e14; subst r14
          clear hc hi
          have kd := (h.bel.cell (p := ⟨g, M * 4, none⟩) lg).trans x9
          refine wpOp_go rfl rfl (fun K hK => ?_)
          go_wp2_with fail
          exact hK.out _ _ ⟨_,_,_,_,_,_,_,_,_,_,_,_,_,_,_,true,_,_,_,_,_,_,_,_,_,_,_,_,_,_,_,_,_,_,.int .i64 Tl,_,_,_,rfl,Or.inl ⟨rfl, { h with o15 := fun _ => rfl }⟩⟩
        · have e8 : y8 = true := by revert hc; cases y8 <;> simp [Region.binds]
          have e15 : y15 = true := by revert hc; cases y15 <;> simp [Region.binds]
          have r8 := h.o8 e8; subst r8
          have r15 := h.o15 e15; subst r15
          clear hc hi
          refine wpOp_go rfl rfl (fun K hK => ?_)
          go_wp2_with fail
          exact hK.out _ _ ⟨_,_,_,_,_,_,_,_,_,_,_,_,_,_,_,_,true,_,_,_,_,_,_,_,_,_,_,_,_,_,_,_,_,_,_,.int .i64 E,_,_,rfl,Or.inl ⟨rfl, { h with o16 := fun _ => rfl }⟩⟩
        · have e7 : y7 = true := by revert hc; cases y7 <;> simp [Region.binds]
          have e16 : y16 = true := by revert hc; cases y16 <;> simp [Region.binds]
          have r7 := h.o7 e7; subst r7
          have r16 := h.o16 e16; subst r16
          clear hc hi
          refine wpOp_go rfl rfl (fun K hK => ?_)
          go_wp2_with (first | (go_at_call 38; go_must (refine (PO1 x h.bel).mono ?_; rintro e x2 ⟨a9, l9, c9, rfl, H9, bb⟩)) | fail)
          exact hK.out _ _ ⟨_,_,_,_,_,_,_,_,_,_,_,_,_,_,_,_,_,true,_,_,_,_,_,_,_,_,_,_,_,_,_,_,_,_,_,_,_,_,rfl,Or.inl ⟨rfl, { h.grow bb with o17 := fun _ => ⟨a9, l9, c9, rfl, H9⟩ }⟩⟩
        · have e6 : y6 = true := by revert hc; cases y6 <;> simp [Region.binds]
          have e17 : y17 = true := by revert hc; cases y17 <;> simp [Region.binds]
          obtain ⟨a6, l6, c6, rfl, H6⟩ := h.o6 e6
          obtain ⟨a17, l17, c17, rfl, H17⟩ := h.o17 e17
          clear hc hi
          refine wpOp_go rfl rfl (fun K hK => ?_)
          go_wp2_with (first | (go_at_call 30; go_must (refine (TI1 x _ _ H6 H17).mono ?_; rintro e x2 ⟨a9, l9, c9, rfl, H9, bb⟩)) | fail)
          exact hK.out _ _ ⟨_,_,_,_,_,_,_,_,_,_,_,_,_,_,_,_,_,_,true,_,_,_,_,_,_,_,_,_,_,_,_,_,_,_,_,_,_,_,rfl,Or.inl ⟨rfl, { h.grow bb with o18 := fun _ => ⟨a9, l9, c9, rfl, H9⟩ }⟩⟩
        · have e0 : y0 = true := by revert hc; cases y0 <;> simp [Region.binds]
          have e1 : y1 = true := by revert hc; cases y1 <;> simp [Region.binds]
          have e2 : y2 = true := by revert hc; cases y2 <;> simp [Region.binds]
          have e3 : y3 = true := by revert hc; cases y3 <;> simp [Region.binds]
          have e4 : y4 = true := by revert hc; cases y4 <;> simp [Region.binds]
          have e5 : y5 = true := by revert hc; cases y5 <;> simp [Region.binds]
          have e6 : y6 = true := by revert hc; cases y6 <;> simp [Region.binds]
          have e7 : y7 = true := by revert hc; cases y7 <;> simp [Region.binds]
          have e8 : y8 = true := by revert hc; cases y8 <;> simp [Region.binds]
          have e9 : y9 = true := by revert hc; cases y9 <;> simp [Region.binds]
          have e10 : y10 = true := by revert hc; cases y10 <;> simp [Region.binds]
          have e11 : y11 = true := by revert hc; cases y11 <;> simp [Region.binds]
          have e12 : y12 = true := by revert hc; cases y12 <;> simp [Region.binds]
          have e13 : y13 = true := by revert hc; cases y13 <;> simp [Region.binds]
          have e14 : y14 = true := by revert hc; cases y14 <;> simp [Region.binds]
          have e15 : y15 = true := by revert hc; cases y15 <;> simp [Region.binds]
          have e16 : y16 = true := by revert hc; cases y16 <;> simp [Region.binds]
          have e17 : y17 = true := by revert hc; cases y17 <;> simp [Region.binds]
          have e18 : y18 = true := by revert hc; cases y18 <;> simp [Region.binds]
          obtain ⟨a18, l18, c18, rfl, H18⟩ := h.o18 e18
          clear hc hi
          subst e0 e1 e2 e3 e4 e5 e6 e7 e8 e9 e10 e11 e12 e13 e14 e15 e16 e17 e18
          have bl := h.bel
          have kr := KR1.grow bl
          have kr0 := kr.c0
          have kr1 := kr.c1
          have kr2 := kr.c2
          have kf0 := kr.f0
          have kf1 := kr.f1
          have kf2 := kr.f2
          clear kr h
          refine wpOp_go rfl rfl (fun K hK => ?_)
          go_wp2_with fail
          exact hK.out _ _ ⟨true,true,true,true,true,true,true,true,true,true,true,true,true,true,true,true,true,true,true,_,_,_,_,_,_,_,_,_,_,_,_,_,_,_,_,_,_,_,rfl,Or.inr (⟨rfl, a18, l18, c18, x, bl, H18, rfl⟩)⟩
      · rcases (show i = 0 ∨ i = 1 ∨ i = 2 ∨ i = 3 ∨ i = 4 ∨ i = 5 ∨ i = 6 ∨ i = 7 ∨ i = 8 ∨ i = 9 ∨ i = 10 ∨ i = 11 ∨ i = 12 ∨ i = 13 ∨ i = 14 ∨ i = 15 ∨ i = 16 ∨ i = 17 ∨ i = 18 ∨ i = 19 by omega) with rfl | rfl | rfl | rfl | rfl | rfl | rfl | rfl | rfl | rfl | rfl | rfl | rfl | rfl | rfl | rfl | rfl | rfl | rfl | rfl <;> simp at hc
    · rintro listed a x ⟨y0, y1, y2, y3, y4, y5, y6, y7, y8, y9, y10, y11, y12, y13, y14, y15, y16, y17, y18, t15, t16, t17, t18, t19, t20, t21, t22, t23, t24, t25, t26, t27, t28, t29, t30, t31, t32, t33, rfl, h⟩ hn
      have al := all_listed2 (by decide +kernel) hn
      rcases h with ⟨rfl, h⟩ | ⟨rfl, h⟩
      · have z := al 19 (by decide)
        simp at z
      · obtain ⟨a9, l9, c9, x0, bl, H, rfl⟩ := h
        refine ⟨rfl, ?_⟩
        exact ⟨_, _, _, _, _, _, _, _, _, _, _, _, _, _, _, _, _, _, _, rfl, a9, l9, c9, x0, bl, H, rfl⟩
    · exact ⟨false, false, false, false, false, false, false, false, false, false, false, false, false, false, false, false, false, false, false, undef, undef, undef, undef, undef, undef, undef, undef, undef, undef, undef, undef, undef, undef, undef, undef, undef, undef, undef, rfl, Or.inl ⟨rfl, { bel := (Below.refl _ _).drew, o0 := (by intro q; cases q), o1 := (by intro q; cases q), o2 := (by intro q; cases q), o3 := (by intro q; cases q), o4 := (by intro q; cases q), o5 := (by intro q; cases q), o6 := (by intro q; cases q), o7 := (by intro q; cases q), o8 := (by intro q; cases q), o9 := (by intro q; cases q), o10 := (by intro q; cases q), o11 := (by intro q; cases q), o12 := (by intro q; cases q), o13 := (by intro q; cases q), o14 := (by intro q; cases q), o15 := (by intro q; cases q), o16 := (by intro q; cases q), o17 := (by intro q; cases q), o18 := (by intro q; cases q) }⟩⟩
  rintro _ av x ⟨rfl, t15, t16, t17, t18, t19, t20, t21, t22, t23, t24, t25, t26, t27, t28, t29, t30, t31, t32, t33, rfl, a9, l9, c9, x0, bl, H, rfl⟩
  have kr := KR1.grow bl
  have H9 := H.putF (x := .bool a9.1) (y := .slice a9.2.1 l9.1 c9.1) (z := .slice a9.2.2 l9.2 c9.2) kr
  obtain ⟨z0, z1, z2⟩ := kr.put (.bool a9.1) (.slice a9.2.1 l9.1 c9.1) (.slice a9.2.2 l9.2 c9.2)
  have bE := bset3 (n := w.heap.size + 1) (x := .bool a9.1) (y := .slice a9.2.1 l9.1 c9.1) (z := .slice a9.2.2 l9.2 c9.2) (bel' p1 bl) (by omega)
  clear e1 e2 e3 e4
  go_wp2_with fail
  generalize ((x0.setCell ⟨w.heap.size + 1, 0, none⟩ (.bool a9.1)).setCell ⟨w.heap.size + 1, 1, none⟩ (.slice a9.2.1 l9.1 c9.1)).setCell ⟨w.heap.size + 1, 2, none⟩ (.slice a9.2.2 l9.2 c9.2) = WE at *
  exact bodyPost_ret (v := .agg #[.bool a9.1, .slice a9.2.1 l9.1 c9.1, .slice a9.2.2 l9.2 c9.2]) (by simp [results, Tryz.results181, go_sem, z0, z1, z2]) rfl ⟨_, _, _, _, _, _, _, rfl, H9, bE⟩
end Go.Proofs.YtmopfnhjooopkaaGreatDoor.Mo

namespace Go.Proofs.YtmopfnhjooopkaaGreatDoor.L
open Go.RowKit Tl

/-- What the reference's Pow keeps: out times a to the m is the power. -/
structure Pk (N A O : Int) (m : Nat) : Prop where
  eq : O * A ^ m = N
  alt : (A = 0 ∧ 0 ≤ O ∧ O ≤ 1) ∨ (1 ≤ A ∧ 1 ≤ O)
theorem one_le_pow {A : Int} (h : 1 ≤ A) : ∀ m : Nat, 1 ≤ A ^ m
  | 0 => by simp
  | m + 1 => by
    rw [Int.pow_succ]
    have := one_le_pow h m
    have := Int.mul_le_mul this h (by decide) (by omega)
    omega
theorem le_pow {A : Int} (h : 1 ≤ A) {m : Nat} (hm : 1 ≤ m) : A ≤ A ^ m := by
  obtain ⟨k, rfl⟩ : ∃ k, m = k + 1 := ⟨m - 1, by omega⟩
  rw [Int.pow_succ]
  have := one_le_pow h k
  have := Int.mul_le_mul_of_nonneg_right this (show 0 ≤ A by omega)
  omega
theorem Pk.o {N A O : Int} {m : Nat} (h : Pk N A O m) {B : Int} (b : N < B) (b1 : 1 < B) : O < B := by
  rcases h.alt with ⟨_, _, a⟩ | ⟨a, o⟩
  · omega
  · have := one_le_pow a m
    have := Int.mul_le_mul_of_nonneg_left this (show 0 ≤ O by omega)
    have := h.eq
    omega
theorem Pk.a {N A O : Int} {m : Nat} (h : Pk N A O m) (hm : 1 ≤ m) {B : Int} (b : N < B) (b1 : 1 < B) : A < B := by
  rcases h.alt with ⟨a, _, _⟩ | ⟨a, o⟩
  · omega
  · have p1 := le_pow a hm
    have := Int.mul_le_mul_of_nonneg_right o (show 0 ≤ A ^ m by omega)
    have := h.eq
    omega
theorem Pk.odd {N A O : Int} {m : Nat} (h : Pk N A O (2 * m + 1)) : Pk N A (O * A) (2 * m) := by
  refine ⟨by rw [← h.eq, Int.pow_succ, Int.mul_assoc, Int.mul_comm A], ?_⟩
  rcases h.alt with ⟨a, _, _⟩ | ⟨a, o⟩
  · subst a; exact Or.inl ⟨rfl, by simp, by simp⟩
  · have := Int.mul_le_mul o a (by decide) (by omega)
    exact Or.inr ⟨a, by omega⟩
theorem Pk.sq {N A O : Int} {m : Nat} (h : Pk N A O (2 * m)) : Pk N (A * A) O m := by
  refine ⟨by rw [← h.eq, Int.pow_mul]; congr 2; rw [Int.pow_succ, Int.pow_succ, Int.pow_zero, Int.one_mul], ?_⟩
  rcases h.alt with ⟨a, b⟩ | ⟨a, o⟩
  · subst a; exact Or.inl ⟨rfl, b⟩
  · have := Int.mul_le_mul a a (by decide) (by omega)
    exact Or.inr ⟨by omega, o⟩
theorem len_of {xs : List Int} {n : Nat} (h : Wd xs) (k : Nm xs) (v : val xs < pw n) : xs.length ≤ n := by
  by_cases e : xs = []
  · subst e; simp
  · have := val_low h k e
    by_cases c : xs.length ≤ n
    · exact c
    · have := pw_mono (show n ≤ xs.length - 1 by omega)
      omega
set_option maxRecDepth 100000 in
set_option maxHeartbeats 1600000 in
theorem Pow_any (v : Value) (xs : List Int) (n K : Nat) (w : World) (h : Rd w v xs) (hx : Nm xs) (hn : n < 9223372036854775808) (hp : val xs ^ n < pw K) (hk : 1 < pw K) (hK : K ≤ 274877906944) :
    Calls Tryz.prog 105 #[v, .int .i64 n] w fun e w' => ∃ u zs, e = .returned u ∧ Rd w' u zs ∧ Nm zs ∧ val zs = val xs ^ n ∧ Below w.heap.size w w' := by
  have al := (Below.refl w.heap.size w).alloc (Nat.le_refl _) (.cells #[.int .i64 1] 3)
  have r1 : Rd (w.alloc (.cells #[.int .i64 1] 3)) (.slice (some ⟨w.heap.size, 0, none⟩) 1 1) [1] := rd_one (by simp) (by decide) (by decide)
  have r0 := h.grow al
  have k0 : Pk (val xs ^ n) (val xs) (val [1]) n := ⟨by simp [val], by
    have := val_nonneg h.1
    simp only [val]
    omega⟩
  obtain ⟨N, hN⟩ : ∃ N, val xs ^ n = N := ⟨_, rfl⟩
  rw [hN] at k0 hp
  rw [hN]
  go_enter Tryz.func105, Tryz.ntmps105
  go_wp2_with fail
  generalize w.alloc (.cells #[.int .i64 1] 3) = W at *
  go_loopw [0, 1, 5] (fun a i o wr => ∃ (m : Nat) (A O : List Int), i = .int .i64 m ∧ m ≤ n ∧ Rd wr a A ∧ Nm A ∧ Rd wr o O ∧ Nm O ∧ Pk N (val A) (val O) m ∧ Below w.heap.size w wr) (fun _ i _ _ => (RowKit.intOf i).toNat)
  case atStart => exact ⟨n, xs, [1], rfl, Nat.le_refl _, r0, hx, r1, nm_one, k0, al⟩
  case round =>
    clear r0 r1 k0 al h hx
    obtain ⟨m, A, O, rfl, hm, rA, nA, rO, nO, pk, b⟩ := hrel
    by_cases z : m = 0
    · subst z
      have e := pk.eq
      rw [Int.pow_zero, Int.mul_one] at e
      clear hp hk hn hN
      go_wp2
      go_ret
      exact ⟨_, O, rfl, rO, nO, e, b⟩
    · have z' : (m : Int) > 0 := by omega
      have lA := len_of rA.1 nA (pk.a (by omega) hp hk)
      have lO := len_of rO.1 nO (pk.o hp hk)
      obtain ⟨j, hj⟩ : ∃ j, m / 2 = j := ⟨_, rfl⟩
      have MA := fun (x : World) (b : Below wr.heap.size wr x) => Mul_any _ _ A A x (rA.grow b) (rA.grow b) (by omega) (by omega)
      have MO := Mul_any _ _ O A wr rO rA (by omega) (by omega)
      have q1 : (m : Int) / 2 = (j : Int) := by omega
      have q2 : Int.tdiv (m : Int) 2 = (j : Int) := by rw [Int.tdiv_eq_ediv_of_nonneg (by omega)]; exact q1
      have q3 : IntKind.i64.wrap (j : Int) = (j : Int) := Wt.wrapI _ (by omega) (by omega)
      have HB : Hid (j < m) := by show j < m; omega
      clear hp hk hK hN lA lO
      by_cases od : m % 2 = 1
      · have o1 : (m : Int) % 2 = 1 := by omega
        have o2 : Int.tmod (m : Int) 2 = 1 := by rw [Int.tmod_eq_emod_of_nonneg (by omega)]; exact o1
        have pk2 : Pk N (val A) (val O * val A) (2 * j) := Pk.odd (by rw [show 2 * j + 1 = m by omega]; exact pk)
        clear pk
        by_cases j0 : j = 0
        · subst j0
          clear MA hj od q1 o1
          go_wp2_with (first
            | (go_at_call 68; (with_reducible refine MO.mono ?_); rintro _ w2 ⟨o2, O2, rfl, rO2, nO2, vO2, b2⟩)
            | fail)
          exact ⟨⟨0, A, O2, rfl, Nat.zero_le _, rA.grow b2, nA, rO2, nO2, by rw [vO2]; exact pk2, bel b b2⟩, by simp [RowKit.intOf]; exact HB.out⟩
        · have j1 : (j : Int) > 0 := by omega
          have hjn : Hid (j ≤ n) := by show j ≤ n; omega
          clear hj od q1 o1 j0
          go_wp2_with (first
            | (go_at_call 68; (with_reducible refine MO.mono ?_); rintro _ w2 ⟨o2, O2, rfl, rO2, nO2, vO2, b2⟩; (have MA2 := MA _ b2))
            | (go_at_call 68; (with_reducible refine MA2.mono ?_); rintro _ w3 ⟨a2, A2, rfl, rA2, nA2, vA2, b3⟩)
            | fail)
          exact ⟨⟨j, A2, O2, rfl, hjn.out, rA2, nA2, rO2.grow b3, nO2, by rw [vO2, vA2]; exact pk2.sq, bel (bel b b2) b3⟩, by simp [RowKit.intOf]; exact HB.out⟩
      · have o1 : (m : Int) % 2 = 0 := by omega
        have o2 : Int.tmod (m : Int) 2 = 0 := by rw [Int.tmod_eq_emod_of_nonneg (by omega)]; exact o1
        have pk2 : Pk N (val A) (val O) (2 * j) := by rw [show 2 * j = m by omega]; exact pk
        have j1 : (j : Int) > 0 := by omega
        have hjn : Hid (j ≤ n) := by show j ≤ n; omega
        have MA2 := MA wr (Below.refl _ _)
        clear pk hj od q1 o1 MO MA
        go_wp2_with (first
          | (go_at_call 68; (with_reducible refine MA2.mono ?_); rintro _ w3 ⟨a2, A2, rfl, rA2, nA2, vA2, b3⟩)
          | fail)
        exact ⟨⟨j, A2, O, rfl, hjn.out, rA2, nA2, rO.grow b3, nO, by rw [vA2]; exact pk2.sq, bel b b3⟩, by simp [RowKit.intOf]; exact HB.out⟩
end Go.Proofs.YtmopfnhjooopkaaGreatDoor.L

namespace Go.Proofs.YtmopfnhjooopkaaGreatDoor.Mo
open Go.RowKit Ip

/-- The slice is the whole number N of the reference's. -/
def Nl (x : World) (a : Option Addr) (l c : Nat) (N : Int) : Prop := ∃ xs : List Int, L.Rd x (.slice a l c) xs ∧ Tl.Nm xs ∧ Tl.val xs = N
theorem Nl.grow {x x' : World} {a : Option Addr} {l c : Nat} {N : Int} (h : Nl x a l c N) (b : Below x.heap.size x x') : Nl x' a l c N := by
  obtain ⟨xs, r, n, v⟩ := h
  exact ⟨xs, r.grow b, n, v⟩
theorem Nl.putF {w : World} {n : Nat} {a : Option Addr} {l c : Nat} {N : Int} {x y z : Value} {g : Bool} {a1 a2 : Option Addr} {n1 c1 n2 c2 : Nat} (h : Nl w a l c N) (R : Rb w n (.bool g) (.slice a1 n1 c1) (.slice a2 n2 c2)) : Nl (((w.setCell ⟨n, 0, none⟩ x).setCell ⟨n, 1, none⟩ y).setCell ⟨n, 2, none⟩ z) a l c N := by
  obtain ⟨t, K⟩ := R.bk
  obtain ⟨xs, r, n, v⟩ := h
  exact ⟨xs, r.putQ K, n, v⟩
theorem isq_nl {x : World} {r : Rat} {a a' : Option Addr} {l c l' c' : Nat} (h1 : Nl x a l c (r.num.natAbs : Int)) (h2 : Nl x a' l' c' (r.den : Int)) : L.IsQ x (.agg #[.bool (decide (r.num < 0)), .slice a l c, .slice a' l' c']) r := by
  obtain ⟨xs, r1, n1, v1⟩ := h1
  obtain ⟨ys, r2, n2, v2⟩ := h2
  have e1 : l = xs.length := by obtain ⟨_, _, _, e, _⟩ := r1; cases e; rfl
  have e2 : l' = ys.length := by obtain ⟨_, _, _, e, _⟩ := r2; cases e; rfl
  subst e1 e2
  exact ⟨xs, ys, a, a', c, c', rfl, r1, n1, v1, r2, n2, v2⟩
theorem nl_isq {x : World} {v : Value} {r : Rat} (h : L.IsQ x v r) : ∃ a l c a' l' c', v = .agg #[.bool (decide (r.num < 0)), .slice a l c, .slice a' l' c'] ∧ Nl x a l c (r.num.natAbs : Int) ∧ Nl x a' l' c' (r.den : Int) ∧ (l = 0 ↔ r.num = 0) := by
  obtain ⟨ns, ds, a1, a2, c1, c2, e, h1, n1, v1, h2, n2, v2⟩ := h
  refine ⟨a1, _, c1, a2, _, c2, e, ⟨ns, h1, n1, v1⟩, ⟨ds, h2, n2, v2⟩, ?_⟩
  constructor
  · intro z
    have : ns = [] := List.length_eq_zero_iff.1 z
    subst this
    simp [Tl.val] at v1
    omega
  · intro z
    rw [z] at v1
    by_cases e : ns = []
    · subst e; rfl
    · have := Tl.val_low h1.1 n1 e
      have := Tl.pw_pos (ns.length - 1)
      simp at v1
      omega
theorem qput {w : World} {n : Nat} {v : Value} {r : Rat} {x y z : Value} {g : Bool} {a1 a2 : Option Addr} {n1 c1 n2 c2 : Nat} (h : L.IsQ w v r) (R : Rb w n (.bool g) (.slice a1 n1 c1) (.slice a2 n2 c2)) : L.IsQ (((w.setCell ⟨n, 0, none⟩ x).setCell ⟨n, 1, none⟩ y).setCell ⟨n, 2, none⟩ z) v r := by
  obtain ⟨t, K⟩ := R.bk
  obtain ⟨ns, ds, a1, a2, c1, c2, e, h1, m1, v1, h2, m2, v2⟩ := h
  exact ⟨ns, ds, a1, a2, c1, c2, e, h1.putQ K, m1, v1, h2.putQ K, m2, v2⟩
def NLV (N : Int) (t : Value) (x : World) : Prop := ∃ a l c, t = .slice a l c ∧ Nl x a l c N
theorem NLV.grow {x x' : World} {N : Int} {t : Value} (h : NLV N t x) (b : Below x.heap.size x x') : NLV N t x' := by
  obtain ⟨a, l, c, e, h⟩ := h
  exact ⟨a, l, c, e, h.grow b⟩

theorem kc7 {W x : World} {b i : Nat} {v : Value} (d : Below W.heap.size W x) (h : W.cell? ⟨b, i, none⟩ = some v) : x.cell? ⟨b, i, none⟩ = some v := (d.cell (p := ⟨b, i, none⟩) (L.lt_of_cell h)).trans h
theorem qskip {w : World} {n b : Nat} {c : Array Value} {t : TypeId} (h : Blk w n c t) (hb : b ≠ n) (x y z : Value) : Blk (((w.setCell ⟨b, 0, none⟩ x).setCell ⟨b, 1, none⟩ y).setCell ⟨b, 2, none⟩ z) n c t := by
  have h' : w.heap[n]? = some (.cells c t (0, 0)) := h
  show (((w.setCell ⟨b, 0, none⟩ x).setCell ⟨b, 1, none⟩ y).setCell ⟨b, 2, none⟩ z).heap[n]? = _
  simp [World.setCell, Array.getElem?_modify, h', hb]
theorem mul_nl {x : World} {a1 a2 : Option Addr} {l1 c1 l2 c2 : Nat} {A B : Int} {K : Nat} (h1 : Nl x a1 l1 c1 A) (h2 : Nl x a2 l2 c2 B) (hA : A < Tl.pw K) (hB : B < Tl.pw K) (hK : K ≤ 1000000000) : Calls Tryz.prog 68 #[.slice a1 l1 c1, .slice a2 l2 c2] x fun e w' => ∃ a l c, e = .returned (.slice a l c) ∧ Nl w' a l c (A * B) ∧ Below x.heap.size x w' := by
  obtain ⟨xs, r1, n1, rfl⟩ := h1
  obtain ⟨ys, r2, n2, rfl⟩ := h2
  have k1 := L.len_of_lt r1.1 n1 hA
  have k2 := L.len_of_lt r2.1 n2 hB
  refine (L.Mul_any _ _ xs ys x r1 r2 (by omega) (by omega)).mono ?_
  rintro e w' ⟨v, zs, rfl, hr, hn, hv, b⟩
  obtain ⟨a, c, rfl⟩ := L.rd_form hr
  exact ⟨a, _, c, rfl, ⟨zs, hr, hn, hv⟩, b⟩
theorem make_nl {x : World} {a1 a2 : Option Addr} {l1 c1 l2 c2 : Nat} {U V : Int} {K : Nat} (g : Bool) (h1 : Nl x a1 l1 c1 U) (h2 : Nl x a2 l2 c2 V) (hU : U < Tl.pw K) (hV : V < Tl.pw K) (hK : K ≤ 4000000000) (h0 : 0 < V) : Calls Tryz.prog 70 #[.bool g, .slice a1 l1 c1, .slice a2 l2 c2] x (Qf (mkRat (L.sgI g U) V.toNat) x) := by
  obtain ⟨xs, r1, n1, rfl⟩ := h1
  obtain ⟨ys, r2, n2, rfl⟩ := h2
  exact qf_of (L.Make_q g _ _ xs ys K x r1 r2 n1 n2 (L.len_of_lt r1.1 n1 hU) (L.len_of_lt r2.1 n2 hV) (by omega) h0)
theorem cmp_nl {x : World} {a1 a2 : Option Addr} {l1 c1 l2 c2 : Nat} {A B : Int} {K : Nat} (h1 : Nl x a1 l1 c1 A) (h2 : Nl x a2 l2 c2 B) (hA : A < Tl.pw K) (hK : K ≤ 4000000000) : Calls Tryz.prog 101 #[.slice a1 l1 c1, .slice a2 l2 c2] x fun e w' => e = .returned (.int .i64 (L.cmp3 A B)) ∧ Below x.heap.size x w' := by
  obtain ⟨xs, r1, n1, rfl⟩ := h1
  obtain ⟨ys, r2, n2, rfl⟩ := h2
  have k1 := L.len_of_lt r1.1 n1 hA
  exact L.Cmp_any _ _ xs ys x r1 r2 n1 n2 (by omega)
theorem lt_pp {A B : Int} {K : Nat} (a0 : 0 ≤ A) (a1 : A < Tl.pw K) (_b0 : 0 ≤ B) (b1 : B < Tl.pw K) : A * B < Tl.pw (K + K) := by
  rw [Tl.pw_add]
  exact Int.lt_of_le_of_lt (Int.mul_le_mul_of_nonneg_left (Int.le_of_lt b1) a0) (Int.mul_lt_mul_of_pos_right a1 (by omega))
theorem add_nl {x : World} {a1 a2 : Option Addr} {l1 c1 l2 c2 : Nat} {A B : Int} {K : Nat} (h1 : Nl x a1 l1 c1 A) (h2 : Nl x a2 l2 c2 B) (hA : A < Tl.pw K) (hB : B < Tl.pw K) (hK : K ≤ 4000000000) : Calls Tryz.prog 69 #[.slice a1 l1 c1, .slice a2 l2 c2] x fun e w' => ∃ a l c, e = .returned (.slice a l c) ∧ Nl w' a l c (A + B) ∧ Below x.heap.size x w' := by
  obtain ⟨xs, r1, n1, rfl⟩ := h1
  obtain ⟨ys, r2, n2, rfl⟩ := h2
  have k1 := L.len_of_lt r1.1 n1 hA
  have k2 := L.len_of_lt r2.1 n2 hB
  refine (L.Add_any _ _ xs ys x r1 r2 (by omega) (by omega)).mono ?_
  rintro e w' ⟨v, zs, rfl, hr, hn, hv, b⟩
  obtain ⟨a, c, rfl⟩ := L.rd_form hr
  exact ⟨a, _, c, rfl, ⟨zs, hr, hn, hv⟩, b⟩
theorem sub_nl {x : World} {a1 a2 : Option Addr} {l1 c1 l2 c2 : Nat} {A B : Int} {K : Nat} (h1 : Nl x a1 l1 c1 A) (h2 : Nl x a2 l2 c2 B) (hA : A < Tl.pw K) (hK : K ≤ 4000000000) (le : B ≤ A) : Calls Tryz.prog 140 #[.slice a1 l1 c1, .slice a2 l2 c2] x fun e w' => ∃ a l c, e = .returned (.slice a l c) ∧ Nl w' a l c (A - B) ∧ Below x.heap.size x w' := by
  obtain ⟨xs, r1, n1, rfl⟩ := h1
  obtain ⟨ys, r2, n2, rfl⟩ := h2
  have k1 := L.len_of_lt r1.1 n1 hA
  have k2 := L.len_of_lt r2.1 n2 (Int.lt_of_le_of_lt le (Tl.val_lt r1.1))
  refine (L.Sub_any _ _ xs ys x r1 r2 (by omega) k2 le).mono ?_
  rintro e w' ⟨v, zs, rfl, hr, hn, hv, b⟩
  obtain ⟨a, c, rfl⟩ := L.rd_form hr
  exact ⟨a, _, c, rfl, ⟨zs, hr, hn, hv⟩, b⟩
end Go.Proofs.YtmopfnhjooopkaaGreatDoor.Mo
