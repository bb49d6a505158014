import Derived.Test.YtachlkcoghkjnaaTb10
namespace Go.Proofs.Ytachlkcoghkjnaa.Ta
open Go.RowKit Go.Proofs.Ytachlkcoghkjnaa.L Dc
open Go.Proofs.Ytachlkcoghkjnaa.Mo (Ri wrapI)

theorem put5 {w : World} {n : Nat} {a b c d e : Value} {t : TypeId} (h : Blk w n #[a, b, c, d, e] t) (p q r s u : Value) :
    Blk (((((w.setCell ⟨n, 0, none⟩ p).setCell ⟨n, 1, none⟩ q).setCell ⟨n, 2, none⟩ r).setCell ⟨n, 3, none⟩ s).setCell ⟨n, 4, none⟩ u) n #[p, q, r, s, u] t := bput (bput (bput (bput (bput h 0 p) 1 q) 2 r) 3 s) 4 u
theorem set5 {B n : Nat} {w W : World} {p q r s t : Value} (h : Below B w W) (hn : B ≤ n) :
    Below B w (((((W.setCell ⟨n, 0, none⟩ p).setCell ⟨n, 1, none⟩ q).setCell ⟨n, 2, none⟩ r).setCell ⟨n, 3, none⟩ s).setCell ⟨n, 4, none⟩ t) := (set4 h hn).setCell (p := ⟨n, 4, none⟩) hn t
theorem Oi.skip5 {w : World} {g cap n : Nat} {xs : List Int} (h : Oi w g cap xs) (ne : g ≠ n) (p q r s t : Value) :
    Oi (((((w.setCell ⟨n, 0, none⟩ p).setCell ⟨n, 1, none⟩ q).setCell ⟨n, 2, none⟩ r).setCell ⟨n, 3, none⟩ s).setCell ⟨n, 4, none⟩ t) g cap xs := (h.skip4 ne p q r s).skip ne 4 t
theorem Os.skip5 {w : World} {v : Value} {sel : List (List Int)} (h : Os w v sel) {m : Nat} {c : Array Value} {t : TypeId} (k : Blk w m c t) (h1 : t ≠ 22) (h2 : t ≠ 3) (p q r s u : Value) :
    Os (((((w.setCell ⟨m, 0, none⟩ p).setCell ⟨m, 1, none⟩ q).setCell ⟨m, 2, none⟩ r).setCell ⟨m, 3, none⟩ s).setCell ⟨m, 4, none⟩ u) v sel :=
  (h.skip4 k h1 h2 p q r s).skip (bput (bput (bput (bput k 0 p) 1 q) 2 r) 3 s) h1 h2 4 u
/-- A table of rows of its own. -/
def CpT (s : ByteArray) (f : Int) (rs : List Int) (sel : List (List Int)) (_N : Int) (t : Value) (x : World) : Prop := ∃ (a : Option Addr × Nat × Nat) (l c : Nat), t = .agg #[.string s, .int .i64 f, .slice (some ⟨l, 0, none⟩) rs.length c, .slice a.1 a.2.1 a.2.2] ∧ Oi x l c rs ∧ Os x (.slice a.1 a.2.1 a.2.2) sel
theorem CpT.grow {s : ByteArray} {f : Int} {rs : List Int} {sel : List (List Int)} {N : Int} {t : Value} {x x' : World} (h : CpT s f rs sel N t x) (b : Below x.heap.size x x') : CpT s f rs sel N t x' := by
  obtain ⟨a, l, c, e, o, p⟩ := h
  exact ⟨a, l, c, e, o.grow b, p.grow b⟩
def CpB (s : ByteArray) (f : Int) (rs : List Int) (sel : List (List Int)) (r : Int) (_N : Int) (t : Value) (x : World) : Prop := ∃ (a : Option Addr × Nat × Nat) (l c : Nat), t = .agg #[.string s, .int .i64 f, .slice (some ⟨l, 0, none⟩) rs.length c, .slice a.1 a.2.1 a.2.2, .int .i64 r] ∧ Oi x l c rs ∧ Os x (.slice a.1 a.2.1 a.2.2) sel
theorem CpB.grow {s : ByteArray} {f : Int} {rs : List Int} {sel : List (List Int)} {r N : Int} {t : Value} {x x' : World} (h : CpB s f rs sel r N t x) (b : Below x.heap.size x x') : CpB s f rs sel r N t x' := by
  obtain ⟨a, l, c, e, o, p⟩ := h
  exact ⟨a, l, c, e, o.grow b, p.grow b⟩
structure TC3 (W x : World) (s : ByteArray) (f : Int) (rs : List Int) (sel : List (List Int)) (r : Int) (V0 : Value) (V1 : Value) (V3 : Value) (V4 : Value) (N2 : Int) (N5 : Int) (y0 y1 y2 y3 y4 y5 y6 : Bool) (t9 t10 t11 t12 t13 t14 t3 : Value) : Prop where
  bel : Below W.heap.size W x
  o0 : y0 = true → t9 = V0
  o1 : y1 = true → t10 = V1
  o3 : y3 = true → t12 = V3
  o4 : y4 = true → t13 = V4
  o2 : y2 = true → CpT s f rs sel N2 t11 x
  o5 : y5 = true → CpB s f rs sel r N5 t14 x
  o6 : y6 = true → ∃ X, t3 = .pointer (some ⟨X, 0, none⟩) ∧ W.heap.size ≤ X ∧ Blk x X #[.string ⟨#[]⟩, .int .i64 0, .slice none 0 0, .slice none 0 0, .int .i64 0] 27
theorem TC3.grow {W x x' : World} {s : ByteArray} {f : Int} {rs : List Int} {sel : List (List Int)} {r : Int} {V0 : Value} {V1 : Value} {V3 : Value} {V4 : Value} {N2 : Int} {N5 : Int} {y0 y1 y2 y3 y4 y5 y6 : Bool} {t9 t10 t11 t12 t13 t14 t3 : Value} (h : TC3 W x s f rs sel r V0 V1 V3 V4 N2 N5 y0 y1 y2 y3 y4 y5 y6 t9 t10 t11 t12 t13 t14 t3) (b : Below x.heap.size x x') : TC3 W x' s f rs sel r V0 V1 V3 V4 N2 N5 y0 y1 y2 y3 y4 y5 y6 t9 t10 t11 t12 t13 t14 t3 where
  bel := bel' h.bel b
  o0 := h.o0
  o1 := h.o1
  o3 := h.o3
  o4 := h.o4
  o2 := fun u => (h.o2 u).grow b
  o5 := fun u => (h.o5 u).grow b
  o6 := fun u => by obtain ⟨k, e, l, K⟩ := h.o6 u; exact ⟨k, e, l, K.below b K.lt⟩
structure TC6 (W x : World) (V0 : Value) (V1 : Value) (V2 : Value) (V3 : Value) (V4 : Value) (V5 : Value) (V6 : Value) (V7 : Value) (V8 : Value) (V9 : Value) (V10 : Value) (V11 : Value) (V12 : Value) (V13 : Value) (V14 : Value) (V15 : Value) (V16 : Value) (V17 : Value) (V18 : Value) (V19 : Value) (V20 : Value) (V21 : Value) (V22 : Value) (V23 : Value) (y0 y1 y2 y3 y4 y5 y6 y7 y8 y9 y10 y11 y12 y13 y14 y15 y16 y17 y18 y19 y20 y21 y22 y23 : Bool) (t24 t25 t26 t27 t28 t29 t30 t31 t32 t33 t34 t35 t36 t37 t38 t39 t40 t41 t42 t43 t44 t45 t46 t47 : Value) : Prop where
  bel : Below W.heap.size W x
  o0 : y0 = true → t24 = V0
  o1 : y1 = true → t25 = V1
  o2 : y2 = true → t26 = V2
  o3 : y3 = true → t27 = V3
  o4 : y4 = true → t28 = V4
  o5 : y5 = true → t29 = V5
  o6 : y6 = true → t30 = V6
  o7 : y7 = true → t31 = V7
  o8 : y8 = true → t32 = V8
  o9 : y9 = true → t33 = V9
  o10 : y10 = true → t34 = V10
  o11 : y11 = true → t35 = V11
  o12 : y12 = true → t36 = V12
  o13 : y13 = true → t37 = V13
  o14 : y14 = true → t38 = V14
  o15 : y15 = true → t39 = V15
  o16 : y16 = true → t40 = V16
  o17 : y17 = true → t41 = V17
  o18 : y18 = true → t42 = V18
  o19 : y19 = true → t43 = V19
  o20 : y20 = true → t44 = V20
  o21 : y21 = true → t45 = V21
  o22 : y22 = true → t46 = V22
  o23 : y23 = true → t47 = V23
  d1_0 : y1 = true → y0 = true
  d2_1 : y2 = true → y1 = true
  d4_3 : y4 = true → y3 = true
  d5_2 : y5 = true → y2 = true
  d5_4 : y5 = true → y4 = true
  d7_6 : y7 = true → y6 = true
  d9_5 : y9 = true → y5 = true
  d9_7 : y9 = true → y7 = true
  d9_8 : y9 = true → y8 = true
  d11_10 : y11 = true → y10 = true
  d12_9 : y12 = true → y9 = true
  d12_11 : y12 = true → y11 = true
  d15_13 : y15 = true → y13 = true
  d15_14 : y15 = true → y14 = true
  d16_15 : y16 = true → y15 = true
  d17_12 : y17 = true → y12 = true
  d17_16 : y17 = true → y16 = true
  d19_18 : y19 = true → y18 = true
  d21_20 : y21 = true → y20 = true
  d22_19 : y22 = true → y19 = true
  d22_21 : y22 = true → y21 = true
  d23_22 : y23 = true → y22 = true
theorem TC6.grow {W x x' : World} {V0 : Value} {V1 : Value} {V2 : Value} {V3 : Value} {V4 : Value} {V5 : Value} {V6 : Value} {V7 : Value} {V8 : Value} {V9 : Value} {V10 : Value} {V11 : Value} {V12 : Value} {V13 : Value} {V14 : Value} {V15 : Value} {V16 : Value} {V17 : Value} {V18 : Value} {V19 : Value} {V20 : Value} {V21 : Value} {V22 : Value} {V23 : Value} {y0 y1 y2 y3 y4 y5 y6 y7 y8 y9 y10 y11 y12 y13 y14 y15 y16 y17 y18 y19 y20 y21 y22 y23 : Bool} {t24 t25 t26 t27 t28 t29 t30 t31 t32 t33 t34 t35 t36 t37 t38 t39 t40 t41 t42 t43 t44 t45 t46 t47 : Value} (h : TC6 W x V0 V1 V2 V3 V4 V5 V6 V7 V8 V9 V10 V11 V12 V13 V14 V15 V16 V17 V18 V19 V20 V21 V22 V23 y0 y1 y2 y3 y4 y5 y6 y7 y8 y9 y10 y11 y12 y13 y14 y15 y16 y17 y18 y19 y20 y21 y22 y23 t24 t25 t26 t27 t28 t29 t30 t31 t32 t33 t34 t35 t36 t37 t38 t39 t40 t41 t42 t43 t44 t45 t46 t47) (b : Below x.heap.size x x') : TC6 W x' V0 V1 V2 V3 V4 V5 V6 V7 V8 V9 V10 V11 V12 V13 V14 V15 V16 V17 V18 V19 V20 V21 V22 V23 y0 y1 y2 y3 y4 y5 y6 y7 y8 y9 y10 y11 y12 y13 y14 y15 y16 y17 y18 y19 y20 y21 y22 y23 t24 t25 t26 t27 t28 t29 t30 t31 t32 t33 t34 t35 t36 t37 t38 t39 t40 t41 t42 t43 t44 t45 t46 t47 where
  bel := bel' h.bel b
  o0 := h.o0
  o1 := h.o1
  o2 := h.o2
  o3 := h.o3
  o4 := h.o4
  o5 := h.o5
  o6 := h.o6
  o7 := h.o7
  o8 := h.o8
  o9 := h.o9
  o10 := h.o10
  o11 := h.o11
  o12 := h.o12
  o13 := h.o13
  o14 := h.o14
  o15 := h.o15
  o16 := h.o16
  o17 := h.o17
  o18 := h.o18
  o19 := h.o19
  o20 := h.o20
  o21 := h.o21
  o22 := h.o22
  o23 := h.o23
  d1_0 := h.d1_0
  d2_1 := h.d2_1
  d4_3 := h.d4_3
  d5_2 := h.d5_2
  d5_4 := h.d5_4
  d7_6 := h.d7_6
  d9_5 := h.d9_5
  d9_7 := h.d9_7
  d9_8 := h.d9_8
  d11_10 := h.d11_10
  d12_9 := h.d12_9
  d12_11 := h.d12_11
  d15_13 := h.d15_13
  d15_14 := h.d15_14
  d16_15 := h.d16_15
  d17_12 := h.d17_12
  d17_16 := h.d17_16
  d19_18 := h.d19_18
  d21_20 := h.d21_20
  d22_19 := h.d22_19
  d22_21 := h.d22_21
  d23_22 := h.d23_22

set_option maxHeartbeats 3200000 in
set_option maxRecDepth 100000 in
theorem checks_law (s : ByteArray) (f r : Int) (ar : Option Addr) (cr : Nat) (rs : List Int) (az : Option Addr) (cs : Nat) (sel : List (List Int)) (w : World) (hs : s.size ≤ 140737488351232) (hr : Rx w (.slice ar rs.length cr) rs) (hsel : Rr w (.slice az sel.length cs) sel) :
    Calls Try.prog 3 #[.agg #[.string s, .int .i64 f, .slice ar rs.length cr, .slice az sel.length cs, .int .i64 r]] w fun e w' => e = .returned (.bool true) ∧ Below w.heap.size w w' := by
  have K0 := Blk.new w #[.string s, .int .i64 f, .slice ar rs.length cr, .slice az sel.length cs, .int .i64 r] 27
  have pr : Below w.heap.size w (w.alloc (.cells #[.string s, .int .i64 f, .slice ar rs.length cr, .slice az sel.length cs, .int .i64 r] 27)) := (Below.refl _ _).alloc (Nat.le_refl _) _
  have Nm := names9_any
  go_enter Try.func3, Try.ntmps3
  go_wp2_with (first | (go_at_call 4; refine (Nm _).mono ?_; rintro e w1 ⟨rfl, hw⟩; subst w1) | fail)
  generalize w.alloc (.cells #[.string s, .int .i64 f, .slice ar rs.length cr, .slice az sel.length cs, .int .i64 r] 27) = W at *
  have hrW := hr.grow pr
  have hsW := hsel.grow pr
  go_cut [3] from 9 to 14 (fun c wc => ∃ (X g c1 : Nat) (a : Option Addr × Nat × Nat), c = .pointer (some ⟨X, 0, none⟩) ∧ W.heap.size ≤ X ∧ Blk wc X #[.string s, .int .i64 f, .slice (some ⟨g, 0, none⟩) rs.length c1, .slice a.1 a.2.1 a.2.2, .int .i64 r] 27 ∧ Oi wc g c1 rs ∧ Os wc (.slice a.1 a.2.1 a.2.2) sel ∧ Below W.heap.size W wc)
  case first =>
    rename_i hm hJ
    refine wp_region_held (S := fun _ => True) (by kernel_rfl) (any_inv (fun listed a x => ∃ (y0 y1 y2 y3 y4 y5 y6 : Bool) (t9 t10 t11 t12 t13 t14 t3 : Value), a = ⟨#[.agg #[.string s, .int .i64 f, .slice ar rs.length cr, .slice az sel.length cs, .int .i64 r], .pointer (some ⟨w.heap.size, 0, none⟩), .bool false, t3, undef, undef, undef, .bool true, .bool false, t9, t10, t11, t12, t13, t14, undef, undef, undef, undef, undef, undef, undef, undef, undef, undef, undef, undef, undef, undef, undef, undef, undef, undef, undef, undef, undef, undef, undef, undef, undef, undef, undef, undef, undef, undef, undef, undef, undef, undef, undef, undef, undef, undef, undef, undef, undef, undef, undef, undef, undef, undef, undef, undef, undef, undef, undef], []⟩ ∧ ((listed = #[y0, y1, y2, y3, y4, y5, y6, false] ∧ TC3 W x s f rs sel r (.pointer (some ⟨w.heap.size, 0, none⟩)) (.agg #[.string s, .int .i64 f, .slice ar rs.length cr, .slice az sel.length cs]) (.pointer (some ⟨w.heap.size, 4, none⟩)) (.int .i64 r) (0) (0) y0 y1 y2 y3 y4 y5 y6 t9 t10 t11 t12 t13 t14 t3) ∨ (listed = #[true, true, true, true, true, true, true, true] ∧ ∃ (X g c : Nat) (a : Option Addr × Nat × Nat), t3 = .pointer (some ⟨X, 0, none⟩) ∧ W.heap.size ≤ X ∧ Blk x X #[.string s, .int .i64 f, .slice (some ⟨g, 0, none⟩) rs.length c, .slice a.1 a.2.1 a.2.2, .int .i64 r] 27 ∧ Oi x g c rs ∧ Os x (.slice a.1 a.2.1 a.2.2) sel ∧ Below W.heap.size W x))) ?_ ?_ _ _ _ _ (by decide) ?_)
    · rintro listed a x i ⟨y0, y1, y2, y3, y4, y5, y6, t9, t10, t11, t12, t13, t14, t3, rfl, h⟩ hi
      have hr : i < 8 := List.mem_range.1 (List.mem_filter.1 hi).1
      have hc := (List.mem_filter.1 hi).2
      rcases h with ⟨rfl, h⟩ | ⟨rfl, h⟩
      · rcases (show i = 0 ∨ i = 1 ∨ i = 2 ∨ i = 3 ∨ i = 4 ∨ i = 5 ∨ i = 6 ∨ i = 7 by omega) with rfl | rfl | rfl | rfl | rfl | rfl | rfl | rfl
        · clear hc hi
          refine wpOp_step rfl (fun K hK0 => ?_)
          have hK : Hid _ := hK0
          clear hK0
          rw [if_pos (by rfl)]
          go_wp2_with fail
          exact hK.out _ _ ⟨true, y1, y2, y3, y4, y5, y6, .pointer (some ⟨w.heap.size, 0, none⟩), t10, t11, t12, t13, t14, t3, rfl, Or.inl ⟨rfl, { h with o0 := fun _ => rfl }⟩⟩
        · have e0 : y0 = true := by
            revert hc
            cases y0 <;> simp [Region.binds]
          have r0 := h.o0 e0
          subst r0
          clear hc hi
          have kd0 := (K0.below h.bel K0.lt).at 0
          have kd1 := (K0.below h.bel K0.lt).at 1
          have kd2 := (K0.below h.bel K0.lt).at 2
          have kd3 := (K0.below h.bel K0.lt).at 3
          simp at kd0 kd1 kd2 kd3
          refine wpOp_step rfl (fun K hK0 => ?_)
          have hK : Hid _ := hK0
          clear hK0
          rw [if_pos (by rfl)]
          go_wp2_with fail
          exact hK.out _ _ ⟨y0, true, y2, y3, y4, y5, y6, _, .agg #[.string s, .int .i64 f, .slice ar rs.length cr, .slice az sel.length cs], t11, t12, t13, t14, t3, rfl, Or.inl ⟨rfl, { h with o1 := fun _ => rfl }⟩⟩
        · have e1 : y1 = true := by
            revert hc
            cases y1 <;> simp [Region.binds]
          have r1 := h.o1 e1
          subst r1
          clear hc hi
          refine wpOp_step rfl (fun K hK0 => ?_)
          have hK : Hid _ := hK0
          clear hK0
          rw [if_pos (by rfl)]
          go_wp2_with (first | (go_at_call 5; go_must (refine (CopyTable_any s f ar cr rs az cs sel x (hrW.grow h.bel) (hsW.grow h.bel)).mono ?_; rintro e x2 ⟨g9, c9, va, vl, vc, rfl, H9, S9, bb⟩)) | fail)
          exact hK.out _ _ ⟨y0, y1, true, y3, y4, y5, y6, t9, _, _, t12, t13, t14, t3, rfl, Or.inl ⟨rfl, { h.grow bb with o2 := fun _ => ⟨(va, vl, vc), _, _, rfl, H9, S9⟩ }⟩⟩
        · clear hc hi
          refine wpOp_step rfl (fun K hK0 => ?_)
          have hK : Hid _ := hK0
          clear hK0
          rw [if_pos (by rfl)]
          go_wp2_with fail
          exact hK.out _ _ ⟨y0, y1, y2, true, y4, y5, y6, t9, t10, t11, .pointer (some ⟨w.heap.size, 4, none⟩), t13, t14, t3, rfl, Or.inl ⟨rfl, { h with o3 := fun _ => rfl }⟩⟩
        · have e3 : y3 = true := by
            revert hc
            cases y3 <;> simp [Region.binds]
          have r3 := h.o3 e3
          subst r3
          clear hc hi
          have kd4 := (K0.below h.bel K0.lt).at 4
          simp at kd4
          refine wpOp_step rfl (fun K hK0 => ?_)
          have hK : Hid _ := hK0
          clear hK0
          rw [if_pos (by rfl)]
          go_wp2_with fail
          exact hK.out _ _ ⟨y0, y1, y2, y3, true, y5, y6, t9, t10, t11, _, .int .i64 r, t14, t3, rfl, Or.inl ⟨rfl, { h with o4 := fun _ => rfl }⟩⟩
        · have e2 : y2 = true := by
            revert hc
            cases y2 <;> simp [Region.binds]
          have e4 : y4 = true := by
            revert hc
            cases y4 <;> simp [Region.binds]
          obtain ⟨a2, l2, c2, rfl, H2⟩ := h.o2 e2
          have r4 := h.o4 e4
          subst r4
          clear hc hi
          have bb := Below.refl x.heap.size x
          refine wpOp_step rfl (fun K hK0 => ?_)
          have hK : Hid _ := hK0
          clear hK0
          rw [if_pos (by rfl)]
          go_wp2_with (first | (fail) | fail)
          exact hK.out _ _ ⟨y0, y1, y2, y3, y4, true, y6, t9, t10, _, t12, _, _, t3, rfl, Or.inl ⟨rfl, { h.grow bb with o5 := fun _ => ⟨a2, _, _, rfl, H2⟩ }⟩⟩
        · clear hc hi
          refine wpOp_step rfl (fun K hK0 => ?_)
          have hK : Hid _ := hK0
          clear hK0
          rw [if_pos (by rfl)]
          go_wp2_with fail
          exact hK.out _ _ ⟨y0, y1, y2, y3, y4, y5, true, t9, t10, t11, t12, t13, t14, _, rfl, Or.inl ⟨rfl, { h.grow ((Below.refl _ _).alloc (Nat.le_refl _) _) with o6 := fun _ => ⟨_, rfl, h.bel.size, Blk.new _ _ _⟩ }⟩⟩
        · have e0 : y0 = true := by
            revert hc
            cases y0 <;> simp [Region.binds]
          have e1 : y1 = true := by
            revert hc
            cases y1 <;> simp [Region.binds]
          have e2 : y2 = true := by
            revert hc
            cases y2 <;> simp [Region.binds]
          have e3 : y3 = true := by
            revert hc
            cases y3 <;> simp [Region.binds]
          have e4 : y4 = true := by
            revert hc
            cases y4 <;> simp [Region.binds]
          have e5 : y5 = true := by
            revert hc
            cases y5 <;> simp [Region.binds]
          have e6 : y6 = true := by
            revert hc
            cases y6 <;> simp [Region.binds]
          obtain ⟨a5, l5, c5, rfl, H5⟩ := h.o5 e5
          obtain ⟨X6, rfl, lX6, K6⟩ := h.o6 e6
          clear hc hi
          subst e0 e1 e2 e3 e4 e5 e6
          have bl := h.bel
          obtain ⟨O5, S5⟩ := H5
          have xx0 := K6.at 0
          have xf0 := K6.free 0
          have xx1 := K6.at 1
          have xf1 := K6.free 1
          have xx2 := K6.at 2
          have xf2 := K6.free 2
          have xx3 := K6.at 3
          have xf3 := K6.free 3
          have xx4 := K6.at 4
          have xf4 := K6.free 4
          simp at xx0 xx1 xx2 xx3 xx4
          have PE := put5 K6 (.string s) (.int .i64 f) (.slice (some ⟨l5, 0, none⟩) rs.length c5) (.slice a5.1 a5.2.1 a5.2.2) (.int .i64 r)
          have OE := O5.skip5 (O5.ne K6 (by decide)) (.string s) (.int .i64 f) (.slice (some ⟨l5, 0, none⟩) rs.length c5) (.slice a5.1 a5.2.1 a5.2.2) (.int .i64 r)
          have SE := S5.skip5 K6 (by decide) (by decide) (.string s) (.int .i64 f) (.slice (some ⟨l5, 0, none⟩) rs.length c5) (.slice a5.1 a5.2.1 a5.2.2) (.int .i64 r)
          have BE := set5 (p := .string s) (q := .int .i64 f) (r := .slice (some ⟨l5, 0, none⟩) rs.length c5) (s := .slice a5.1 a5.2.1 a5.2.2) (t := .int .i64 r) bl lX6
          clear h O5 S5
          refine wpOp_step rfl (fun K hK0 => ?_)
          have hK : Hid _ := hK0
          clear hK0
          rw [if_pos (by rfl)]
          go_wp2_with fail
          exact hK.out _ _ ⟨true, true, true, true, true, true, true, t9, t10, t11, t12, t13, _, _, rfl, Or.inr (⟨rfl, X6, l5, c5, a5, rfl, lX6, PE, OE, SE, BE⟩)⟩
      · rcases (show i = 0 ∨ i = 1 ∨ i = 2 ∨ i = 3 ∨ i = 4 ∨ i = 5 ∨ i = 6 ∨ i = 7 by omega) with rfl | rfl | rfl | rfl | rfl | rfl | rfl | rfl <;> simp at hc
    · rintro listed a x ⟨y0, y1, y2, y3, y4, y5, y6, t9, t10, t11, t12, t13, t14, t3, rfl, h⟩ hn
      have al := all_listed (by decide +kernel) hn
      rcases h with ⟨rfl, h⟩ | ⟨rfl, h⟩
      · have z := al 7 (by decide)
        simp at z
      · obtain ⟨X, g, c, a, rfl, lX, PE, OE, SE, BE⟩ := h
        refine hJ _ _ ?_
        go_meet
        case rel => exact ⟨X, g, c, a, rfl, lX, PE, OE, SE, BE⟩
    · exact ⟨false, false, false, false, false, false, false, undef, undef, undef, undef, undef, undef, undef, rfl, Or.inl ⟨rfl, { bel := (Below.refl _ _).drew, o0 := (by intro q; cases q), o1 := (by intro q; cases q), o2 := (by intro q; cases q), o3 := (by intro q; cases q), o4 := (by intro q; cases q), o5 := (by intro q; cases q), o6 := (by intro q; cases q) }⟩⟩
  case rest =>
    rename World => wB
    obtain ⟨X, g, c, va, rfl, lX, KX, OE, SE, BE⟩ := hcut
    have K1 := K0.below BE K0.lt
    have pB := bel' pr BE
    have hrB := hrW.grow BE
    have hsB := hsW.grow BE
    have p0 := K1.at 0
    have p1 := K1.at 1
    have p2 := K1.at 2
    have p3 := K1.at 3
    simp at p0 p1 p2 p3
    obtain ⟨q, hq⟩ : ∃ q, chk s f rs sel = q := ⟨_, rfl⟩
    obtain ⟨m, hm⟩ : ∃ m, (if chk s f rs sel = 0 then f + (rs.length : Int) - 1 else 0) = m := ⟨_, rfl⟩
    obtain ⟨bq, hbq⟩ : ∃ b, bas s f rs sel r = b := ⟨_, rfl⟩
    have CR := fun x b => RCheck_any s f (.slice ar rs.length cr) (.slice az sel.length cs) rs sel x hs (Rx.grow hrB b) (Rr.grow hsB b)
    have CL := fun x b => Last_any s f (.slice (some ⟨g, 0, none⟩) rs.length c) (.slice va.1 va.2.1 va.2.2) rs sel x hs (OE.grow b).rx (SE.grow b).rr
    rw [hq] at CR
    rw [hm, hq] at CL
    clear K0 lX hrW hsW BE pr
    go_wp2_with (first
      | (go_at_call 6; go_must (refine (CR _ (Below.refl _ _)).mono ?_; rintro e w2 ⟨rfl, b2⟩; (have KX2 := KX.below b2 KX.lt); (have e0 := KX2.at 0); (have e1 := KX2.at 1); (have e2 := KX2.at 2); (have e3 := KX2.at 3); (simp at e0 e1 e2 e3)))
      | (go_at_call 7; go_must (refine (CL _ b2).mono ?_; rintro e w3 ⟨rfl, b3⟩))
      | fail)
    have b4 := bel' b2 b3
    have K0 := K1.below b4 K1.lt
    have KX3 := KX.below b4 KX.lt
    have hr3 := hrB.grow b4
    have hs3 := hsB.grow b4
    have OE3 := OE.grow b4
    have SE3 := SE.grow b4
    have p4 := bel' pB b4
    clear CR CL b2 b3 b4 K1 KX KX2 hrB hsB OE SE pB p0 p1 p2 p3 e0 e1 e2 e3 Nm
    generalize w3 = WQ at *
    have KX := KX3
    clear KX3
    have C26 : ∀ x, Below WQ.heap.size WQ x → Calls Try.prog 8 #[.agg #[.string s, .int .i64 f, .slice (some ⟨g, 0, none⟩) rs.length c, .slice va.1 va.2.1 va.2.2]] x fun e w' => e = .returned (.int .i64 q) ∧ Below x.heap.size x w' := fun x b => by
      have := Check_any s f (.slice (some ⟨g, 0, none⟩) rs.length c) (.slice va.1 va.2.1 va.2.2) rs sel x hs (OE3.grow b).rx (SE3.grow b).rr
      rw [hq] at this; exact this
    have C31 : ∀ x, Below WQ.heap.size WQ x → Calls Try.prog 9 #[.agg #[.string s, .int .i64 f, .slice (some ⟨g, 0, none⟩) rs.length c, .slice va.1 va.2.1 va.2.2, .int .i64 r]] x fun e w' => e = .returned (.int .i64 bq) ∧ Below x.heap.size x w' := fun x b => by
      have := Basis_any s f r (.slice (some ⟨g, 0, none⟩) rs.length c) (.slice va.1 va.2.1 va.2.2) rs sel x hs (OE3.grow b).rx (SE3.grow b).rr
      rw [hbq] at this; exact this
    have C33 : ∀ x, Below WQ.heap.size WQ x → Calls Try.prog 10 #[.agg #[.string s, .int .i64 f, .slice ar rs.length cr, .slice az sel.length cs, .int .i64 r]] x fun e w' => e = .returned (.int .i64 bq) ∧ Below x.heap.size x w' := fun x b => by
      have := RBasis_any s f r (.slice ar rs.length cr) (.slice az sel.length cs) rs sel x hs (hr3.grow b) (hs3.grow b)
      rw [hbq] at this; exact this
    have C46 : ∀ x, Below WQ.heap.size WQ x → Calls Try.prog 11 #[.agg #[.string s, .int .i64 f, .slice (some ⟨g, 0, none⟩) rs.length c, .slice va.1 va.2.1 va.2.2], .agg #[.string s, .int .i64 f, .slice ar rs.length cr, .slice az sel.length cs]] x fun e w' => e = .returned (.bool true) ∧ Below x.heap.size x w' := fun x b =>
      SameTable_same s f _ _ _ _ rs sel x (OE3.grow b).rx (SE3.grow b).rr (hr3.grow b) (hs3.grow b)
    clear OE3 SE3 hr3 hs3 hbq
    have HQ : Hid (chk s f rs sel = q) := hq
    have HM : Hid ((if chk s f rs sel = 0 then f + (rs.length : Int) - 1 else 0) = m) := hm
    clear hq hm
    go_cut [48] from 24 to 47 (fun z wc => z = .bool false ∧ Below WQ.heap.size WQ wc)
    case first =>
      rename_i hm hJ
      refine wp_region_held (S := fun _ => True) (by kernel_rfl) (any_inv (fun listed a x => ∃ (y0 y1 y2 y3 y4 y5 y6 y7 y8 y9 y10 y11 y12 y13 y14 y15 y16 y17 y18 y19 y20 y21 y22 y23 : Bool) (t24 t25 t26 t27 t28 t29 t30 t31 t32 t33 t34 t35 t36 t37 t38 t39 t40 t41 t42 t43 t44 t45 t46 t47 : Value) (z48 : Value), a = ⟨#[.agg #[.string s, .int .i64 f, .slice ar rs.length cr, .slice az sel.length cs, .int .i64 r], .pointer (some ⟨w.heap.size, 0, none⟩), .bool false, .pointer (some ⟨X, 0, none⟩), .int .i64 q, .int .i64 m, .int .i64 q, .bool true, .bool false, u9, u10, u11, u12, u13, u14, .pointer (some ⟨w.heap.size, 0, none⟩), .agg #[.string s, .int .i64 f, .slice ar rs.length cr, .slice az sel.length cs], .int .i64 q, .tuple #[.int .i64 m, .int .i64 q], .pointer (some ⟨X, 0, none⟩), .agg #[.string s, .int .i64 f, .slice (some ⟨g, 0, none⟩) rs.length c, .slice va.1 va.2.1 va.2.2], .tuple #[.int .i64 m, .int .i64 q], .int .i64 m, .int .i64 q, t24, t25, t26, t27, t28, t29, t30, t31, t32, t33, t34, t35, t36, t37, t38, t39, t40, t41, t42, t43, t44, t45, t46, t47, z48, undef, undef, undef, undef, undef, undef, undef, undef, undef, undef, undef, undef, undef, undef, undef, undef, undef], []⟩ ∧ ((listed = #[y0, y1, y2, y3, y4, y5, y6, y7, y8, y9, y10, y11, y12, y13, y14, y15, y16, y17, y18, y19, y20, y21, y22, y23, false] ∧ TC6 WQ x (.pointer (some ⟨X, 0, none⟩)) (.agg #[.string s, .int .i64 f, .slice (some ⟨g, 0, none⟩) rs.length c, .slice va.1 va.2.1 va.2.2]) (.int .i64 q) (.int .i64 q) (.bool false) (.bool false) (.agg #[.string s, .int .i64 f, .slice (some ⟨g, 0, none⟩) rs.length c, .slice va.1 va.2.1 va.2.2, .int .i64 r]) (.int .i64 bq) (.agg #[.string s, .int .i64 f, .slice ar rs.length cr, .slice az sel.length cs, .int .i64 r]) (.int .i64 bq) (.bool false) (.bool false) (.bool false) (.int .i64 q) (.int .i64 q) (.bool false) (.bool false) (.bool false) (.pointer (some ⟨X, 0, none⟩)) (.agg #[.string s, .int .i64 f, .slice (some ⟨g, 0, none⟩) rs.length c, .slice va.1 va.2.1 va.2.2]) (.pointer (some ⟨w.heap.size, 0, none⟩)) (.agg #[.string s, .int .i64 f, .slice ar rs.length cr, .slice az sel.length cs]) (.bool true) (.bool false) y0 y1 y2 y3 y4 y5 y6 y7 y8 y9 y10 y11 y12 y13 y14 y15 y16 y17 y18 y19 y20 y21 y22 y23 t24 t25 t26 t27 t28 t29 t30 t31 t32 t33 t34 t35 t36 t37 t38 t39 t40 t41 t42 t43 t44 t45 t46 t47 ∧ z48 = undef) ∨ (listed = #[true, true, true, true, true, true, true, true, true, true, true, true, true, true, true, true, true, true, true, true, true, true, true, true, true] ∧ z48 = .bool false ∧ Below WQ.heap.size WQ x))) ?_ ?_ _ _ _ _ (by decide) ?_)
      · rintro listed a x i ⟨y0, y1, y2, y3, y4, y5, y6, y7, y8, y9, y10, y11, y12, y13, y14, y15, y16, y17, y18, y19, y20, y21, y22, y23, t24, t25, t26, t27, t28, t29, t30, t31, t32, t33, t34, t35, t36, t37, t38, t39, t40, t41, t42, t43, t44, t45, t46, t47, z48, rfl, h⟩ hi
        have hr : i < 25 := List.mem_range.1 (List.mem_filter.1 hi).1
        have hc := (List.mem_filter.1 hi).2
        rcases h with ⟨rfl, h⟩ | ⟨rfl, h⟩
        · rcases (show i = 0 ∨ i = 1 ∨ i = 2 ∨ i = 3 ∨ i = 4 ∨ i = 5 ∨ i = 6 ∨ i = 7 ∨ i = 8 ∨ i = 9 ∨ i = 10 ∨ i = 11 ∨ i = 12 ∨ i = 13 ∨ i = 14 ∨ i = 15 ∨ i = 16 ∨ i = 17 ∨ i = 18 ∨ i = 19 ∨ i = 20 ∨ i = 21 ∨ i = 22 ∨ i = 23 ∨ i = 24 by omega) with rfl | rfl | rfl | rfl | rfl | rfl | rfl | rfl | rfl | rfl | rfl | rfl | rfl | rfl | rfl | rfl | rfl | rfl | rfl | rfl | rfl | rfl | rfl | rfl | rfl
          · obtain ⟨h, rfl⟩ := h
            clear hc hi
            refine wpOp_step rfl (fun K hK0 => ?_)
            have hK : Hid _ := hK0
            clear hK0
            rw [if_pos (by rfl)]
            go_wp2_with fail
            exact hK.out _ _ ⟨true, y1, y2, y3, y4, y5, y6, y7, y8, y9, y10, y11, y12, y13, y14, y15, y16, y17, y18, y19, y20, y21, y22, y23, .pointer (some ⟨X, 0, none⟩), t25, t26, t27, t28, t29, t30, t31, t32, t33, t34, t35, t36, t37, t38, t39, t40, t41, t42, t43, t44, t45, t46, t47, undef, rfl, Or.inl ⟨rfl, ⟨{ h with o0 := fun _ => rfl, d1_0 := fun _ => rfl }, rfl⟩⟩⟩
          · obtain ⟨h, rfl⟩ := h
            have e0 : y0 = true := by
              revert hc
              cases y0 <;> simp [Region.binds]
            have r0 := h.o0 e0
            subst r0
            clear hc hi
            have kd0 := (KX.below h.bel KX.lt).at 0
            have kd1 := (KX.below h.bel KX.lt).at 1
            have kd2 := (KX.below h.bel KX.lt).at 2
            have kd3 := (KX.below h.bel KX.lt).at 3
            simp at kd0 kd1 kd2 kd3
            refine wpOp_step rfl (fun K hK0 => ?_)
            have hK : Hid _ := hK0
            clear hK0
            rw [if_pos (by rfl)]
            go_wp2_with fail
            exact hK.out _ _ ⟨y0, true, y2, y3, y4, y5, y6, y7, y8, y9, y10, y11, y12, y13, y14, y15, y16, y17, y18, y19, y20, y21, y22, y23, _, .agg #[.string s, .int .i64 f, .slice (some ⟨g, 0, none⟩) rs.length c, .slice va.1 va.2.1 va.2.2], t26, t27, t28, t29, t30, t31, t32, t33, t34, t35, t36, t37, t38, t39, t40, t41, t42, t43, t44, t45, t46, t47, undef, rfl, Or.inl ⟨rfl, ⟨{ h with o1 := fun _ => rfl, d1_0 := fun _ => e0, d2_1 := fun _ => rfl }, rfl⟩⟩⟩
          · obtain ⟨h, rfl⟩ := h
            have e1 : y1 = true := by
              revert hc
              cases y1 <;> simp [Region.binds]
            have r1 := h.o1 e1
            subst r1
            clear hc hi
            refine wpOp_step rfl (fun K hK0 => ?_)
            have hK : Hid _ := hK0
            clear hK0
            rw [if_pos (by rfl)]
            go_wp2_with (first | (go_at_call 8; go_must (refine (C26 x h.bel).mono ?_; rintro e x2 ⟨rfl, bb⟩)) | fail)
            exact hK.out _ _ ⟨y0, y1, true, y3, y4, y5, y6, y7, y8, y9, y10, y11, y12, y13, y14, y15, y16, y17, y18, y19, y20, y21, y22, y23, t24, _, _, t27, t28, t29, t30, t31, t32, t33, t34, t35, t36, t37, t38, t39, t40, t41, t42, t43, t44, t45, t46, t47, undef, rfl, Or.inl ⟨rfl, ⟨{ h.grow bb with o2 := fun _ => rfl, d2_1 := fun _ => e1, d5_2 := fun _ => rfl }, rfl⟩⟩⟩
          · obtain ⟨h, rfl⟩ := h
            clear hc hi
            refine wpOp_step rfl (fun K hK0 => ?_)
            have hK : Hid _ := hK0
            clear hK0
            rw [if_pos (by rfl)]
            go_wp2_with fail
            exact hK.out _ _ ⟨y0, y1, y2, true, y4, y5, y6, y7, y8, y9, y10, y11, y12, y13, y14, y15, y16, y17, y18, y19, y20, y21, y22, y23, t24, t25, t26, .int .i64 q, t28, t29, t30, t31, t32, t33, t34, t35, t36, t37, t38, t39, t40, t41, t42, t43, t44, t45, t46, t47, undef, rfl, Or.inl ⟨rfl, ⟨{ h with o3 := fun _ => rfl, d4_3 := fun _ => rfl }, rfl⟩⟩⟩
          · obtain ⟨h, rfl⟩ := h
            have e2 : y2 = true := by
              revert hc
              cases y2 <;> simp [Region.binds]
            have e3 : y3 = true := by
              revert hc
              cases y3 <;> simp [Region.binds]
            have r2 := h.o2 e2
            subst r2
            have r3 := h.o3 e3
            subst r3
            clear hc hi
            refine wpOp_step rfl (fun K hK0 => ?_)
            have hK : Hid _ := hK0
            clear hK0
            rw [if_pos (by rfl)]
            go_wp2_with fail
            exact hK.out _ _ ⟨y0, y1, y2, y3, true, y5, y6, y7, y8, y9, y10, y11, y12, y13, y14, y15, y16, y17, y18, y19, y20, y21, y22, y23, t24, t25, _, _, .bool false, t29, t30, t31, t32, t33, t34, t35, t36, t37, t38, t39, t40, t41, t42, t43, t44, t45, t46, t47, undef, rfl, Or.inl ⟨rfl, ⟨{ h with o4 := fun _ => rfl, d4_3 := fun _ => e3, d5_4 := fun _ => rfl }, rfl⟩⟩⟩
          · obtain ⟨h, rfl⟩ := h
            have e2 : y2 = true := by
              revert hc
              cases y2 <;> simp [Region.binds]
            have e4 : y4 = true := by
              revert hc
              cases y4 <;> simp [Region.binds]
            have r4 := h.o4 e4
            subst r4
            clear hc hi
            refine wpOp_step rfl (fun K hK0 => ?_)
            have hK : Hid _ := hK0
            clear hK0
            rw [if_pos (by rfl)]
            go_wp2_with fail
            exact hK.out _ _ ⟨y0, y1, y2, y3, y4, true, y6, y7, y8, y9, y10, y11, y12, y13, y14, y15, y16, y17, y18, y19, y20, y21, y22, y23, t24, t25, t26, t27, _, .bool false, t30, t31, t32, t33, t34, t35, t36, t37, t38, t39, t40, t41, t42, t43, t44, t45, t46, t47, undef, rfl, Or.inl ⟨rfl, ⟨{ h with o5 := fun _ => rfl, d5_2 := fun _ => e2, d5_4 := fun _ => e4, d9_5 := fun _ => rfl }, rfl⟩⟩⟩
          · obtain ⟨h, rfl⟩ := h
            have e5 : y5 = true := by
              revert hc
              cases y5 <;> simp [Region.binds]
            have r5 := h.o5 e5
            subst r5
            clear hc hi
            have kd0 := (KX.below h.bel KX.lt).at 0
            have kd1 := (KX.below h.bel KX.lt).at 1
            have kd2 := (KX.below h.bel KX.lt).at 2
            have kd3 := (KX.below h.bel KX.lt).at 3
            have kd4 := (KX.below h.bel KX.lt).at 4
            simp at kd0 kd1 kd2 kd3 kd4
            refine wpOp_step rfl (fun K hK0 => ?_)
            have hK : Hid _ := hK0
            clear hK0
            rw [if_pos (by rfl)]
            go_wp2_with fail
            exact hK.out _ _ ⟨y0, y1, y2, y3, y4, y5, true, y7, y8, y9, y10, y11, y12, y13, y14, y15, y16, y17, y18, y19, y20, y21, y22, y23, t24, t25, t26, t27, t28, _, .agg #[.string s, .int .i64 f, .slice (some ⟨g, 0, none⟩) rs.length c, .slice va.1 va.2.1 va.2.2, .int .i64 r], t31, t32, t33, t34, t35, t36, t37, t38, t39, t40, t41, t42, t43, t44, t45, t46, t47, undef, rfl, Or.inl ⟨rfl, ⟨{ h with o6 := fun _ => rfl, d7_6 := fun _ => rfl }, rfl⟩⟩⟩
          · obtain ⟨h, rfl⟩ := h
            have e5 : y5 = true := by
              revert hc
              cases y5 <;> simp [Region.binds]
            have e6 : y6 = true := by
              revert hc
              cases y6 <;> simp [Region.binds]
            have r5 := h.o5 e5
            subst r5
            have r6 := h.o6 e6
            subst r6
            clear hc hi
            refine wpOp_step rfl (fun K hK0 => ?_)
            have hK : Hid _ := hK0
            clear hK0
            rw [if_pos (by rfl)]
            go_wp2_with (first | (go_at_call 9; go_must (refine (C31 x h.bel).mono ?_; rintro e x2 ⟨rfl, bb⟩)) | fail)
            exact hK.out _ _ ⟨y0, y1, y2, y3, y4, y5, y6, true, y8, y9, y10, y11, y12, y13, y14, y15, y16, y17, y18, y19, y20, y21, y22, y23, t24, t25, t26, t27, t28, _, _, _, t32, t33, t34, t35, t36, t37, t38, t39, t40, t41, t42, t43, t44, t45, t46, t47, undef, rfl, Or.inl ⟨rfl, ⟨{ h.grow bb with o7 := fun _ => rfl, d7_6 := fun _ => e6, d9_7 := fun _ => rfl }, rfl⟩⟩⟩
          · obtain ⟨h, rfl⟩ := h
            have e5 : y5 = true := by
              revert hc
              cases y5 <;> simp [Region.binds]
            have r5 := h.o5 e5
            subst r5
            clear hc hi
            have kd0 := (K0.below h.bel K0.lt).at 0
            have kd1 := (K0.below h.bel K0.lt).at 1
            have kd2 := (K0.below h.bel K0.lt).at 2
            have kd3 := (K0.below h.bel K0.lt).at 3
            have kd4 := (K0.below h.bel K0.lt).at 4
            simp at kd0 kd1 kd2 kd3 kd4
            refine wpOp_step rfl (fun K hK0 => ?_)
            have hK : Hid _ := hK0
            clear hK0
            rw [if_pos (by rfl)]
            go_wp2_with fail
            exact hK.out _ _ ⟨y0, y1, y2, y3, y4, y5, y6, y7, true, y9, y10, y11, y12, y13, y14, y15, y16, y17, y18, y19, y20, y21, y22, y23, t24, t25, t26, t27, t28, _, t30, t31, .agg #[.string s, .int .i64 f, .slice ar rs.length cr, .slice az sel.length cs, .int .i64 r], t33, t34, t35, t36, t37, t38, t39, t40, t41, t42, t43, t44, t45, t46, t47, undef, rfl, Or.inl ⟨rfl, ⟨{ h with o8 := fun _ => rfl, d9_8 := fun _ => rfl }, rfl⟩⟩⟩
          · obtain ⟨h, rfl⟩ := h
            have e7 : y7 = true := by
              revert hc
              cases y7 <;> simp [Region.binds]
            have e5 : y5 = true := by
              revert hc
              cases y5 <;> simp [Region.binds]
            have e8 : y8 = true := by
              revert hc
              cases y8 <;> simp [Region.binds]
            have r5 := h.o5 e5
            subst r5
            have r8 := h.o8 e8
            subst r8
            clear hc hi
            refine wpOp_step rfl (fun K hK0 => ?_)
            have hK : Hid _ := hK0
            clear hK0
            rw [if_pos (by rfl)]
            go_wp2_with (first | (go_at_call 10; go_must (refine (C33 x h.bel).mono ?_; rintro e x2 ⟨rfl, bb⟩)) | fail)
            exact hK.out _ _ ⟨y0, y1, y2, y3, y4, y5, y6, y7, y8, true, y10, y11, y12, y13, y14, y15, y16, y17, y18, y19, y20, y21, y22, y23, t24, t25, t26, t27, t28, _, t30, t31, _, _, t34, t35, t36, t37, t38, t39, t40, t41, t42, t43, t44, t45, t46, t47, undef, rfl, Or.inl ⟨rfl, ⟨{ h.grow bb with o9 := fun _ => rfl, d9_5 := fun _ => e5, d9_7 := fun _ => e7, d9_8 := fun _ => e8, d12_9 := fun _ => rfl }, rfl⟩⟩⟩
          · obtain ⟨h, rfl⟩ := h
            have e5 : y5 = true := by
              revert hc
              cases y5 <;> simp [Region.binds]
            have e7 : y7 = true := by
              revert hc
              cases y7 <;> simp [Region.binds]
            have e9 : y9 = true := by
              revert hc
              cases y9 <;> simp [Region.binds]
            have r5 := h.o5 e5
            subst r5
            have r7 := h.o7 e7
            subst r7
            have r9 := h.o9 e9
            subst r9
            clear hc hi
            refine wpOp_step rfl (fun K hK0 => ?_)
            have hK : Hid _ := hK0
            clear hK0
            rw [if_pos (by rfl)]
            go_wp2_with fail
            exact hK.out _ _ ⟨y0, y1, y2, y3, y4, y5, y6, y7, y8, y9, true, y11, y12, y13, y14, y15, y16, y17, y18, y19, y20, y21, y22, y23, t24, t25, t26, t27, t28, _, t30, _, t32, _, .bool false, t35, t36, t37, t38, t39, t40, t41, t42, t43, t44, t45, t46, t47, undef, rfl, Or.inl ⟨rfl, ⟨{ h with o10 := fun _ => rfl, d11_10 := fun _ => rfl }, rfl⟩⟩⟩
          · obtain ⟨h, rfl⟩ := h
            have e5 : y5 = true := by
              revert hc
              cases y5 <;> simp [Region.binds]
            have e10 : y10 = true := by
              revert hc
              cases y10 <;> simp [Region.binds]
            have r5 := h.o5 e5
            subst r5
            have r10 := h.o10 e10
            subst r10
            clear hc hi
            refine wpOp_step rfl (fun K hK0 => ?_)
            have hK : Hid _ := hK0
            clear hK0
            rw [if_pos (by rfl)]
            go_wp2_with fail
            exact hK.out _ _ ⟨y0, y1, y2, y3, y4, y5, y6, y7, y8, y9, y10, true, y12, y13, y14, y15, y16, y17, y18, y19, y20, y21, y22, y23, t24, t25, t26, t27, t28, _, t30, t31, t32, t33, _, .bool false, t36, t37, t38, t39, t40, t41, t42, t43, t44, t45, t46, t47, undef, rfl, Or.inl ⟨rfl, ⟨{ h with o11 := fun _ => rfl, d11_10 := fun _ => e10, d12_11 := fun _ => rfl }, rfl⟩⟩⟩
          · obtain ⟨h, rfl⟩ := h
            have e9 : y9 = true := by
              revert hc
              cases y9 <;> simp [Region.binds]
            have e11 : y11 = true := by
              revert hc
              cases y11 <;> simp [Region.binds]
            have r11 := h.o11 e11
            subst r11
            clear hc hi
            refine wpOp_step rfl (fun K hK0 => ?_)
            have hK : Hid _ := hK0
            clear hK0
            rw [if_pos (by rfl)]
            go_wp2_with fail
            exact hK.out _ _ ⟨y0, y1, y2, y3, y4, y5, y6, y7, y8, y9, y10, y11, true, y13, y14, y15, y16, y17, y18, y19, y20, y21, y22, y23, t24, t25, t26, t27, t28, t29, t30, t31, t32, t33, t34, _, .bool false, t37, t38, t39, t40, t41, t42, t43, t44, t45, t46, t47, undef, rfl, Or.inl ⟨rfl, ⟨{ h with o12 := fun _ => rfl, d12_9 := fun _ => e9, d12_11 := fun _ => e11, d17_12 := fun _ => rfl }, rfl⟩⟩⟩
          · obtain ⟨h, rfl⟩ := h
            have e12 : y12 = true := by
              revert hc
              cases y12 <;> simp [Region.binds]
            have r12 := h.o12 e12
            subst r12
            clear hc hi
            refine wpOp_step rfl (fun K hK0 => ?_)
            have hK : Hid _ := hK0
            clear hK0
            rw [if_pos (by rfl)]
            go_wp2_with fail
            exact hK.out _ _ ⟨y0, y1, y2, y3, y4, y5, y6, y7, y8, y9, y10, y11, y12, true, y14, y15, y16, y17, y18, y19, y20, y21, y22, y23, t24, t25, t26, t27, t28, t29, t30, t31, t32, t33, t34, t35, _, .int .i64 q, t38, t39, t40, t41, t42, t43, t44, t45, t46, t47, undef, rfl, Or.inl ⟨rfl, ⟨{ h with o13 := fun _ => rfl, d15_13 := fun _ => rfl }, rfl⟩⟩⟩
          · obtain ⟨h, rfl⟩ := h
            have e12 : y12 = true := by
              revert hc
              cases y12 <;> simp [Region.binds]
            have r12 := h.o12 e12
            subst r12
            clear hc hi
            refine wpOp_step rfl (fun K hK0 => ?_)
            have hK : Hid _ := hK0
            clear hK0
            rw [if_pos (by rfl)]
            go_wp2_with fail
            exact hK.out _ _ ⟨y0, y1, y2, y3, y4, y5, y6, y7, y8, y9, y10, y11, y12, y13, true, y15, y16, y17, y18, y19, y20, y21, y22, y23, t24, t25, t26, t27, t28, t29, t30, t31, t32, t33, t34, t35, _, t37, .int .i64 q, t39, t40, t41, t42, t43, t44, t45, t46, t47, undef, rfl, Or.inl ⟨rfl, ⟨{ h with o14 := fun _ => rfl, d15_14 := fun _ => rfl }, rfl⟩⟩⟩
          · obtain ⟨h, rfl⟩ := h
            have e12 : y12 = true := by
              revert hc
              cases y12 <;> simp [Region.binds]
            have e13 : y13 = true := by
              revert hc
              cases y13 <;> simp [Region.binds]
            have e14 : y14 = true := by
              revert hc
              cases y14 <;> simp [Region.binds]
            have r12 := h.o12 e12
            subst r12
            have r13 := h.o13 e13
            subst r13
            have r14 := h.o14 e14
            subst r14
            clear hc hi
            refine wpOp_step rfl (fun K hK0 => ?_)
            have hK : Hid _ := hK0
            clear hK0
            rw [if_pos (by rfl)]
            go_wp2_with fail
            exact hK.out _ _ ⟨y0, y1, y2, y3, y4, y5, y6, y7, y8, y9, y10, y11, y12, y13, y14, true, y16, y17, y18, y19, y20, y21, y22, y23, t24, t25, t26, t27, t28, t29, t30, t31, t32, t33, t34, t35, _, _, _, .bool false, t40, t41, t42, t43, t44, t45, t46, t47, undef, rfl, Or.inl ⟨rfl, ⟨{ h with o15 := fun _ => rfl, d15_13 := fun _ => e13, d15_14 := fun _ => e14, d16_15 := fun _ => rfl }, rfl⟩⟩⟩
          · obtain ⟨h, rfl⟩ := h
            have e12 : y12 = true := by
              revert hc
              cases y12 <;> simp [Region.binds]
            have e15 : y15 = true := by
              revert hc
              cases y15 <;> simp [Region.binds]
            have r12 := h.o12 e12
            subst r12
            have r15 := h.o15 e15
            subst r15
            clear hc hi
            refine wpOp_step rfl (fun K hK0 => ?_)
            have hK : Hid _ := hK0
            clear hK0
            rw [if_pos (by rfl)]
            go_wp2_with fail
            exact hK.out _ _ ⟨y0, y1, y2, y3, y4, y5, y6, y7, y8, y9, y10, y11, y12, y13, y14, y15, true, y17, y18, y19, y20, y21, y22, y23, t24, t25, t26, t27, t28, t29, t30, t31, t32, t33, t34, t35, _, t37, t38, _, .bool false, t41, t42, t43, t44, t45, t46, t47, undef, rfl, Or.inl ⟨rfl, ⟨{ h with o16 := fun _ => rfl, d16_15 := fun _ => e15, d17_16 := fun _ => rfl }, rfl⟩⟩⟩
          · obtain ⟨h, rfl⟩ := h
            have e12 : y12 = true := by
              revert hc
              cases y12 <;> simp [Region.binds]
            have e16 : y16 = true := by
              revert hc
              cases y16 <;> simp [Region.binds]
            have r16 := h.o16 e16
            subst r16
            clear hc hi
            refine wpOp_step rfl (fun K hK0 => ?_)
            have hK : Hid _ := hK0
            clear hK0
            rw [if_pos (by rfl)]
            go_wp2_with fail
            exact hK.out _ _ ⟨y0, y1, y2, y3, y4, y5, y6, y7, y8, y9, y10, y11, y12, y13, y14, y15, y16, true, y18, y19, y20, y21, y22, y23, t24, t25, t26, t27, t28, t29, t30, t31, t32, t33, t34, t35, t36, t37, t38, t39, _, .bool false, t42, t43, t44, t45, t46, t47, undef, rfl, Or.inl ⟨rfl, ⟨{ h with o17 := fun _ => rfl, d17_12 := fun _ => e12, d17_16 := fun _ => e16 }, rfl⟩⟩⟩
          · obtain ⟨h, rfl⟩ := h
            have e17 : y17 = true := by
              revert hc
              cases y17 <;> simp [Region.binds]
            have r17 := h.o17 e17
            subst r17
            clear hc hi
            refine wpOp_step rfl (fun K hK0 => ?_)
            have hK : Hid _ := hK0
            clear hK0
            rw [if_pos (by rfl)]
            go_wp2_with fail
            exact hK.out _ _ ⟨y0, y1, y2, y3, y4, y5, y6, y7, y8, y9, y10, y11, y12, y13, y14, y15, y16, y17, true, y19, y20, y21, y22, y23, t24, t25, t26, t27, t28, t29, t30, t31, t32, t33, t34, t35, t36, t37, t38, t39, t40, _, .pointer (some ⟨X, 0, none⟩), t43, t44, t45, t46, t47, undef, rfl, Or.inl ⟨rfl, ⟨{ h with o18 := fun _ => rfl, d19_18 := fun _ => rfl }, rfl⟩⟩⟩
          · obtain ⟨h, rfl⟩ := h
            have e17 : y17 = true := by
              revert hc
              cases y17 <;> simp [Region.binds]
            have e18 : y18 = true := by
              revert hc
              cases y18 <;> simp [Region.binds]
            have r17 := h.o17 e17
            subst r17
            have r18 := h.o18 e18
            subst r18
            clear hc hi
            have kd0 := (KX.below h.bel KX.lt).at 0
            have kd1 := (KX.below h.bel KX.lt).at 1
            have kd2 := (KX.below h.bel KX.lt).at 2
            have kd3 := (KX.below h.bel KX.lt).at 3
            simp at kd0 kd1 kd2 kd3
            refine wpOp_step rfl (fun K hK0 => ?_)
            have hK : Hid _ := hK0
            clear hK0
            rw [if_pos (by rfl)]
            go_wp2_with fail
            exact hK.out _ _ ⟨y0, y1, y2, y3, y4, y5, y6, y7, y8, y9, y10, y11, y12, y13, y14, y15, y16, y17, y18, true, y20, y21, y22, y23, t24, t25, t26, t27, t28, t29, t30, t31, t32, t33, t34, t35, t36, t37, t38, t39, t40, _, _, .agg #[.string s, .int .i64 f, .slice (some ⟨g, 0, none⟩) rs.length c, .slice va.1 va.2.1 va.2.2], t44, t45, t46, t47, undef, rfl, Or.inl ⟨rfl, ⟨{ h with o19 := fun _ => rfl, d19_18 := fun _ => e18, d22_19 := fun _ => rfl }, rfl⟩⟩⟩
          · obtain ⟨h, rfl⟩ := h
            have e17 : y17 = true := by
              revert hc
              cases y17 <;> simp [Region.binds]
            have r17 := h.o17 e17
            subst r17
            clear hc hi
            refine wpOp_step rfl (fun K hK0 => ?_)
            have hK : Hid _ := hK0
            clear hK0
            rw [if_pos (by rfl)]
            go_wp2_with fail
            exact hK.out _ _ ⟨y0, y1, y2, y3, y4, y5, y6, y7, y8, y9, y10, y11, y12, y13, y14, y15, y16, y17, y18, y19, true, y21, y22, y23, t24, t25, t26, t27, t28, t29, t30, t31, t32, t33, t34, t35, t36, t37, t38, t39, t40, _, t42, t43, .pointer (some ⟨w.heap.size, 0, none⟩), t45, t46, t47, undef, rfl, Or.inl ⟨rfl, ⟨{ h with o20 := fun _ => rfl, d21_20 := fun _ => rfl }, rfl⟩⟩⟩
          · obtain ⟨h, rfl⟩ := h
            have e17 : y17 = true := by
              revert hc
              cases y17 <;> simp [Region.binds]
            have e20 : y20 = true := by
              revert hc
              cases y20 <;> simp [Region.binds]
            have r17 := h.o17 e17
            subst r17
            have r20 := h.o20 e20
            subst r20
            clear hc hi
            have kd0 := (K0.below h.bel K0.lt).at 0
            have kd1 := (K0.below h.bel K0.lt).at 1
            have kd2 := (K0.below h.bel K0.lt).at 2
            have kd3 := (K0.below h.bel K0.lt).at 3
            simp at kd0 kd1 kd2 kd3
            refine wpOp_step rfl (fun K hK0 => ?_)
            have hK : Hid _ := hK0
            clear hK0
            rw [if_pos (by rfl)]
            go_wp2_with fail
            exact hK.out _ _ ⟨y0, y1, y2, y3, y4, y5, y6, y7, y8, y9, y10, y11, y12, y13, y14, y15, y16, y17, y18, y19, y20, true, y22, y23, t24, t25, t26, t27, t28, t29, t30, t31, t32, t33, t34, t35, t36, t37, t38, t39, t40, _, t42, t43, _, .agg #[.string s, .int .i64 f, .slice ar rs.length cr, .slice az sel.length cs], t46, t47, undef, rfl, Or.inl ⟨rfl, ⟨{ h with o21 := fun _ => rfl, d21_20 := fun _ => e20, d22_21 := fun _ => rfl }, rfl⟩⟩⟩
          · obtain ⟨h, rfl⟩ := h
            have e17 : y17 = true := by
              revert hc
              cases y17 <;> simp [Region.binds]
            have e19 : y19 = true := by
              revert hc
              cases y19 <;> simp [Region.binds]
            have e21 : y21 = true := by
              revert hc
              cases y21 <;> simp [Region.binds]
            have r17 := h.o17 e17
            subst r17
            have r19 := h.o19 e19
            subst r19
            have r21 := h.o21 e21
            subst r21
            clear hc hi
            refine wpOp_step rfl (fun K hK0 => ?_)
            have hK : Hid _ := hK0
            clear hK0
            rw [if_pos (by rfl)]
            go_wp2_with (first | (go_at_call 11; go_must (refine (C46 x h.bel).mono ?_; rintro e x2 ⟨rfl, bb⟩)) | fail)
            exact hK.out _ _ ⟨y0, y1, y2, y3, y4, y5, y6, y7, y8, y9, y10, y11, y12, y13, y14, y15, y16, y17, y18, y19, y20, y21, true, y23, t24, t25, t26, t27, t28, t29, t30, t31, t32, t33, t34, t35, t36, t37, t38, t39, t40, _, t42, _, t44, _, _, t47, undef, rfl, Or.inl ⟨rfl, ⟨{ h.grow bb with o22 := fun _ => rfl, d22_19 := fun _ => e19, d22_21 := fun _ => e21, d23_22 := fun _ => rfl }, rfl⟩⟩⟩
          · obtain ⟨h, rfl⟩ := h
            have e17 : y17 = true := by
              revert hc
              cases y17 <;> simp [Region.binds]
            have e22 : y22 = true := by
              revert hc
              cases y22 <;> simp [Region.binds]
            have r17 := h.o17 e17
            subst r17
            have r22 := h.o22 e22
            subst r22
            clear hc hi
            refine wpOp_step rfl (fun K hK0 => ?_)
            have hK : Hid _ := hK0
            clear hK0
            rw [if_pos (by rfl)]
            go_wp2_with fail
            exact hK.out _ _ ⟨y0, y1, y2, y3, y4, y5, y6, y7, y8, y9, y10, y11, y12, y13, y14, y15, y16, y17, y18, y19, y20, y21, y22, true, t24, t25, t26, t27, t28, t29, t30, t31, t32, t33, t34, t35, t36, t37, t38, t39, t40, _, t42, t43, t44, t45, _, .bool false, undef, rfl, Or.inl ⟨rfl, ⟨{ h with o23 := fun _ => rfl, d23_22 := fun _ => e22 }, rfl⟩⟩⟩
          · obtain ⟨h, rfl⟩ := h
            have e17 : y17 = true := by
              revert hc
              cases y17 <;> simp [Region.binds]
            have e23 : y23 = true := by
              revert hc
              cases y23 <;> simp [Region.binds]
            have e12 := h.d17_12 e17
            have e16 := h.d17_16 e17
            have e22 := h.d23_22 e23
            have e9 := h.d12_9 e12
            have e11 := h.d12_11 e12
            have e15 := h.d16_15 e16
            have e19 := h.d22_19 e22
            have e21 := h.d22_21 e22
            have e5 := h.d9_5 e9
            have e7 := h.d9_7 e9
            have e8 := h.d9_8 e9
            have e10 := h.d11_10 e11
            have e13 := h.d15_13 e15
            have e14 := h.d15_14 e15
            have e18 := h.d19_18 e19
            have e20 := h.d21_20 e21
            have e2 := h.d5_2 e5
            have e4 := h.d5_4 e5
            have e6 := h.d7_6 e7
            have e1 := h.d2_1 e2
            have e3 := h.d4_3 e4
            have e0 := h.d1_0 e1
            have r17 := h.o17 e17
            subst r17
            have r23 := h.o23 e23
            subst r23
            clear hc hi
            subst e0 e1 e2 e3 e4 e5 e6 e7 e8 e9 e10 e11 e12 e13 e14 e15 e16 e17 e18 e19 e20 e21 e22 e23
            have bl := h.bel
            clear h
            refine wpOp_step rfl (fun K hK0 => ?_)
            have hK : Hid _ := hK0
            clear hK0
            rw [if_pos (by rfl)]
            go_wp2_with fail
            exact hK.out _ _ ⟨true, true, true, true, true, true, true, true, true, true, true, true, true, true, true, true, true, true, true, true, true, true, true, true, t24, t25, t26, t27, t28, t29, t30, t31, t32, t33, t34, t35, t36, t37, t38, t39, t40, _, t42, t43, t44, t45, t46, _, _, rfl, Or.inr (⟨rfl, rfl, bl⟩)⟩
        · rcases (show i = 0 ∨ i = 1 ∨ i = 2 ∨ i = 3 ∨ i = 4 ∨ i = 5 ∨ i = 6 ∨ i = 7 ∨ i = 8 ∨ i = 9 ∨ i = 10 ∨ i = 11 ∨ i = 12 ∨ i = 13 ∨ i = 14 ∨ i = 15 ∨ i = 16 ∨ i = 17 ∨ i = 18 ∨ i = 19 ∨ i = 20 ∨ i = 21 ∨ i = 22 ∨ i = 23 ∨ i = 24 by omega) with rfl | rfl | rfl | rfl | rfl | rfl | rfl | rfl | rfl | rfl | rfl | rfl | rfl | rfl | rfl | rfl | rfl | rfl | rfl | rfl | rfl | rfl | rfl | rfl | rfl <;> simp at hc
      · rintro listed a x ⟨y0, y1, y2, y3, y4, y5, y6, y7, y8, y9, y10, y11, y12, y13, y14, y15, y16, y17, y18, y19, y20, y21, y22, y23, t24, t25, t26, t27, t28, t29, t30, t31, t32, t33, t34, t35, t36, t37, t38, t39, t40, t41, t42, t43, t44, t45, t46, t47, z48, rfl, h⟩ hn
        have al := all_listed (by decide +kernel) hn
        rcases h with ⟨rfl, h⟩ | ⟨rfl, h⟩
        · have z := al 24 (by decide)
          simp at z
        · obtain ⟨rfl, bl⟩ := h
          refine hJ _ _ ?_
          go_meet
          case rel => exact ⟨rfl, bl⟩
      · exact ⟨false, false, false, false, false, false, false, false, false, false, false, false, false, false, false, false, false, false, false, false, false, false, false, false, undef, undef, undef, undef, undef, undef, undef, undef, undef, undef, undef, undef, undef, undef, undef, undef, undef, undef, undef, undef, undef, undef, undef, undef, undef, rfl, Or.inl ⟨rfl, ⟨{ bel := (Below.refl _ _).drew, o0 := (by intro q; cases q), o1 := (by intro q; cases q), o2 := (by intro q; cases q), o3 := (by intro q; cases q), o4 := (by intro q; cases q), o5 := (by intro q; cases q), o6 := (by intro q; cases q), o7 := (by intro q; cases q), o8 := (by intro q; cases q), o9 := (by intro q; cases q), o10 := (by intro q; cases q), o11 := (by intro q; cases q), o12 := (by intro q; cases q), o13 := (by intro q; cases q), o14 := (by intro q; cases q), o15 := (by intro q; cases q), o16 := (by intro q; cases q), o17 := (by intro q; cases q), o18 := (by intro q; cases q), o19 := (by intro q; cases q), o20 := (by intro q; cases q), o21 := (by intro q; cases q), o22 := (by intro q; cases q), o23 := (by intro q; cases q), d1_0 := (by intro q; cases q), d2_1 := (by intro q; cases q), d4_3 := (by intro q; cases q), d5_2 := (by intro q; cases q), d5_4 := (by intro q; cases q), d7_6 := (by intro q; cases q), d9_5 := (by intro q; cases q), d9_7 := (by intro q; cases q), d9_8 := (by intro q; cases q), d11_10 := (by intro q; cases q), d12_9 := (by intro q; cases q), d12_11 := (by intro q; cases q), d15_13 := (by intro q; cases q), d15_14 := (by intro q; cases q), d16_15 := (by intro q; cases q), d17_12 := (by intro q; cases q), d17_16 := (by intro q; cases q), d19_18 := (by intro q; cases q), d21_20 := (by intro q; cases q), d22_19 := (by intro q; cases q), d22_21 := (by intro q; cases q), d23_22 := (by intro q; cases q) }, rfl⟩⟩⟩
    case rest =>
      rename World => wE
      obtain ⟨rfl, bE⟩ := hcut
      have KE := K0.below bE K0.lt
      have p0 := KE.at 0
      have p1 := KE.at 1
      have p2 := KE.at 2
      have p3 := KE.at 3
      simp at p0 p1 p2 p3
      have pE := bel' p4 bE
      clear C26 C31 C33 C46 K0 KX
      by_cases hz : q = 0
      · subst hz
        obtain ⟨_, h2, _⟩ := of_chk_0 HQ.out
        have em := HM.out
        rw [HQ.out, if_pos rfl] at em
        have LA := fun x => RLast_any s f ar rs.length cr (.slice az sel.length cs) x h2.1 h2.2.1 hr.2.2
        rw [em] at LA
        clear em h2 HM
        go_wp2_with (first | (go_at_call 12; go_must (refine (LA _).mono ?_; rintro e w5 ⟨rfl, b5⟩)) | fail)
        go_ret
        exact ⟨rfl, bel' pE b5⟩
      · have em := HM.out
        rw [HQ.out, if_neg hz] at em
        subst em
        have hz' : (q != 0) = true := by rw [bne_iff_ne]; exact hz
        have hz2 : (q == 0) = false := by rw [beq_eq_false_iff_ne]; exact hz
        clear HM HQ hz
        go_wp2_with fail
        go_ret
        exact ⟨rfl, pE⟩
end Go.Proofs.Ytachlkcoghkjnaa.Ta
