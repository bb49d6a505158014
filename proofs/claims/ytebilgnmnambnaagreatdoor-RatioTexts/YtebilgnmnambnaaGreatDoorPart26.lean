import Derived.Test.YtebilgnmnambnaaGreatDoorPart25
import Derived.Test.YtebilgnmnambnaaGreatDoorPart06
import Derived.Deep.DeepCutAuto

namespace Go.Proofs.YtebilgnmnambnaaGreatDoor.Mo
open Go.RowKit Tn
theorem add_sum {X S' W : List Int} {n h : Nat} {V P T c : Int} (lX : X.length = n) (vX : val X = V) (vW : val W = P) (hh : h ≤ n) (hT : T = V + pw h * P) (lt : T < pw n) (wX : Wd X) (wS : Wd S') (lS : S'.length = n - h) (c0 : 0 ≤ c) (hs : val S' + pw (n - h) * c = val (X.drop h) + val W) :
    Wd (spl X h (n - h) S') ∧ (spl X h (n - h) S').length = n ∧ val (spl X h (n - h) S') = T := by
  have sp := val_split X h (by omega)
  have pp : pw n = pw h * pw (n - h) := by rw [← pw_add]; congr 1; omega
  have hp := pw_pos h
  have hp2 := pw_pos (n - h)
  have t0 := val_nonneg (wX.take h)
  have s0 := val_nonneg wS
  have key : pw h * (val (X.drop h) + val W) < pw h * pw (n - h) := by
    rw [← pp, Int.mul_add, vW]
    omega
  have key2 : val (X.drop h) + val W < pw (n - h) := Int.lt_of_mul_lt_mul_left key (Int.le_of_lt hp)
  have cz : c = 0 := by
    by_cases c1 : c = 0
    · exact c1
    · have : pw (n - h) * 1 ≤ pw (n - h) * c := Int.mul_le_mul_of_nonneg_left (by omega) (by omega)
      omega
  subst cz
  simp only [Int.mul_zero, Int.add_zero] at hs
  refine ⟨wd_spl wX wS _ _, by rw [spl_len (by omega) lS]; exact lX, ?_⟩
  rw [val_spl (by omega) lS, vX, List.take_of_length_le (by rw [List.length_drop]; omega), hs, hT, vW]
  grind
theorem copy_two {X Y Yh : List Int} {n k : Nat} {V U : Int} (hX : Y ++ (List.replicate n 0).drop Y.length = X) (lY : Y.length ≤ k) (hk : k ≤ n) (vY : val Y = V) (vU : val Yh = U) (lU : Yh.length ≤ n - k) (wY : Wd Y) (wU : Wd Yh) :
    X.length = n ∧ Wd X ∧ (Yh ++ (X.drop k).drop Yh.length).length = n - k ∧ Wd (spl X k (n - k) (Yh ++ (X.drop k).drop Yh.length)) ∧ (spl X k (n - k) (Yh ++ (X.drop k).drop Yh.length)).length = n ∧ val (spl X k (n - k) (Yh ++ (X.drop k).drop Yh.length)) = V + pw k * U := by
  have eX : X = Y ++ List.replicate (n - Y.length) 0 := by rw [← hX, List.drop_replicate]
  have lX : X.length = n := by rw [eX]; simp; omega
  have dX : X.drop k = List.replicate (n - k) 0 := by
    rw [eX, List.drop_append, List.drop_of_length_le (by omega), List.nil_append, List.drop_replicate]
    congr 1; omega
  have wX : Wd X := by rw [eX]; exact wY.append (Wd.zeros _)
  have vX : val X = V := by rw [eX, val_append, val_zeros, vY]; simp
  rw [dX, List.drop_replicate]
  have lS : (Yh ++ List.replicate (n - k - Yh.length) 0).length = n - k := by simp; omega
  have wS : Wd (Yh ++ List.replicate (n - k - Yh.length) 0) := wU.append (Wd.zeros _)
  refine ⟨lX, wX, lS, wd_spl wX wS _ _, by rw [spl_len (by omega) lS]; exact lX, ?_⟩
  rw [val_spl (by omega) lS, vX, dX, List.take_of_length_le (by simp), val_append, val_zeros, val_zeros, vU]
  simp
structure MH3 (W x : World) (V0 V1 V3 V4 : Value) (N2 N5 : Int) (y0 y1 y2 y3 y4 y5 y6 y7 : Bool) (t27 t28 t29 t30 t31 t32 t11 t12 : Value) : Prop where
  bel : Below W.heap.size W x
  o0 : y0 = true → t27 = V0
  o1 : y1 = true → t28 = V1
  o3 : y3 = true → t30 = V3
  o4 : y4 = true → t31 = V4
  o2 : y2 = true → NV N2 t29 x
  o5 : y5 = true → NV N5 t32 x
  o6 : y6 = true → ∃ X, t11 = .pointer (some ⟨X, 0, none⟩) ∧ W.heap.size ≤ X ∧ Blk x X #[.slice none 0 0] 65
  o7 : y7 = true → ∃ X, t12 = .pointer (some ⟨X, 0, none⟩) ∧ W.heap.size ≤ X ∧ Blk x X #[.slice none 0 0] 65
  ne6_7 : y6 = true → y7 = true → t11 ≠ t12
  d5_3 : y5 = true → y3 = true
  d5_4 : y5 = true → y4 = true
theorem MH3.grow {W x x' : World} {V0 V1 V3 V4 : Value} {N2 N5 : Int} {y0 y1 y2 y3 y4 y5 y6 y7 : Bool} {t27 t28 t29 t30 t31 t32 t11 t12 : Value} (h : MH3 W x V0 V1 V3 V4 N2 N5 y0 y1 y2 y3 y4 y5 y6 y7 t27 t28 t29 t30 t31 t32 t11 t12) (b : Below x.heap.size x x') : MH3 W x' V0 V1 V3 V4 N2 N5 y0 y1 y2 y3 y4 y5 y6 y7 t27 t28 t29 t30 t31 t32 t11 t12 where
  bel := bel' h.bel b
  o0 := h.o0
  o1 := h.o1
  o3 := h.o3
  o4 := h.o4
  o2 := fun u => (h.o2 u).grow b
  o5 := fun u => (h.o5 u).grow b
  o6 := fun u => by obtain ⟨k, e, l, K⟩ := h.o6 u; exact ⟨k, e, l, K.below b K.lt⟩
  o7 := fun u => by obtain ⟨k, e, l, K⟩ := h.o7 u; exact ⟨k, e, l, K.below b K.lt⟩
  ne6_7 := h.ne6_7
  d5_3 := h.d5_3
  d5_4 := h.d5_4
structure MH4 (W x : World) (V0 V1 V3 V4 V7 V9 : Value) (N2 N5 N6 N8 N10 : Int) (y0 y1 y2 y3 y4 y5 y6 y7 y8 y9 y10 y11 : Bool) (t33 t34 t35 t36 t37 t38 t39 t40 t41 t42 t43 t13 : Value) : Prop where
  bel : Below W.heap.size W x
  o0 : y0 = true → t33 = V0
  o1 : y1 = true → t34 = V1
  o3 : y3 = true → t36 = V3
  o4 : y4 = true → t37 = V4
  o7 : y7 = true → t40 = V7
  o9 : y9 = true → t42 = V9
  o2 : y2 = true → NV N2 t35 x
  o5 : y5 = true → NV N5 t38 x
  o6 : y6 = true → NV N6 t39 x
  o8 : y8 = true → NV N8 t41 x
  o10 : y10 = true → NV N10 t43 x
  o11 : y11 = true → ∃ X, t13 = .pointer (some ⟨X, 0, none⟩) ∧ W.heap.size ≤ X ∧ Blk x X #[.slice none 0 0] 65
theorem MH4.grow {W x x' : World} {V0 V1 V3 V4 V7 V9 : Value} {N2 N5 N6 N8 N10 : Int} {y0 y1 y2 y3 y4 y5 y6 y7 y8 y9 y10 y11 : Bool} {t33 t34 t35 t36 t37 t38 t39 t40 t41 t42 t43 t13 : Value} (h : MH4 W x V0 V1 V3 V4 V7 V9 N2 N5 N6 N8 N10 y0 y1 y2 y3 y4 y5 y6 y7 y8 y9 y10 y11 t33 t34 t35 t36 t37 t38 t39 t40 t41 t42 t43 t13) (b : Below x.heap.size x x') : MH4 W x' V0 V1 V3 V4 V7 V9 N2 N5 N6 N8 N10 y0 y1 y2 y3 y4 y5 y6 y7 y8 y9 y10 y11 t33 t34 t35 t36 t37 t38 t39 t40 t41 t42 t43 t13 where
  bel := bel' h.bel b
  o0 := h.o0
  o1 := h.o1
  o3 := h.o3
  o4 := h.o4
  o7 := h.o7
  o9 := h.o9
  o2 := fun u => (h.o2 u).grow b
  o5 := fun u => (h.o5 u).grow b
  o6 := fun u => (h.o6 u).grow b
  o8 := fun u => (h.o8 u).grow b
  o10 := fun u => (h.o10 u).grow b
  o11 := fun u => by obtain ⟨k, e, l, K⟩ := h.o11 u; exact ⟨k, e, l, K.below b K.lt⟩
set_option maxHeartbeats 6400000 in
set_option maxRecDepth 100000 in
theorem mulByHalves_raw (a1 a2 : Option Addr) (l1 c1 l2 c2 h : Nat) (AL AH BL BH Lw Hg SA SB MM M1 Md T : Int) (w : World) (hb : l1 + l2 ≤ 1099511627776) (h0 : 0 < h) (hh : 2 * h < l1 + l2)
    (CC1 : ∀ x, Below w.heap.size w x → Calls Tryz.prog 167 #[.agg #[.slice a1 l1 c1], .int .i64 h] x fun e w' => ∃ (p : Option Addr × Option Addr) (m q : Nat × Nat), e = .returned (.tuple #[.agg #[.slice p.1 m.1 q.1], .agg #[.slice p.2 m.2 q.2]]) ∧ (Nn w' p.1 m.1 q.1 AL ∧ Nn w' p.2 m.2 q.2 AH) ∧ Below x.heap.size x w')
    (CC2 : ∀ x, Below w.heap.size w x → Calls Tryz.prog 167 #[.agg #[.slice a2 l2 c2], .int .i64 h] x fun e w' => ∃ (p : Option Addr × Option Addr) (m q : Nat × Nat), e = .returned (.tuple #[.agg #[.slice p.1 m.1 q.1], .agg #[.slice p.2 m.2 q.2]]) ∧ (Nn w' p.1 m.1 q.1 BL ∧ Nn w' p.2 m.2 q.2 BH) ∧ Below x.heap.size x w')
    (HL : ∀ x a l c a' l' c', Nn x a l c AL → Nn x a' l' c' BL → Calls Tryz.prog 64 #[.agg #[.slice a l c], .agg #[.slice a' l' c']] x fun e w' => ∃ a l c, e = .returned (.agg #[.slice a l c]) ∧ Nn w' a l c (Lw) ∧ Below x.heap.size x w')
    (HH : ∀ x a l c a' l' c', Nn x a l c AH → Nn x a' l' c' BH → Calls Tryz.prog 64 #[.agg #[.slice a l c], .agg #[.slice a' l' c']] x fun e w' => ∃ a l c, e = .returned (.agg #[.slice a l c]) ∧ Nn w' a l c (Hg) ∧ Below x.heap.size x w')
    (HA1 : ∀ x a l c a' l' c', Nn x a l c AL → Nn x a' l' c' AH → Calls Tryz.prog 119 #[.agg #[.slice a l c], .agg #[.slice a' l' c']] x fun e w' => ∃ a l c, e = .returned (.agg #[.slice a l c]) ∧ Nn w' a l c (SA) ∧ Below x.heap.size x w')
    (HA2 : ∀ x a l c a' l' c', Nn x a l c BL → Nn x a' l' c' BH → Calls Tryz.prog 119 #[.agg #[.slice a l c], .agg #[.slice a' l' c']] x fun e w' => ∃ a l c, e = .returned (.agg #[.slice a l c]) ∧ Nn w' a l c (SB) ∧ Below x.heap.size x w')
    (HM : ∀ x a l c a' l' c', Nn x a l c SA → Nn x a' l' c' SB → Calls Tryz.prog 64 #[.agg #[.slice a l c], .agg #[.slice a' l' c']] x fun e w' => ∃ a l c, e = .returned (.agg #[.slice a l c]) ∧ Nn w' a l c (MM) ∧ Below x.heap.size x w')
    (HS1 : ∀ x a l c a' l' c', Nn x a l c MM → Nn x a' l' c' Lw → Calls Tryz.prog 145 #[.agg #[.slice a l c], .agg #[.slice a' l' c']] x fun e w' => ∃ a l c, e = .returned (.agg #[.slice a l c]) ∧ Nn w' a l c (M1) ∧ Below x.heap.size x w')
    (HS2 : ∀ x a l c a' l' c', Nn x a l c M1 → Nn x a' l' c' Hg → Calls Tryz.prog 145 #[.agg #[.slice a l c], .agg #[.slice a' l' c']] x fun e w' => ∃ a l c, e = .returned (.agg #[.slice a l c]) ∧ Nn w' a l c (Md) ∧ Below x.heap.size x w')
    (hT : T = Lw + pw (2 * h) * Hg + pw h * Md) (lt : T < pw (l1 + l2)) (ltL : Lw < pw (2 * h)) (ltH : Hg < pw (l1 + l2 - 2 * h)) (ltM : Md < pw (l1 + l2 - h)) :
    Calls Tryz.prog 122 #[.agg #[.slice a1 l1 c1], .agg #[.slice a2 l2 c2], .int .i64 h] w fun e w' => ∃ a l c, e = .returned (.agg #[.slice a l c]) ∧ Nn w' a l c T ∧ Below w.heap.size w w' ∧ FrA w.heap.size (.slice a l c) := by
  have KA := ((Bx.new w (.slice a1 l1 c1) 65).alloc (.cells #[.slice a2 l2 c2] 65)).alloc (.cells #[.slice none 0 0] 65)
  have KB := (Bx.new (w.alloc (.cells #[.slice a1 l1 c1] 65)) (.slice a2 l2 c2) 65).alloc (.cells #[.slice none 0 0] 65)
  have KR := Bx.new ((w.alloc (.cells #[.slice a1 l1 c1] 65)).alloc (.cells #[.slice a2 l2 c2] 65)) (.slice none 0 0) 65
  have pr : Below w.heap.size w (((w.alloc (.cells #[.slice a1 l1 c1] 65)).alloc (.cells #[.slice a2 l2 c2] 65)).alloc (.cells #[.slice none 0 0] 65)) := (((Below.refl _ _).alloc (Nat.le_refl _) _).alloc (by simp) _).alloc (by simp; omega) _
  simp only [World.size_alloc] at KB KR
  obtain ⟨n, hn⟩ : ∃ n, l1 + l2 = n := ⟨_, rfl⟩
  obtain ⟨h2, hh2⟩ : ∃ k, 2 * h = k := ⟨_, rfl⟩
  have wn : IntKind.i64.wrap ((l1 : Int) + (l2 : Int)) = (n : Int) := by rw [← hn]; rw [IntWalk.i64_in _ (by omega)]; push_cast; first | done | rfl
  have w2 : IntKind.i64.wrap (2 * (h : Int)) = (h2 : Int) := by rw [← hh2]; rw [IntWalk.i64_in _ (by omega)]; push_cast; first | done | rfl
  rw [hn, hh2] at hh
  rw [hn] at hb
  have hhn : h < n := by omega
  have HT : Hid (T = Lw + pw h2 * Hg + pw h * Md ∧ T < pw n ∧ Lw < pw h2 ∧ Hg < pw (n - h2) ∧ Md < pw (n - h)) := by subst hn; subst hh2; exact ⟨hT, lt, ltL, ltH, ltM⟩
  clear hT lt ltL ltH ltM hn hh2
  go_enter Tryz.func122, Tryz.ntmps122
  go_wp2_with fail
  generalize ((w.alloc (.cells #[.slice a1 l1 c1] 65)).alloc (.cells #[.slice a2 l2 c2] 65)).alloc (.cells #[.slice none 0 0] 65) = W at *
  have ka := KA.1
  have kb := KB.1
  go_wp2_with (first
    | (go_at_call 167; (have z := p1); refine (CC2 _ p1).mono ?_; rintro e w2 ⟨s, t, u, rfl, ⟨n2a, n2b⟩, d2⟩; have al2 := ((Below.refl w2.heap.size w2).alloc (Nat.le_refl _) (.cells #[.slice s.1 t.1 u.1] 65)).alloc (by simp) (.cells #[.slice s.2 t.2 u.2] 65); have e2 := bel' d2 al2; have K2l := (Bx.new w2 (.slice s.1 t.1 u.1) 65).alloc (.cells #[.slice s.2 t.2 u.2] 65); have K2h := Bx.new (w2.alloc (.cells #[.slice s.1 t.1 u.1] 65)) (.slice s.2 t.2 u.2) 65; have sz2 : (w2.alloc (.cells #[.slice s.1 t.1 u.1] 65)).heap.size = w2.heap.size + 1 := World.size_alloc _ _; rw [sz2] at K2h; have n2a := n2a.grow al2; have n2b := n2b.grow al2; have KA2 := KA1.below e2; have KB2 := KB1.below e2; have KR2 := KR1.below e2; have KAL := K1l.below e2; have KAH := K1h.below e2; have m1a := n1a.grow e2; have m1b := n1b.grow e2; have p2 := bel' p1 e2)
    | (go_at_call 167; refine (CC1 _ pr).mono ?_; rintro e w1 ⟨p, m, q, rfl, ⟨n1a, n1b⟩, d1⟩; have al1 := ((Below.refl w1.heap.size w1).alloc (Nat.le_refl _) (.cells #[.slice p.1 m.1 q.1] 65)).alloc (by simp) (.cells #[.slice p.2 m.2 q.2] 65); have e1 := bel' d1 al1; have K1l := (Bx.new w1 (.slice p.1 m.1 q.1) 65).alloc (.cells #[.slice p.2 m.2 q.2] 65); have K1h := Bx.new (w1.alloc (.cells #[.slice p.1 m.1 q.1] 65)) (.slice p.2 m.2 q.2) 65; have sz1 : (w1.alloc (.cells #[.slice p.1 m.1 q.1] 65)).heap.size = w1.heap.size + 1 := World.size_alloc _ _; rw [sz1] at K1h; have n1a := n1a.grow al1; have n1b := n1b.grow al1; have KA1 := KA.below e1; have KB1 := KB.below e1; have KR1 := KR.below e1; have p1 := bel' pr e1; have kb1 := KB1.1)
    | fail)
  have hRX : w.heap.size + 1 + 1 < w1.heap.size := by have := KR.lt; have := d1.size; omega
  generalize (w2.alloc (.cells #[.slice s.1 t.1 u.1] 65)).alloc (.cells #[.slice s.2 t.2 u.2] 65) = WA at *
  generalize w1.heap.size = XA at *
  generalize w2.heap.size = XB at *
  have ML : ∀ x, Below WA.heap.size WA x → Calls Tryz.prog 64 #[.agg #[.slice p.1 m.1 q.1], .agg #[.slice s.1 t.1 u.1]] x fun e w' => ∃ a l c, e = .returned (.agg #[.slice a l c]) ∧ Nn w' a l c (Lw) ∧ Below x.heap.size x w' := fun x b => HL x _ _ _ _ _ _ (m1a.grow b) (n2a.grow b)
  have MH : ∀ x, Below WA.heap.size WA x → Calls Tryz.prog 64 #[.agg #[.slice p.2 m.2 q.2], .agg #[.slice s.2 t.2 u.2]] x fun e w' => ∃ a l c, e = .returned (.agg #[.slice a l c]) ∧ Nn w' a l c (Hg) ∧ Below x.heap.size x w' := fun x b => HH x _ _ _ _ _ _ (m1b.grow b) (n2b.grow b)
  have KBL := K2l
  have KBH := K2h
  clear KA KB KR KA1 KB1 KR1 K1l K1h K2l K2h n1a n1b e1 e2 d1 d2 p1 pr ka kb kb1 al1 al2 CC1 CC2 HL HH
  go_cut [11, 12] from 15 to 70 (fun x y wc => ∃ X Y P5 M5 C5 P6 M6 C6, x = .pointer (some ⟨X, 0, none⟩) ∧ y = .pointer (some ⟨Y, 0, none⟩) ∧ X ≠ Y ∧ WA.heap.size ≤ X ∧ WA.heap.size ≤ Y ∧ Below WA.heap.size WA wc ∧ Nn wc P5 M5 C5 Lw ∧ Nn wc P6 M6 C6 Hg ∧ Bx wc X (.slice P5 M5 C5) ∧ Bx wc Y (.slice P6 M6 C6))
  case first =>
    rename_i hm hJ
    refine wp_region_held (S := fun _ => True) (by kernel_rfl) (any_inv (fun listed a x => ∃ (y0 y1 y2 y3 y4 y5 y6 y7 : Bool) (t27 t28 t29 t30 t31 t32 t11 t12 : Value), a = ⟨#[.agg #[.slice a1 l1 c1], .agg #[.slice a2 l2 c2], .int .i64 h, .pointer (some ⟨w.heap.size, 0, none⟩), .pointer (some ⟨w.heap.size + 1, 0, none⟩), undef, .pointer (some ⟨w.heap.size + 1 + 1, 0, none⟩), .pointer (some ⟨XA, 0, none⟩), .pointer (some ⟨XA + 1, 0, none⟩), .pointer (some ⟨XB, 0, none⟩), .pointer (some ⟨XB + 1, 0, none⟩), t11, t12, undef, undef, .tuple #[.agg #[.slice p.1 m.1 q.1], .agg #[.slice p.2 m.2 q.2]], .agg #[.slice a1 l1 c1], .int .i64 h, .tuple #[.agg #[.slice p.1 m.1 q.1], .agg #[.slice p.2 m.2 q.2]], .agg #[.slice p.1 m.1 q.1], .agg #[.slice p.2 m.2 q.2], .tuple #[.agg #[.slice s.1 t.1 u.1], .agg #[.slice s.2 t.2 u.2]], .agg #[.slice a2 l2 c2], .int .i64 h, .tuple #[.agg #[.slice s.1 t.1 u.1], .agg #[.slice s.2 t.2 u.2]], .agg #[.slice s.1 t.1 u.1], .agg #[.slice s.2 t.2 u.2], t27, t28, t29, t30, t31, t32, undef, undef, undef, undef, undef, undef, undef, undef, undef, undef, undef, undef, undef, undef, undef, undef, undef, undef, undef, undef, undef, undef, undef, undef, undef, undef, undef, undef, undef, undef, undef, undef, undef, undef, undef, undef, undef, undef], []⟩ ∧ ((listed = #[y0, y1, y2, y3, y4, y5, y6, y7, false, false] ∧ MH3 WA x (.agg #[.slice p.1 m.1 q.1]) (.agg #[.slice s.1 t.1 u.1]) (.agg #[.slice p.2 m.2 q.2]) (.agg #[.slice s.2 t.2 u.2]) (Lw) (Hg) y0 y1 y2 y3 y4 y5 y6 y7 t27 t28 t29 t30 t31 t32 t11 t12) ∨ (listed = #[true, true, true, true, true, true, true, true, true, false] ∧ ∃ X Y P5 M5 C5 P6 M6 C6, t11 = .pointer (some ⟨X, 0, none⟩) ∧ t12 = .pointer (some ⟨Y, 0, none⟩) ∧ t29 = .agg #[.slice P5 M5 C5] ∧ t32 = .agg #[.slice P6 M6 C6] ∧ X ≠ Y ∧ WA.heap.size ≤ X ∧ WA.heap.size ≤ Y ∧ Below WA.heap.size WA x ∧ Nn x P5 M5 C5 Lw ∧ Nn x P6 M6 C6 Hg ∧ Bx x X (.slice P5 M5 C5) ∧ Bx x Y (.slice none 0 0)) ∨ (listed = #[true, true, true, true, true, true, true, true, true, true] ∧ ∃ X Y P5 M5 C5 P6 M6 C6, t11 = .pointer (some ⟨X, 0, none⟩) ∧ t12 = .pointer (some ⟨Y, 0, none⟩) ∧ t29 = .agg #[.slice P5 M5 C5] ∧ t32 = .agg #[.slice P6 M6 C6] ∧ X ≠ Y ∧ WA.heap.size ≤ X ∧ WA.heap.size ≤ Y ∧ Below WA.heap.size WA x ∧ Nn x P5 M5 C5 Lw ∧ Nn x P6 M6 C6 Hg ∧ Bx x X (.slice P5 M5 C5) ∧ Bx x Y (.slice P6 M6 C6)))) ?_ ?_ _ _ _ _ (by decide) ?_)
    · rintro listed a x i ⟨y0, y1, y2, y3, y4, y5, y6, y7, t27, t28, t29, t30, t31, t32, t11, t12, rfl, h⟩ hi
      have hr : i < 10 := List.mem_range.1 (List.mem_filter.1 hi).1
      have hc := (List.mem_filter.1 hi).2
      rcases h with ⟨rfl, h⟩ | ⟨rfl, h⟩ | ⟨rfl, h⟩
      · rcases (show i = 0 ∨ i = 1 ∨ i = 2 ∨ i = 3 ∨ i = 4 ∨ i = 5 ∨ i = 6 ∨ i = 7 ∨ i = 8 ∨ i = 9 by omega) with rfl | rfl | rfl | rfl | rfl | rfl | rfl | rfl | rfl | rfl
        · clear hc hi
          have kd := (KAL.below h.bel).1
          refine wpOp_go rfl rfl (fun K hK => ?_)
          go_wp2_with fail
          exact hK.out _ _ ⟨true,_,_,_,_,_,_,_,.agg #[.slice p.1 m.1 q.1],_,_,_,_,_,_,_,rfl,Or.inl ⟨rfl, { h with o0 := fun _ => rfl }⟩⟩
        · clear hc hi
          have kd := (KBL.below h.bel).1
          refine wpOp_go rfl rfl (fun K hK => ?_)
          go_wp2_with fail
          exact hK.out _ _ ⟨_,true,_,_,_,_,_,_,_,.agg #[.slice s.1 t.1 u.1],_,_,_,_,_,_,rfl,Or.inl ⟨rfl, { h with o1 := fun _ => rfl }⟩⟩
        · have e0 : y0 = true := by revert hc; cases y0 <;> simp [Region.binds]
          have e1 : y1 = true := by revert hc; cases y1 <;> simp [Region.binds]
          have r0 := h.o0 e0; subst r0
          have r1 := h.o1 e1; subst r1
          clear hc hi
          refine wpOp_go rfl rfl (fun K hK => ?_)
          go_wp2_with (first | (go_at_call 64; go_must (refine (ML x h.bel).mono ?_; rintro e x2 ⟨a9, l9, c9, rfl, H9, bb⟩)) | fail)
          exact hK.out _ _ ⟨_,_,true,_,_,_,_,_,_,_,_,_,_,_,_,_,rfl,Or.inl ⟨rfl, { h.grow bb with o2 := fun _ => ⟨a9, l9, c9, rfl, H9⟩ }⟩⟩
        · clear hc hi
          have kd := (KAH.below h.bel).1
          refine wpOp_go rfl rfl (fun K hK => ?_)
          go_wp2_with fail
          exact hK.out _ _ ⟨_,_,_,true,_,_,_,_,_,_,_,.agg #[.slice p.2 m.2 q.2],_,_,_,_,rfl,Or.inl ⟨rfl, { h with o3 := fun _ => rfl, d5_3 := fun _ => rfl }⟩⟩
        · clear hc hi
          have kd := (KBH.below h.bel).1
          refine wpOp_go rfl rfl (fun K hK => ?_)
          go_wp2_with fail
          exact hK.out _ _ ⟨_,_,_,_,true,_,_,_,_,_,_,_,.agg #[.slice s.2 t.2 u.2],_,_,_,rfl,Or.inl ⟨rfl, { h with o4 := fun _ => rfl, d5_4 := fun _ => rfl }⟩⟩
        · have e3 : y3 = true := by revert hc; cases y3 <;> simp [Region.binds]
          have e4 : y4 = true := by revert hc; cases y4 <;> simp [Region.binds]
          have r3 := h.o3 e3; subst r3
          have r4 := h.o4 e4; subst r4
          clear hc hi
          refine wpOp_go rfl rfl (fun K hK => ?_)
          go_wp2_with (first | (go_at_call 64; go_must (refine (MH x h.bel).mono ?_; rintro e x2 ⟨a9, l9, c9, rfl, H9, bb⟩)) | fail)
          exact hK.out _ _ ⟨_,_,_,_,_,true,_,_,_,_,_,_,_,_,_,_,rfl,Or.inl ⟨rfl, { h.grow bb with o5 := fun _ => ⟨a9, l9, c9, rfl, H9⟩, d5_3 := fun _ => e3, d5_4 := fun _ => e4 }⟩⟩
        · clear hc hi
          refine wpOp_go rfl rfl (fun K hK => ?_)
          go_wp2_with fail
          exact hK.out _ _ ⟨_,_,_,_,_,_,true,_,_,_,_,_,_,_,_,_,rfl,Or.inl ⟨rfl, { h.grow ((Below.refl _ _).alloc (Nat.le_refl _) _) with o6 := fun _ => ⟨_, rfl, h.bel.size, Blk.new _ _ _⟩, ne6_7 := fun _ q => by obtain ⟨Y, e, _, K⟩ := h.o7 q; rw [e]; intro c; cases c; exact absurd K.lt (Nat.lt_irrefl _) }⟩⟩
        · clear hc hi
          refine wpOp_go rfl rfl (fun K hK => ?_)
          go_wp2_with fail
          exact hK.out _ _ ⟨_,_,_,_,_,_,_,true,_,_,_,_,_,_,_,_,rfl,Or.inl ⟨rfl, { h.grow ((Below.refl _ _).alloc (Nat.le_refl _) _) with o7 := fun _ => ⟨_, rfl, h.bel.size, Blk.new _ _ _⟩, ne6_7 := fun q _ => by obtain ⟨Y, e, _, K⟩ := h.o6 q; rw [e]; intro c; cases c; exact absurd K.lt (Nat.lt_irrefl _) }⟩⟩
        · have e0 : y0 = true := by revert hc; cases y0 <;> simp [Region.binds]
          have e1 : y1 = true := by revert hc; cases y1 <;> simp [Region.binds]
          have e2 : y2 = true := by revert hc; cases y2 <;> simp [Region.binds]
          have e5 : y5 = true := by revert hc; cases y5 <;> simp [Region.binds]
          have e6 : y6 = true := by revert hc; cases y6 <;> simp [Region.binds]
          have e7 : y7 = true := by revert hc; cases y7 <;> simp [Region.binds]
          have e3 := h.d5_3 e5
          have e4 := h.d5_4 e5
          obtain ⟨a2, l2, c2, rfl, H2⟩ := h.o2 e2
          obtain ⟨a5, l5, c5, rfl, H5⟩ := h.o5 e5
          obtain ⟨X6, rfl, lX6, K6⟩ := h.o6 e6
          obtain ⟨X7, rfl, lX7, K7⟩ := h.o7 e7
          clear hc hi
          subst e0 e1 e2 e3 e4 e5 e6 e7
          have ne : X6 ≠ X7 := fun c => h.ne6_7 rfl rfl (by rw [c])
          have bl := h.bel
          have xx := K6.at 0
          have xf := K6.free 0
          have KX := Bx.of K6
          have KY := Bx.of K7
          clear h
          refine wpOp_go rfl rfl (fun K hK => ?_)
          go_wp2_with fail
          exact hK.out _ _ ⟨true,true,true,true,true,true,true,true,_,_,_,_,_,_,_,_,rfl,Or.inr (Or.inl ⟨rfl, X6, X7, a2, l2, c2, a5, l5, c5, rfl, rfl, rfl, rfl, ne, lX6, lX7, below_put bl lX6 _, H2.box KX, H5.box KX, KX.set _, KY.wr ((Wr.refl X6 0 1 x).setCell 0 (by omega) _) ne.symm⟩)⟩
        · simp [Region.binds] at hc
      · rcases (show i = 0 ∨ i = 1 ∨ i = 2 ∨ i = 3 ∨ i = 4 ∨ i = 5 ∨ i = 6 ∨ i = 7 ∨ i = 8 ∨ i = 9 by omega) with rfl | rfl | rfl | rfl | rfl | rfl | rfl | rfl | rfl | rfl
        · simp at hc
        · simp at hc
        · simp at hc
        · simp at hc
        · simp at hc
        · simp at hc
        · simp at hc
        · simp at hc
        · simp at hc
        · clear hc hi
          obtain ⟨X, Y, P5, M5, C5, P6, M6, C6, rfl, rfl, rfl, rfl, ne, lX, lY, bl, H5, H6, KX, KY⟩ := h
          have yy := KY.1
          have yf := KY.2
          refine wpOp_go rfl rfl (fun K hK => ?_)
          go_wp2_with fail
          exact hK.out _ _ ⟨true,true,true,true,true,true,true,true,_,_,_,_,_,_,_,_,rfl,Or.inr (Or.inr (⟨rfl, X, Y, P5, M5, C5, P6, M6, C6, rfl, rfl, rfl, rfl, ne, lX, lY, below_put bl lY _, H5.box KY, H6.box KY, KX.wr ((Wr.refl Y 0 1 x).setCell 0 (by omega) _) ne, KY.set _⟩))⟩
      · rcases (show i = 0 ∨ i = 1 ∨ i = 2 ∨ i = 3 ∨ i = 4 ∨ i = 5 ∨ i = 6 ∨ i = 7 ∨ i = 8 ∨ i = 9 by omega) with rfl | rfl | rfl | rfl | rfl | rfl | rfl | rfl | rfl | rfl <;> simp at hc
    · rintro listed a x ⟨y0, y1, y2, y3, y4, y5, y6, y7, t27, t28, t29, t30, t31, t32, t11, t12, rfl, h⟩ hn
      have al := all_listed (by decide +kernel) hn
      rcases h with ⟨rfl, h⟩ | ⟨rfl, h⟩ | ⟨rfl, h⟩
      · have z := al 8 (by decide)
        simp at z
      · have z := al 9 (by decide)
        simp at z
      · obtain ⟨X, Y, P5, M5, C5, P6, M6, C6, rfl, rfl, rfl, rfl, ne, lX, lY, bl, H5, H6, KX, KY⟩ := h
        refine hJ _ _ ?_
        go_meet
        case rel => exact ⟨X, Y, P5, M5, C5, P6, M6, C6, rfl, rfl, ne, lX, lY, bl, H5, H6, KX, KY⟩
    · exact ⟨false, false, false, false, false, false, false, false, undef, undef, undef, undef, undef, undef, undef, undef, rfl, Or.inl ⟨rfl, { bel := (Below.refl _ _).drew, o0 := (by intro q; cases q), o1 := (by intro q; cases q), o2 := (by intro q; cases q), o3 := (by intro q; cases q), o4 := (by intro q; cases q), o5 := (by intro q; cases q), o6 := (by intro q; cases q), o7 := (by intro q; cases q), ne6_7 := (by intro q; cases q), d5_3 := (by intro q; cases q), d5_4 := (by intro q; cases q) }⟩⟩
  case rest =>
    rename World => WB
    obtain ⟨X, Y, P5, M5, C5, P6, M6, C6, rfl, rfl, neXY, lX, lY, bl3, H5, H6, KX, KY⟩ := hcut
    replace KAL := KAL.below bl3
    replace KAH := KAH.below bl3
    replace KBL := KBL.below bl3
    replace KBH := KBH.below bl3
    replace KA2 := KA2.below bl3
    replace KB2 := KB2.below bl3
    replace KR2 := KR2.below bl3
    replace m1a := m1a.grow bl3
    replace m1b := m1b.grow bl3
    replace n2a := n2a.grow bl3
    replace n2b := n2b.grow bl3
    have p3 := bel' p2 bl3
    have CA1 : ∀ x, Below WB.heap.size WB x → Calls Tryz.prog 119 #[.agg #[.slice p.1 m.1 q.1], .agg #[.slice p.2 m.2 q.2]] x fun e w' => ∃ a l c, e = .returned (.agg #[.slice a l c]) ∧ Nn w' a l c (SA) ∧ Below x.heap.size x w' := fun x b => HA1 x _ _ _ _ _ _ (m1a.grow b) (m1b.grow b)
    have CA2 : ∀ x, Below WB.heap.size WB x → Calls Tryz.prog 119 #[.agg #[.slice s.1 t.1 u.1], .agg #[.slice s.2 t.2 u.2]] x fun e w' => ∃ a l c, e = .returned (.agg #[.slice a l c]) ∧ Nn w' a l c (SB) ∧ Below x.heap.size x w' := fun x b => HA2 x _ _ _ _ _ _ (n2a.grow b) (n2b.grow b)
    have CM := HM
    have CS1 : ∀ x a l c, Below WB.heap.size WB x → Nn x a l c MM → Calls Tryz.prog 145 #[.agg #[.slice a l c], .agg #[.slice P5 M5 C5]] x fun e w' => ∃ a l c, e = .returned (.agg #[.slice a l c]) ∧ Nn w' a l c (M1) ∧ Below x.heap.size x w' := fun x a l c b k => HS1 x _ _ _ _ _ _ k (H5.grow b)
    have CS2 : ∀ x a l c, Below WB.heap.size WB x → Nn x a l c M1 → Calls Tryz.prog 145 #[.agg #[.slice a l c], .agg #[.slice P6 M6 C6]] x fun e w' => ∃ a l c, e = .returned (.agg #[.slice a l c]) ∧ Nn w' a l c (Md) ∧ Below x.heap.size x w' := fun x a l c b k => HS2 x _ _ _ _ _ _ k (H6.grow b)
    clear ML MH HA1 HA2 HM HS1 HS2 m1a m1b n2a n2b p2 bl3
    go_upto_region 4 with fail
    go_cut [13] from 15 to 70 (fun z wd => ∃ Z P7 M7 C7, z = .pointer (some ⟨Z, 0, none⟩) ∧ WB.heap.size ≤ Z ∧ Below WB.heap.size WB wd ∧ Nn wd P7 M7 C7 Md ∧ Bx wd Z (.slice P7 M7 C7))
    case first =>
      rename_i hm hJ
      refine wp_region_held (S := fun _ => True) (by kernel_rfl) (any_inv (fun listed a x => ∃ (y0 y1 y2 y3 y4 y5 y6 y7 y8 y9 y10 y11 : Bool) (t33 t34 t35 t36 t37 t38 t39 t40 t41 t42 t43 t13 : Value), a = ⟨#[.agg #[.slice a1 l1 c1], .agg #[.slice a2 l2 c2], .int .i64 h, .pointer (some ⟨w.heap.size, 0, none⟩), .pointer (some ⟨w.heap.size + 1, 0, none⟩), undef, .pointer (some ⟨w.heap.size + 1 + 1, 0, none⟩), .pointer (some ⟨XA, 0, none⟩), .pointer (some ⟨XA + 1, 0, none⟩), .pointer (some ⟨XB, 0, none⟩), .pointer (some ⟨XB + 1, 0, none⟩), .pointer (some ⟨X, 0, none⟩), .pointer (some ⟨Y, 0, none⟩), t13, undef, u15, u16, u17, u18, u19, u20, u21, u22, u23, u24, u25, u26, u27, u28, u29, u30, u31, u32, t33, t34, t35, t36, t37, t38, t39, t40, t41, t42, t43, u44, u45, u46, u47, u48, u49, u50, u51, u52, u53, u54, u55, u56, u57, u58, u59, u60, u61, u62, u63, u64, u65, u66, u67, u68, u69, u70], []⟩ ∧ ((listed = #[y0, y1, y2, y3, y4, y5, y6, y7, y8, y9, y10, y11, false] ∧ MH4 WB x (.agg #[.slice p.1 m.1 q.1]) (.agg #[.slice p.2 m.2 q.2]) (.agg #[.slice s.1 t.1 u.1]) (.agg #[.slice s.2 t.2 u.2]) (.agg #[.slice P5 M5 C5]) (.agg #[.slice P6 M6 C6]) (SA) (SB) (MM) (M1) (Md) y0 y1 y2 y3 y4 y5 y6 y7 y8 y9 y10 y11 t33 t34 t35 t36 t37 t38 t39 t40 t41 t42 t43 t13) ∨ (listed = #[true, true, true, true, true, true, true, true, true, true, true, true, true] ∧ ∃ Z P7 M7 C7, t13 = .pointer (some ⟨Z, 0, none⟩) ∧ WB.heap.size ≤ Z ∧ Below WB.heap.size WB x ∧ Nn x P7 M7 C7 Md ∧ Bx x Z (.slice P7 M7 C7)))) ?_ ?_ _ _ _ _ (by decide) ?_)
      · rintro listed a x i ⟨y0, y1, y2, y3, y4, y5, y6, y7, y8, y9, y10, y11, t33, t34, t35, t36, t37, t38, t39, t40, t41, t42, t43, t13, rfl, h⟩ hi
        have hr : i < 13 := List.mem_range.1 (List.mem_filter.1 hi).1
        have hc := (List.mem_filter.1 hi).2
        rcases h with ⟨rfl, h⟩ | ⟨rfl, h⟩
        · rcases (show i = 0 ∨ i = 1 ∨ i = 2 ∨ i = 3 ∨ i = 4 ∨ i = 5 ∨ i = 6 ∨ i = 7 ∨ i = 8 ∨ i = 9 ∨ i = 10 ∨ i = 11 ∨ i = 12 by omega) with rfl | rfl | rfl | rfl | rfl | rfl | rfl | rfl | rfl | rfl | rfl | rfl | rfl
          · clear hc hi
            have kd := (KAL.below h.bel).1
            refine wpOp_go rfl rfl (fun K hK => ?_)
            go_wp2_with fail
            exact hK.out _ _ ⟨true,_,_,_,_,_,_,_,_,_,_,_,.agg #[.slice p.1 m.1 q.1],_,_,_,_,_,_,_,_,_,_,_,rfl,Or.inl ⟨rfl, { h with o0 := fun _ => rfl }⟩⟩
          · clear hc hi
            have kd := (KAH.below h.bel).1
            refine wpOp_go rfl rfl (fun K hK => ?_)
            go_wp2_with fail
            exact hK.out _ _ ⟨_,true,_,_,_,_,_,_,_,_,_,_,_,.agg #[.slice p.2 m.2 q.2],_,_,_,_,_,_,_,_,_,_,rfl,Or.inl ⟨rfl, { h with o1 := fun _ => rfl }⟩⟩
          · have e0 : y0 = true := by revert hc; cases y0 <;> simp [Region.binds]
            have e1 : y1 = true := by revert hc; cases y1 <;> simp [Region.binds]
            have r0 := h.o0 e0; subst r0
            have r1 := h.o1 e1; subst r1
            clear hc hi
            refine wpOp_go rfl rfl (fun K hK => ?_)
            go_wp2_with (first | (go_at_call 119; go_must (refine (CA1 x h.bel).mono ?_; rintro e x2 ⟨a9, l9, c9, rfl, H9, bb⟩)) | fail)
            exact hK.out _ _ ⟨_,_,true,_,_,_,_,_,_,_,_,_,_,_,_,_,_,_,_,_,_,_,_,_,rfl,Or.inl ⟨rfl, { h.grow bb with o2 := fun _ => ⟨a9, l9, c9, rfl, H9⟩ }⟩⟩
          · clear hc hi
            have kd := (KBL.below h.bel).1
            refine wpOp_go rfl rfl (fun K hK => ?_)
            go_wp2_with fail
            exact hK.out _ _ ⟨_,_,_,true,_,_,_,_,_,_,_,_,_,_,_,.agg #[.slice s.1 t.1 u.1],_,_,_,_,_,_,_,_,rfl,Or.inl ⟨rfl, { h with o3 := fun _ => rfl }⟩⟩
          · clear hc hi
            have kd := (KBH.below h.bel).1
            refine wpOp_go rfl rfl (fun K hK => ?_)
            go_wp2_with fail
            exact hK.out _ _ ⟨_,_,_,_,true,_,_,_,_,_,_,_,_,_,_,_,.agg #[.slice s.2 t.2 u.2],_,_,_,_,_,_,_,rfl,Or.inl ⟨rfl, { h with o4 := fun _ => rfl }⟩⟩
          · have e3 : y3 = true := by revert hc; cases y3 <;> simp [Region.binds]
            have e4 : y4 = true := by revert hc; cases y4 <;> simp [Region.binds]
            have r3 := h.o3 e3; subst r3
            have r4 := h.o4 e4; subst r4
            clear hc hi
            refine wpOp_go rfl rfl (fun K hK => ?_)
            go_wp2_with (first | (go_at_call 119; go_must (refine (CA2 x h.bel).mono ?_; rintro e x2 ⟨a9, l9, c9, rfl, H9, bb⟩)) | fail)
            exact hK.out _ _ ⟨_,_,_,_,_,true,_,_,_,_,_,_,_,_,_,_,_,_,_,_,_,_,_,_,rfl,Or.inl ⟨rfl, { h.grow bb with o5 := fun _ => ⟨a9, l9, c9, rfl, H9⟩ }⟩⟩
          · have e2 : y2 = true := by revert hc; cases y2 <;> simp [Region.binds]
            have e5 : y5 = true := by revert hc; cases y5 <;> simp [Region.binds]
            obtain ⟨a2, l2, c2, rfl, H2⟩ := h.o2 e2
            obtain ⟨a5, l5, c5, rfl, H5⟩ := h.o5 e5
            clear hc hi
            refine wpOp_go rfl rfl (fun K hK => ?_)
            go_wp2_with (first | (go_at_call 64; go_must (refine (CM x a2 l2 c2 a5 l5 c5 H2 H5).mono ?_; rintro e x2 ⟨a9, l9, c9, rfl, H9, bb⟩)) | fail)
            exact hK.out _ _ ⟨_,_,_,_,_,_,true,_,_,_,_,_,_,_,_,_,_,_,_,_,_,_,_,_,rfl,Or.inl ⟨rfl, { h.grow bb with o6 := fun _ => ⟨a9, l9, c9, rfl, H9⟩ }⟩⟩
          · clear hc hi
            have kd := (KX.below h.bel).1
            refine wpOp_go rfl rfl (fun K hK => ?_)
            go_wp2_with fail
            exact hK.out _ _ ⟨_,_,_,_,_,_,_,true,_,_,_,_,_,_,_,_,_,_,_,.agg #[.slice P5 M5 C5],_,_,_,_,rfl,Or.inl ⟨rfl, { h with o7 := fun _ => rfl }⟩⟩
          · have e6 : y6 = true := by revert hc; cases y6 <;> simp [Region.binds]
            have e7 : y7 = true := by revert hc; cases y7 <;> simp [Region.binds]
            obtain ⟨a6, l6, c6, rfl, H6⟩ := h.o6 e6
            have r7 := h.o7 e7; subst r7
            clear hc hi
            refine wpOp_go rfl rfl (fun K hK => ?_)
            go_wp2_with (first | (go_at_call 145; go_must (refine (CS1 x a6 l6 c6 h.bel H6).mono ?_; rintro e x2 ⟨a9, l9, c9, rfl, H9, bb⟩)) | fail)
            exact hK.out _ _ ⟨_,_,_,_,_,_,_,_,true,_,_,_,_,_,_,_,_,_,_,_,_,_,_,_,rfl,Or.inl ⟨rfl, { h.grow bb with o8 := fun _ => ⟨a9, l9, c9, rfl, H9⟩ }⟩⟩
          · clear hc hi
            have kd := (KY.below h.bel).1
            refine wpOp_go rfl rfl (fun K hK => ?_)
            go_wp2_with fail
            exact hK.out _ _ ⟨_,_,_,_,_,_,_,_,_,true,_,_,_,_,_,_,_,_,_,_,_,.agg #[.slice P6 M6 C6],_,_,rfl,Or.inl ⟨rfl, { h with o9 := fun _ => rfl }⟩⟩
          · have e8 : y8 = true := by revert hc; cases y8 <;> simp [Region.binds]
            have e9 : y9 = true := by revert hc; cases y9 <;> simp [Region.binds]
            obtain ⟨a8, l8, c8, rfl, H8⟩ := h.o8 e8
            have r9 := h.o9 e9; subst r9
            clear hc hi
            refine wpOp_go rfl rfl (fun K hK => ?_)
            go_wp2_with (first | (go_at_call 145; go_must (refine (CS2 x a8 l8 c8 h.bel H8).mono ?_; rintro e x2 ⟨a9, l9, c9, rfl, H9, bb⟩)) | fail)
            exact hK.out _ _ ⟨_,_,_,_,_,_,_,_,_,_,true,_,_,_,_,_,_,_,_,_,_,_,_,_,rfl,Or.inl ⟨rfl, { h.grow bb with o10 := fun _ => ⟨a9, l9, c9, rfl, H9⟩ }⟩⟩
          · clear hc hi
            refine wpOp_go rfl rfl (fun K hK => ?_)
            go_wp2_with fail
            exact hK.out _ _ ⟨_,_,_,_,_,_,_,_,_,_,_,true,_,_,_,_,_,_,_,_,_,_,_,_,rfl,Or.inl ⟨rfl, { h.grow ((Below.refl _ _).alloc (Nat.le_refl _) _) with o11 := fun _ => ⟨_, rfl, h.bel.size, Blk.new _ _ _⟩ }⟩⟩
          · have e0 : y0 = true := by revert hc; cases y0 <;> simp [Region.binds]
            have e1 : y1 = true := by revert hc; cases y1 <;> simp [Region.binds]
            have e2 : y2 = true := by revert hc; cases y2 <;> simp [Region.binds]
            have e3 : y3 = true := by revert hc; cases y3 <;> simp [Region.binds]
            have e4 : y4 = true := by revert hc; cases y4 <;> simp [Region.binds]
            have e5 : y5 = true := by revert hc; cases y5 <;> simp [Region.binds]
            have e6 : y6 = true := by revert hc; cases y6 <;> simp [Region.binds]
            have e7 : y7 = true := by revert hc; cases y7 <;> simp [Region.binds]
            have e8 : y8 = true := by revert hc; cases y8 <;> simp [Region.binds]
            have e9 : y9 = true := by revert hc; cases y9 <;> simp [Region.binds]
            have e10 : y10 = true := by revert hc; cases y10 <;> simp [Region.binds]
            have e11 : y11 = true := by revert hc; cases y11 <;> simp [Region.binds]
            obtain ⟨a10, l10, c10, rfl, H10⟩ := h.o10 e10
            obtain ⟨X11, rfl, lX11, K11⟩ := h.o11 e11
            clear hc hi
            subst e0 e1 e2 e3 e4 e5 e6 e7 e8 e9 e10 e11
            have bl := h.bel
            have xx := K11.at 0
            have xf := K11.free 0
            have KZ := Bx.of K11
            clear h
            refine wpOp_go rfl rfl (fun K hK => ?_)
            go_wp2_with fail
            exact hK.out _ _ ⟨true,true,true,true,true,true,true,true,true,true,true,true,_,_,_,_,_,_,_,_,_,_,_,_,rfl,Or.inr (⟨rfl, X11, a10, l10, c10, rfl, lX11, below_put bl lX11 _, H10.box KZ, KZ.set _⟩)⟩
        · rcases (show i = 0 ∨ i = 1 ∨ i = 2 ∨ i = 3 ∨ i = 4 ∨ i = 5 ∨ i = 6 ∨ i = 7 ∨ i = 8 ∨ i = 9 ∨ i = 10 ∨ i = 11 ∨ i = 12 by omega) with rfl | rfl | rfl | rfl | rfl | rfl | rfl | rfl | rfl | rfl | rfl | rfl | rfl <;> simp at hc
      · rintro listed a x ⟨y0, y1, y2, y3, y4, y5, y6, y7, y8, y9, y10, y11, t33, t34, t35, t36, t37, t38, t39, t40, t41, t42, t43, t13, rfl, h⟩ hn
        have al := all_listed2 (by decide +kernel) hn
        rcases h with ⟨rfl, h⟩ | ⟨rfl, h⟩
        · have z := al 12 (by decide)
          simp at z
        · obtain ⟨Z, P7, M7, C7, rfl, lZ, bl, H7, KZ⟩ := h
          refine hJ _ _ ?_
          go_meet
          case rel => exact ⟨Z, P7, M7, C7, rfl, lZ, bl, H7, KZ⟩
      · exact ⟨false, false, false, false, false, false, false, false, false, false, false, false, u33, u34, u35, u36, u37, u38, u39, u40, u41, u42, u43, undef, rfl, Or.inl ⟨rfl, { bel := (Below.refl _ _).drew, o0 := (by intro q; cases q), o1 := (by intro q; cases q), o2 := (by intro q; cases q), o3 := (by intro q; cases q), o4 := (by intro q; cases q), o5 := (by intro q; cases q), o6 := (by intro q; cases q), o7 := (by intro q; cases q), o8 := (by intro q; cases q), o9 := (by intro q; cases q), o10 := (by intro q; cases q), o11 := (by intro q; cases q) }⟩⟩
    case rest =>
      rename World => WC
      obtain ⟨Zb, P7, M7, C7, rfl, lZ, bl4, H7, KZ⟩ := hcut
      replace KX := KX.below bl4
      replace KY := KY.below bl4
      replace KA2 := KA2.below bl4
      replace KB2 := KB2.below bl4
      replace KR2 := KR2.below bl4
      replace H5 := H5.grow bl4
      replace H6 := H6.grow bl4
      have p4 := bel' p3 bl4
      clear CA1 CA2 CM CS1 CS2 KAL KAH KBL KBH p3 bl4
      have ka := KA2.1
      have kb := KB2.1
      have kx := KX.1
      have xl := KX.lt
      have yl := KY.lt
      have zl := KZ.lt
      have rl := KR2.lt
      have o5 := H5.old (Nat.le_refl _)
      have o6 := H6.old (Nat.le_refl _)
      have o7 := H7.old (Nat.le_refl _)
      obtain ⟨Y5, wY5, nm5, v5, e5, c5⟩ := H5.words
      have l5 : Hid (Y5.length ≤ h2) := len_of wY5 nm5 (by rw [v5]; exact HT.out.2.2.1)
      go_wp2_with (first
        | (at_make; refine wpList_make_words rfl _ _ rfl n _ _ rfl rfl (by simp) (by simp) (by omega) ?_; intro wE z1 z2 z3 z4; have KX1 := KX.below z3; have kx1 := KX1.1)
        | ((with_reducible refine at_copy ?_); go_loud (refine wpList_copy_words rfl _ _ rfl (List.replicate n 0) Y5 WC.heap.size 0 n P5 M5 C5 n rfl rfl (by simp) e5.out (by rw [List.length_replicate]; have := l5.out; omega) z1 z2 (fun l0 => by obtain ⟨b, o, e, cc⟩ := c5 l0; exact ⟨b, o, e, cc.grow z3⟩) ?_; intro wF c6 q6; rw [List.length_replicate] at q6))
        | fail)
      have hwg : w.heap.size ≤ WC.heap.size := p4.size
      have KX2 := KX1.wr q6 (by omega)
      have KY2 := (KY.below z3).wr q6 (by omega)
      have KZ2 := (KZ.below z3).wr q6 (by omega)
      have KR3 := (KR2.below z3).wr q6 (by omega)
      have N6 := (H6.grow z3).wr o6 q6
      have N7 := (H7.grow z3).wr o7 q6
      have ow := z2.wr q6
      have pE : Below w.heap.size w wE := bel' p4 z3
      have pF := pE.trans (q6.below (B := w.heap.size) hwg pE.size)
      generalize WC.heap.size = g at *
      obtain ⟨X1, hX1⟩ : ∃ X1, Y5 ++ (List.replicate n 0).drop Y5.length = X1 := ⟨_, rfl⟩
      rw [hX1] at c6
      obtain ⟨Y6, wY6, nm6, v6, e6, c6'⟩ := N6.words
      have l6 : Y6.length ≤ n - h2 := len_of wY6 nm6 (by rw [v6]; exact HT.out.2.2.2.1)
      obtain ⟨R1, R2, R3, R4, R5, R6⟩ := copy_two hX1 l5.out (Nat.le_of_lt hh) v5 v6 l6 wY5 wY6
      have A5 : Hid (X1.length = n ∧ (Y6 ++ (X1.drop h2).drop Y6.length).length = n - h2 ∧ (spl X1 h2 (n - h2) (Y6 ++ (X1.drop h2).drop Y6.length)).length = n ∧ val (spl X1 h2 (n - h2) (Y6 ++ (X1.drop h2).drop Y6.length)) = Lw + pw h2 * Hg ∧ Y6.length ≤ n - h2) := ⟨R1, R3, R5, R6, l6⟩
      have lD : Hid ((X1.drop h2).length = n - h2) := by show _ = _; rw [List.length_drop, R1]
      have c6d : Cells wF g h2 (X1.drop h2) := by have := c6.drop h2; rwa [Nat.zero_add] at this
      have sl := slice_l g 0 n n (h2 : Int) h2 rfl (by omega) (by omega)
      rw [Nat.zero_add] at sl
      have ky := KY2.1
      clear R1 R3 R5 R6 l6 hX1 v5 e5 c5 l5 wY5 nm5 H5 H6 H7 KX KY KZ KX1 KX2 KR2 KA2 KB2 ka kb kx kx1 o5 o6 z1 z2 z3 z4 q6 pE p4 wY6 nm6 v6 N6
      go_wp2_with fail
      obtain ⟨wG, hrun, c7, q7⟩ := run_copy_words (w := wF.drew) 3 (X1.drop h2) Y6 g h2 (n - h2) P6 M6 C6 (n - h2) lD.out.symm e6.out (by rw [lD.out]; exact A5.out.2.2.2.2) c6d.drew ow.drew c6'
      rw [lD.out] at q7
      replace q7 := q7.undrew
      have kyd : wF.drew.cell? ⟨Y, 0, none⟩ = some (.slice P6 M6 C6) := ky
      go_region
      all_goals
        have KZ3 := KZ2.wr q7 (by omega)
        have KR4 := KR3.wr q7 (by omega)
        have N8 := N7.wr o7 q7
        have ow2 := ow.wr q7
        have pG := pF.trans (q7.below (B := w.heap.size) hwg pF.size)
        have c8 : Cells wG g 0 (spl X1 h2 (n - h2) (Y6 ++ (X1.drop h2).drop Y6.length)) := c6.spl (by have := A5.out.1; omega) A5.out.2.1 q7 c7
        obtain ⟨X2, hX2⟩ : ∃ X2, spl X1 h2 (n - h2) (Y6 ++ (X1.drop h2).drop Y6.length) = X2 := ⟨_, rfl⟩
        rw [hX2] at c8 R4
        have A6 : Hid (X2.length = n ∧ val X2 = Lw + pw h2 * Hg) := by rw [← hX2]; exact ⟨A5.out.2.2.1, A5.out.2.2.2.1⟩
        clear hX2 A5 c6 c6d c7 q7 KZ2 KR3 N7 ow pF R2 lD c6' e6 ky KY2 sl
        obtain ⟨V, wV, nmV, vV, eV, hV⟩ := N8.words
        have lS0 : Hid ((X2.drop h).length = n - h) := by show _ = _; rw [List.length_drop, A6.out.1]
        have c8d : Cells wG g h (X2.drop h) := by have := c8.drop h; rwa [Nat.zero_add] at this
        have sl := slice_l g 0 n n (h : Int) h rfl (by omega) (by omega)
        rw [Nat.zero_add] at sl
        have kz := KZ3.1
        have hZg : Zb ≠ g := by omega
        go_upto_region 8 with fail
        go_region_held3 (fun x => x.cell? ⟨Zb, 0, none⟩ = some (.slice P7 M7 C7)) (go_keep) (first
          | (go_at_call 165; refine (addInto_at g h (n - h) (n - h) (X2.drop h) P7 C7 M7 V _ lS0.out.symm eV.out (R4.drop h) wV (by rw [lS0.out]; exact len_of wV nmV (by rw [vV]; exact HT.out.2.2.2.2)) (by rw [lS0.out]; omega) c8d.drew (ow2.free _ _).drew (fun l0 => by obtain ⟨b2, o2, e2, cc⟩ := hV l0; exact ⟨b2, o2, e2, o7 b2 o2 (by rw [eV.out]; exact l0) e2, cc⟩)).mono ?_; rintro e w6 ⟨S', cy, rfl, k0, k1, lS, wS, vS, cS, q8⟩; have q8 := q8.undrew; have j0 := (KZ3.wr q8 hZg).1)
          | fail)
        rw [lS0.out] at lS vS q8
        obtain ⟨U2, U3, U4⟩ := add_sum A6.out.1 A6.out.2 vV (Nat.le_of_lt hhn) HT.out.1 HT.out.2.1 R4 wS lS k0 vS
        have CF : Cells w6 g 0 (spl X2 h (n - h) S') := c8.spl (by have := A6.out.1; omega) lS q8 cS
        have KR6 := KR4.wr q8 (by omega)
        have p6 := pG.trans (q8.below (B := w.heap.size) hwg pG.size)
        have HV4 : Hid (val (spl X2 h (n - h) S') = T) := U4
        have HR3 : Hid ((spl X2 h (n - h) S').length = n) := U3
        clear U3 U4 A6 lS0 R4 c8 c8d cS vS q8 hV eV vV wV nmV N8 KZ3 kz j0 ow2 pG o7 KR4 sl
        go_wp2_with (first
          | (go_at_call 123; refine (trim_rd (some ⟨g, 0, none⟩) n n (spl X2 h (n - h) S') _ HR3.out.symm U2 (by rw [HR3.out]; exact Nat.le_refl _) (by omega) (fun _ => ⟨g, 0, rfl, CF⟩)).mono ?_; rintro e w7 ⟨k, zs, rfl, _, hr, hnm, hv, d7⟩; have KR7 := KR6.below d7; have r1 := KR7.1; have r2 := KR7.2)
          | fail)
        have NE : Nn w7 (some ⟨g, 0, none⟩) k n T := ⟨zs, hr, hnm, hv.trans HV4.out⟩
        have NF := NE.box (u := .slice (some ⟨g, 0, none⟩) k n) KR7
        have KE := KR7.set (.slice (some ⟨g, 0, none⟩) k n)
        have BE := below_put (bel' p6 d7) (show w.heap.size ≤ w.heap.size + 1 + 1 by omega) (.slice (some ⟨g, 0, none⟩) k n)
        generalize w7.setCell ⟨w.heap.size + 1 + 1, 0, none⟩ (.slice (some ⟨g, 0, none⟩) k n) = WE at *
        have g1 := KE.1
        exact bodyPost_ret (v := .agg #[.slice (some ⟨g, 0, none⟩) k n]) (by simp [results, Tryz.results122, go_sem, g1]) rfl ⟨_, _, _, rfl, NF, BE, fun b o l c e => by simp at e; omega⟩
end Go.Proofs.YtebilgnmnambnaaGreatDoor.Mo
