import Derived.Test.YtebilgnmnambnaaGreatDoorPart41
import Derived.Test.YtebilgnmnambnaaGreatDoorPart42
import Derived.Test.YtebilgnmnambnaaGreatDoorPart06
import Derived.Deep.RegionHeld3
import Derived.Deep.DeepCutAuto
import Derived.Test.YtebilgnmnambnaaGreatDoorPart34
import Derived.Test.YtebilgnmnambnaaGreatDoorPart39
import Derived.Test.YtebilgnmnambnaaGreatDoorPart32
import Derived.Test.YtebilgnmnambnaaGreatDoorPart33

namespace Go.Proofs.YtebilgnmnambnaaGreatDoor.Mo
open Go.RowKit
set_option maxRecDepth 100000 in
set_option maxHeartbeats 3200000 in
theorem qadd_same (g1 g2 : Bool) (p1 p2 p3 p4 : Option Addr) (m1 c1 m2 c2 m3 c3 m4 c4 : Nat) (U V D S : Int) (t : Rat) (hg : (g1 == g2) = true) (w : World) (M1 : ∀ x, Below w.heap.size w x → Calls Tryz.prog 78 #[.slice p1 m1 c1, .slice p4 m4 c4] x fun e w' => ∃ a l c, e = .returned (.slice a l c) ∧ Nl w' a l c U ∧ Below x.heap.size x w') (M2 : ∀ x, Below w.heap.size w x → Calls Tryz.prog 78 #[.slice p3 m3 c3, .slice p2 m2 c2] x fun e w' => ∃ a l c, e = .returned (.slice a l c) ∧ Nl w' a l c V ∧ Below x.heap.size x w') (M3 : ∀ x, Below w.heap.size w x → Calls Tryz.prog 78 #[.slice p2 m2 c2, .slice p4 m4 c4] x fun e w' => ∃ a l c, e = .returned (.slice a l c) ∧ Nl w' a l c D ∧ Below x.heap.size x w') (AD : ∀ x a l c a' l' c', Nl x a l c U → Nl x a' l' c' V → Calls Tryz.prog 79 #[.slice a l c, .slice a' l' c'] x fun e w' => ∃ a l c, e = .returned (.slice a l c) ∧ Nl w' a l c S ∧ Below x.heap.size x w') (MK : ∀ x a l c a' l' c', Nl x a l c S → Nl x a' l' c' D → Calls Tryz.prog 80 #[.bool g1, .slice a l c, .slice a' l' c'] x (Qf t x)) : Calls Tryz.prog 40 #[.agg #[.bool g1, .slice p1 m1 c1, .slice p2 m2 c2], .agg #[.bool g2, .slice p3 m3 c3, .slice p4 m4 c4]] w (Qf t w) := by
  have KA := ((Blk.new w #[.bool g1, .slice p1 m1 c1, .slice p2 m2 c2] 56).alloc (.cells #[.bool g2, .slice p3 m3 c3, .slice p4 m4 c4] 56)).alloc (.cells #[.bool false, .slice none 0 0, .slice none 0 0] 56)
  have KB := (Blk.new (w.alloc (.cells #[.bool g1, .slice p1 m1 c1, .slice p2 m2 c2] 56)) #[.bool g2, .slice p3 m3 c3, .slice p4 m4 c4] 56).alloc (.cells #[.bool false, .slice none 0 0, .slice none 0 0] 56)
  have KR := Rb.new ((w.alloc (.cells #[.bool g1, .slice p1 m1 c1, .slice p2 m2 c2] 56)).alloc (.cells #[.bool g2, .slice p3 m3 c3, .slice p4 m4 c4] 56)) (.bool false) (.slice none 0 0) (.slice none 0 0) 56
  have pr : Below w.heap.size w (((w.alloc (.cells #[.bool g1, .slice p1 m1 c1, .slice p2 m2 c2] 56)).alloc (.cells #[.bool g2, .slice p3 m3 c3, .slice p4 m4 c4] 56)).alloc (.cells #[.bool false, .slice none 0 0, .slice none 0 0] 56)) := (((Below.refl _ _).alloc (Nat.le_refl _) _).alloc (by simp) _).alloc (by simp; omega) _
  simp only [World.size_alloc] at KB KR
  go_enter Tryz.func40, Tryz.ntmps40
  go_wp2_with fail
  generalize (((w.alloc (.cells #[.bool g1, .slice p1 m1 c1, .slice p2 m2 c2] 56)).alloc (.cells #[.bool g2, .slice p3 m3 c3, .slice p4 m4 c4] 56)).alloc (.cells #[.bool false, .slice none 0 0, .slice none 0 0] 56)) = W at *
  have e0 := KA.at 0
  have e1 := KA.at 1
  have e2 := KA.at 2
  have e3 := KB.at 0
  have e4 := KB.at 1
  have e5 := KB.at 2
  simp at e0 e1 e2 e3 e4 e5
  have na : w.heap.size + 1 + 1 ≠ w.heap.size := by omega
  have nb : w.heap.size + 1 + 1 ≠ w.heap.size + 1 := by omega
  go_region_held3 (fun x => x.cell? ⟨w.heap.size, 0, none⟩ = some (.bool g1) ∧ x.cell? ⟨w.heap.size, 1, none⟩ = some (.slice p1 m1 c1) ∧ x.cell? ⟨w.heap.size, 2, none⟩ = some (.slice p2 m2 c2) ∧ x.cell? ⟨w.heap.size + 1, 0, none⟩ = some (.bool g2) ∧ x.cell? ⟨w.heap.size + 1, 1, none⟩ = some (.slice p3 m3 c3) ∧ x.cell? ⟨w.heap.size + 1, 2, none⟩ = some (.slice p4 m4 c4)) (first | exact ⟨x20, x21, x22, x23, x24, x25⟩ | exact ⟨x10, x11, x12, x13, x14, x15⟩ | go_keep) (first
    | (go_at_call 78; (have mk := d1); (refine (M2 _ (bel' pr d1)).mono ?_); (rintro e w2 ⟨a2, l2, k2, rfl, n2, b2⟩); (have d2 := bel' d1 b2); (have x20 := kc7 d2 e0); (have x21 := kc7 d2 e1); (have x22 := kc7 d2 e2); (have x23 := kc7 d2 e3); (have x24 := kc7 d2 e4); (have x25 := kc7 d2 e5))
    | (go_at_call 78; (refine (M1 _ (pr.drew)).mono ?_); (rintro e w1 ⟨a1, l1, k1, rfl, n1, b1⟩); (have d1 := undrew b1); (have x10 := kc7 d1 e0); (have x11 := kc7 d1 e1); (have x12 := kc7 d1 e2); (have x13 := kc7 d1 e3); (have x14 := kc7 d1 e4); (have x15 := kc7 d1 e5))
    | fail)
  go_wp2_with (first
    | (go_at_call 78; (refine (M3 _ (bel' pr d2)).mono ?_); (rintro e w3 ⟨a3, l3, k3, rfl, n3, b3⟩); (have d3 := bel' d2 b3); (have x30 := kc7 d3 e0); (have x31 := kc7 d3 e1); (have x32 := kc7 d3 e2); (have x33 := kc7 d3 e3); (have x34 := kc7 d3 e4); (have x35 := kc7 d3 e5))
    | fail)
  have n1 := n1.grow (bel' b2 b3)
  have n2 := n2.grow b3
  go_region_held3 (fun x => x.cell? ⟨w.heap.size, 0, none⟩ = some (.bool g1)) (first | exact y4 | exact y3 | exact y2 | go_keep) (first
    | (go_at_call 80; (have mk := f1); (refine (MK _ _ _ _ _ _ _ n5 (n3.grow f1)).mono ?_); (rintro e w6 ⟨g, a, l, c, a', l', c', rfl, tq, b6⟩); (have f2 := bel' f1 b6); (have dz := bel' d3 f2); (have KXs := qskip (KA.below dz KA.lt) na (.bool g) (.slice a l c) (.slice a' l' c')); (have R := KR.grow dz); (have q0 := R.c0); (have q1 := R.c1); (have q2 := R.c2); (have r0 := R.f0); (have r1 := R.f1); (have r2 := R.f2); (have y3 := kc7 dz e0); (have y4 := KXs.at 0); (simp at y4))
    | (go_at_call 79; (refine (AD _ _ _ _ _ _ _ (n1.grow ((Below.refl _ _).drew)) (n2.grow ((Below.refl _ _).drew))).mono ?_); (rintro e w5 ⟨a5, l5, k5, rfl, n5, b5⟩); (have f1 := undrew b5); (have y2 := kc7 (bel' d3 f1) e0))
    | fail)
  all_goals
    go_wp2_with fail
    obtain ⟨F0, F1, F2⟩ := R.put (.bool g) (.slice a l c) (.slice a' l' c')
    exact bodyPost_ret (v := .agg #[.bool g, .slice a l c, .slice a' l' c']) (by simp [results, Tryz.results40, go_sem, F0, F1, F2]) rfl ⟨g, a, l, c, a', l', c', rfl, qput tq R, bset3 (bel' pr dz) (show w.heap.size ≤ w.heap.size + 1 + 1 by omega)⟩
set_option maxRecDepth 100000 in
set_option maxHeartbeats 3200000 in
theorem qadd_ge (g1 g2 : Bool) (p1 p2 p3 p4 : Option Addr) (m1 c1 m2 c2 m3 c3 m4 c4 : Nat) (U V D S : Int) (t : Rat) (k : Int) (hg : (g1 == g2) = false) (hk : k ≥ 0) (w : World) (M1 : ∀ x, Below w.heap.size w x → Calls Tryz.prog 78 #[.slice p1 m1 c1, .slice p4 m4 c4] x fun e w' => ∃ a l c, e = .returned (.slice a l c) ∧ Nl w' a l c U ∧ Below x.heap.size x w') (M2 : ∀ x, Below w.heap.size w x → Calls Tryz.prog 78 #[.slice p3 m3 c3, .slice p2 m2 c2] x fun e w' => ∃ a l c, e = .returned (.slice a l c) ∧ Nl w' a l c V ∧ Below x.heap.size x w') (M3 : ∀ x, Below w.heap.size w x → Calls Tryz.prog 78 #[.slice p2 m2 c2, .slice p4 m4 c4] x fun e w' => ∃ a l c, e = .returned (.slice a l c) ∧ Nl w' a l c D ∧ Below x.heap.size x w') (CM : ∀ x a l c a' l' c', Nl x a l c U → Nl x a' l' c' V → Calls Tryz.prog 98 #[.slice a l c, .slice a' l' c'] x fun e w' => e = .returned (.int .i64 k) ∧ Below x.heap.size x w') (SB : ∀ x a l c a' l' c', Nl x a l c U → Nl x a' l' c' V → Calls Tryz.prog 101 #[.slice a l c, .slice a' l' c'] x fun e w' => ∃ a l c, e = .returned (.slice a l c) ∧ Nl w' a l c S ∧ Below x.heap.size x w') (MK : ∀ x a l c a' l' c', Nl x a l c S → Nl x a' l' c' D → Calls Tryz.prog 80 #[.bool g1, .slice a l c, .slice a' l' c'] x (Qf t x)) : Calls Tryz.prog 40 #[.agg #[.bool g1, .slice p1 m1 c1, .slice p2 m2 c2], .agg #[.bool g2, .slice p3 m3 c3, .slice p4 m4 c4]] w (Qf t w) := by
  have KA := ((Blk.new w #[.bool g1, .slice p1 m1 c1, .slice p2 m2 c2] 56).alloc (.cells #[.bool g2, .slice p3 m3 c3, .slice p4 m4 c4] 56)).alloc (.cells #[.bool false, .slice none 0 0, .slice none 0 0] 56)
  have KB := (Blk.new (w.alloc (.cells #[.bool g1, .slice p1 m1 c1, .slice p2 m2 c2] 56)) #[.bool g2, .slice p3 m3 c3, .slice p4 m4 c4] 56).alloc (.cells #[.bool false, .slice none 0 0, .slice none 0 0] 56)
  have KR := Rb.new ((w.alloc (.cells #[.bool g1, .slice p1 m1 c1, .slice p2 m2 c2] 56)).alloc (.cells #[.bool g2, .slice p3 m3 c3, .slice p4 m4 c4] 56)) (.bool false) (.slice none 0 0) (.slice none 0 0) 56
  have pr : Below w.heap.size w (((w.alloc (.cells #[.bool g1, .slice p1 m1 c1, .slice p2 m2 c2] 56)).alloc (.cells #[.bool g2, .slice p3 m3 c3, .slice p4 m4 c4] 56)).alloc (.cells #[.bool false, .slice none 0 0, .slice none 0 0] 56)) := (((Below.refl _ _).alloc (Nat.le_refl _) _).alloc (by simp) _).alloc (by simp; omega) _
  simp only [World.size_alloc] at KB KR
  go_enter Tryz.func40, Tryz.ntmps40
  go_wp2_with fail
  generalize (((w.alloc (.cells #[.bool g1, .slice p1 m1 c1, .slice p2 m2 c2] 56)).alloc (.cells #[.bool g2, .slice p3 m3 c3, .slice p4 m4 c4] 56)).alloc (.cells #[.bool false, .slice none 0 0, .slice none 0 0] 56)) = W at *
  have e0 := KA.at 0
  have e1 := KA.at 1
  have e2 := KA.at 2
  have e3 := KB.at 0
  have e4 := KB.at 1
  have e5 := KB.at 2
  simp at e0 e1 e2 e3 e4 e5
  have na : w.heap.size + 1 + 1 ≠ w.heap.size := by omega
  have nb : w.heap.size + 1 + 1 ≠ w.heap.size + 1 := by omega
  go_region_held3 (fun x => x.cell? ⟨w.heap.size, 0, none⟩ = some (.bool g1) ∧ x.cell? ⟨w.heap.size, 1, none⟩ = some (.slice p1 m1 c1) ∧ x.cell? ⟨w.heap.size, 2, none⟩ = some (.slice p2 m2 c2) ∧ x.cell? ⟨w.heap.size + 1, 0, none⟩ = some (.bool g2) ∧ x.cell? ⟨w.heap.size + 1, 1, none⟩ = some (.slice p3 m3 c3) ∧ x.cell? ⟨w.heap.size + 1, 2, none⟩ = some (.slice p4 m4 c4)) (first | exact ⟨x20, x21, x22, x23, x24, x25⟩ | exact ⟨x10, x11, x12, x13, x14, x15⟩ | go_keep) (first
    | (go_at_call 78; (have mk := d1); (refine (M2 _ (bel' pr d1)).mono ?_); (rintro e w2 ⟨a2, l2, k2, rfl, n2, b2⟩); (have d2 := bel' d1 b2); (have x20 := kc7 d2 e0); (have x21 := kc7 d2 e1); (have x22 := kc7 d2 e2); (have x23 := kc7 d2 e3); (have x24 := kc7 d2 e4); (have x25 := kc7 d2 e5))
    | (go_at_call 78; (refine (M1 _ (pr.drew)).mono ?_); (rintro e w1 ⟨a1, l1, k1, rfl, n1, b1⟩); (have d1 := undrew b1); (have x10 := kc7 d1 e0); (have x11 := kc7 d1 e1); (have x12 := kc7 d1 e2); (have x13 := kc7 d1 e3); (have x14 := kc7 d1 e4); (have x15 := kc7 d1 e5))
    | fail)
  go_wp2_with (first
    | (go_at_call 98; (have mk := d3); (refine (CM _ _ _ _ _ _ _ (n1.grow (bel' b2 b3)) (n2.grow b3)).mono ?_); (rintro e w9 ⟨rfl, b9⟩); (have d9 := bel' d3 b9); (have x90 := kc7 d9 e0); (have x91 := kc7 d9 e1); (have x92 := kc7 d9 e2); (have x93 := kc7 d9 e3); (have x94 := kc7 d9 e4); (have x95 := kc7 d9 e5))
    | (go_at_call 78; (refine (M3 _ (bel' pr d2)).mono ?_); (rintro e w3 ⟨a3, l3, k3, rfl, n3, b3⟩); (have d3 := bel' d2 b3); (have x30 := kc7 d3 e0); (have x31 := kc7 d3 e1); (have x32 := kc7 d3 e2); (have x33 := kc7 d3 e3); (have x34 := kc7 d3 e4); (have x35 := kc7 d3 e5))
    | fail)
  have n1 := n1.grow (bel' b2 b3)
  have n2 := n2.grow b3
  go_region_held3 (fun x => x.cell? ⟨w.heap.size, 0, none⟩ = some (.bool g1)) (first | exact y4 | exact y3 | exact y2 | go_keep) (first
    | (go_at_call 80; (have mk := f1); (refine (MK _ _ _ _ _ _ _ n5 (n3.grow (bel' b9 f1))).mono ?_); (rintro e w6 ⟨g, a, l, c, a', l', c', rfl, tq, b6⟩); (have f2 := bel' f1 b6); (have dz := bel' d9 f2); (have KXs := qskip (KA.below dz KA.lt) na (.bool g) (.slice a l c) (.slice a' l' c')); (have R := KR.grow dz); (have q0 := R.c0); (have q1 := R.c1); (have q2 := R.c2); (have r0 := R.f0); (have r1 := R.f1); (have r2 := R.f2); (have y3 := kc7 dz e0); (have y4 := KXs.at 0); (simp at y4))
    | (go_at_call 101; (refine (SB _ _ _ _ _ _ _ ((n1.grow b9).grow ((Below.refl _ _).drew)) ((n2.grow b9).grow ((Below.refl _ _).drew))).mono ?_); (rintro e w5 ⟨a5, l5, k5, rfl, n5, b5⟩); (have f1 := undrew b5); (have y2 := kc7 (bel' d9 f1) e0))
    | fail)
  all_goals
    go_wp2_with fail
    obtain ⟨F0, F1, F2⟩ := R.put (.bool g) (.slice a l c) (.slice a' l' c')
    exact bodyPost_ret (v := .agg #[.bool g, .slice a l c, .slice a' l' c']) (by simp [results, Tryz.results40, go_sem, F0, F1, F2]) rfl ⟨g, a, l, c, a', l', c', rfl, qput tq R, bset3 (bel' pr dz) (show w.heap.size ≤ w.heap.size + 1 + 1 by omega)⟩
set_option maxRecDepth 100000 in
set_option maxHeartbeats 3200000 in
theorem qadd_lt (g1 g2 : Bool) (p1 p2 p3 p4 : Option Addr) (m1 c1 m2 c2 m3 c3 m4 c4 : Nat) (U V D S : Int) (t : Rat) (k : Int) (hg : (g1 == g2) = false) (hk : ¬ k ≥ 0) (w : World) (M1 : ∀ x, Below w.heap.size w x → Calls Tryz.prog 78 #[.slice p1 m1 c1, .slice p4 m4 c4] x fun e w' => ∃ a l c, e = .returned (.slice a l c) ∧ Nl w' a l c U ∧ Below x.heap.size x w') (M2 : ∀ x, Below w.heap.size w x → Calls Tryz.prog 78 #[.slice p3 m3 c3, .slice p2 m2 c2] x fun e w' => ∃ a l c, e = .returned (.slice a l c) ∧ Nl w' a l c V ∧ Below x.heap.size x w') (M3 : ∀ x, Below w.heap.size w x → Calls Tryz.prog 78 #[.slice p2 m2 c2, .slice p4 m4 c4] x fun e w' => ∃ a l c, e = .returned (.slice a l c) ∧ Nl w' a l c D ∧ Below x.heap.size x w') (CM : ∀ x a l c a' l' c', Nl x a l c U → Nl x a' l' c' V → Calls Tryz.prog 98 #[.slice a l c, .slice a' l' c'] x fun e w' => e = .returned (.int .i64 k) ∧ Below x.heap.size x w') (SB : ∀ x a l c a' l' c', Nl x a l c V → Nl x a' l' c' U → Calls Tryz.prog 101 #[.slice a l c, .slice a' l' c'] x fun e w' => ∃ a l c, e = .returned (.slice a l c) ∧ Nl w' a l c S ∧ Below x.heap.size x w') (MK : ∀ x a l c a' l' c', Nl x a l c S → Nl x a' l' c' D → Calls Tryz.prog 80 #[.bool g2, .slice a l c, .slice a' l' c'] x (Qf t x)) : Calls Tryz.prog 40 #[.agg #[.bool g1, .slice p1 m1 c1, .slice p2 m2 c2], .agg #[.bool g2, .slice p3 m3 c3, .slice p4 m4 c4]] w (Qf t w) := by
  have KA := ((Blk.new w #[.bool g1, .slice p1 m1 c1, .slice p2 m2 c2] 56).alloc (.cells #[.bool g2, .slice p3 m3 c3, .slice p4 m4 c4] 56)).alloc (.cells #[.bool false, .slice none 0 0, .slice none 0 0] 56)
  have KB := (Blk.new (w.alloc (.cells #[.bool g1, .slice p1 m1 c1, .slice p2 m2 c2] 56)) #[.bool g2, .slice p3 m3 c3, .slice p4 m4 c4] 56).alloc (.cells #[.bool false, .slice none 0 0, .slice none 0 0] 56)
  have KR := Rb.new ((w.alloc (.cells #[.bool g1, .slice p1 m1 c1, .slice p2 m2 c2] 56)).alloc (.cells #[.bool g2, .slice p3 m3 c3, .slice p4 m4 c4] 56)) (.bool false) (.slice none 0 0) (.slice none 0 0) 56
  have pr : Below w.heap.size w (((w.alloc (.cells #[.bool g1, .slice p1 m1 c1, .slice p2 m2 c2] 56)).alloc (.cells #[.bool g2, .slice p3 m3 c3, .slice p4 m4 c4] 56)).alloc (.cells #[.bool false, .slice none 0 0, .slice none 0 0] 56)) := (((Below.refl _ _).alloc (Nat.le_refl _) _).alloc (by simp) _).alloc (by simp; omega) _
  simp only [World.size_alloc] at KB KR
  go_enter Tryz.func40, Tryz.ntmps40
  go_wp2_with fail
  generalize (((w.alloc (.cells #[.bool g1, .slice p1 m1 c1, .slice p2 m2 c2] 56)).alloc (.cells #[.bool g2, .slice p3 m3 c3, .slice p4 m4 c4] 56)).alloc (.cells #[.bool false, .slice none 0 0, .slice none 0 0] 56)) = W at *
  have e0 := KA.at 0
  have e1 := KA.at 1
  have e2 := KA.at 2
  have e3 := KB.at 0
  have e4 := KB.at 1
  have e5 := KB.at 2
  simp at e0 e1 e2 e3 e4 e5
  have na : w.heap.size + 1 + 1 ≠ w.heap.size := by omega
  have nb : w.heap.size + 1 + 1 ≠ w.heap.size + 1 := by omega
  go_region_held3 (fun x => x.cell? ⟨w.heap.size, 0, none⟩ = some (.bool g1) ∧ x.cell? ⟨w.heap.size, 1, none⟩ = some (.slice p1 m1 c1) ∧ x.cell? ⟨w.heap.size, 2, none⟩ = some (.slice p2 m2 c2) ∧ x.cell? ⟨w.heap.size + 1, 0, none⟩ = some (.bool g2) ∧ x.cell? ⟨w.heap.size + 1, 1, none⟩ = some (.slice p3 m3 c3) ∧ x.cell? ⟨w.heap.size + 1, 2, none⟩ = some (.slice p4 m4 c4)) (first | exact ⟨x20, x21, x22, x23, x24, x25⟩ | exact ⟨x10, x11, x12, x13, x14, x15⟩ | go_keep) (first
    | (go_at_call 78; (have mk := d1); (refine (M2 _ (bel' pr d1)).mono ?_); (rintro e w2 ⟨a2, l2, k2, rfl, n2, b2⟩); (have d2 := bel' d1 b2); (have x20 := kc7 d2 e0); (have x21 := kc7 d2 e1); (have x22 := kc7 d2 e2); (have x23 := kc7 d2 e3); (have x24 := kc7 d2 e4); (have x25 := kc7 d2 e5))
    | (go_at_call 78; (refine (M1 _ (pr.drew)).mono ?_); (rintro e w1 ⟨a1, l1, k1, rfl, n1, b1⟩); (have d1 := undrew b1); (have x10 := kc7 d1 e0); (have x11 := kc7 d1 e1); (have x12 := kc7 d1 e2); (have x13 := kc7 d1 e3); (have x14 := kc7 d1 e4); (have x15 := kc7 d1 e5))
    | fail)
  go_wp2_with (first
    | (go_at_call 98; (have mk := d3); (refine (CM _ _ _ _ _ _ _ (n1.grow (bel' b2 b3)) (n2.grow b3)).mono ?_); (rintro e w9 ⟨rfl, b9⟩); (have d9 := bel' d3 b9); (have x90 := kc7 d9 e0); (have x91 := kc7 d9 e1); (have x92 := kc7 d9 e2); (have x93 := kc7 d9 e3); (have x94 := kc7 d9 e4); (have x95 := kc7 d9 e5))
    | (go_at_call 78; (refine (M3 _ (bel' pr d2)).mono ?_); (rintro e w3 ⟨a3, l3, k3, rfl, n3, b3⟩); (have d3 := bel' d2 b3); (have x30 := kc7 d3 e0); (have x31 := kc7 d3 e1); (have x32 := kc7 d3 e2); (have x33 := kc7 d3 e3); (have x34 := kc7 d3 e4); (have x35 := kc7 d3 e5))
    | fail)
  have n1 := n1.grow (bel' b2 b3)
  have n2 := n2.grow b3
  go_region_held3 (fun x => x.cell? ⟨w.heap.size + 1, 0, none⟩ = some (.bool g2)) (first | exact y4 | exact y3 | exact y2 | go_keep) (first
    | (go_at_call 80; (have mk := f1); (refine (MK _ _ _ _ _ _ _ n5 (n3.grow (bel' b9 f1))).mono ?_); (rintro e w6 ⟨g, a, l, c, a', l', c', rfl, tq, b6⟩); (have f2 := bel' f1 b6); (have dz := bel' d9 f2); (have KXs := qskip (KB.below dz KB.lt) nb (.bool g) (.slice a l c) (.slice a' l' c')); (have R := KR.grow dz); (have q0 := R.c0); (have q1 := R.c1); (have q2 := R.c2); (have r0 := R.f0); (have r1 := R.f1); (have r2 := R.f2); (have y3 := kc7 dz e3); (have y4 := KXs.at 0); (simp at y4))
    | (go_at_call 101; (refine (SB _ _ _ _ _ _ _ ((n2.grow b9).grow ((Below.refl _ _).drew)) ((n1.grow b9).grow ((Below.refl _ _).drew))).mono ?_); (rintro e w5 ⟨a5, l5, k5, rfl, n5, b5⟩); (have f1 := undrew b5); (have y2 := kc7 (bel' d9 f1) e3))
    | fail)
  all_goals
    go_wp2_with fail
    obtain ⟨F0, F1, F2⟩ := R.put (.bool g) (.slice a l c) (.slice a' l' c')
    exact bodyPost_ret (v := .agg #[.bool g, .slice a l c, .slice a' l' c']) (by simp [results, Tryz.results40, go_sem, F0, F1, F2]) rfl ⟨g, a, l, c, a', l', c', rfl, qput tq R, bset3 (bel' pr dz) (show w.heap.size ≤ w.heap.size + 1 + 1 by omega)⟩
theorem pw_pp {K : Nat} : Tl.pw (K + K) + Tl.pw (K + K) ≤ Tl.pw (K + K + 1) := by
  have := Tl.pw_pos (K + K)
  simp only [Tl.pw]
  omega
theorem QAdd_s (a b : Value) (r s : Rat) (K : Nat) (w : World) (ha : L.IsQ w a r) (hb : L.IsQ w b s) (hr : L.QS r K) (hs : L.QS s K) (hK : K ≤ 1000000000) : Calls Tryz.prog 40 #[a, b] w (Qf (r + s) w) := by
  obtain ⟨p1, m1, c1, p2, m2, c2, rfl, n1, n2, _⟩ := nl_isq ha
  obtain ⟨p3, m3, c3, p4, m4, c4, rfl, n3, n4, _⟩ := nl_isq hb
  have er := L.num_sg r
  have es := L.num_sg s
  have uB := lt_pp (Int.natCast_nonneg r.num.natAbs) hr.1 (Int.natCast_nonneg s.den) hs.2
  have vB := lt_pp (Int.natCast_nonneg s.num.natAbs) hs.1 (Int.natCast_nonneg r.den) hr.2
  have dB := lt_pp (Int.natCast_nonneg r.den) hr.2 (Int.natCast_nonneg s.den) hs.2
  have d0 := Int.mul_pos (L.den_pos' r) (L.den_pos' s)
  have u0 := Int.mul_nonneg (Int.natCast_nonneg r.num.natAbs) (Int.natCast_nonneg s.den)
  have v0 := Int.mul_nonneg (Int.natCast_nonneg s.num.natAbs) (Int.natCast_nonneg r.den)
  have pp := pw_pp (K := K)
  by_cases hg : decide (r.num < 0) = decide (s.num < 0)
  · have e : mkRat (L.sgI (decide (r.num < 0)) ((r.num.natAbs : Int) * s.den + (s.num.natAbs : Int) * r.den)) ((r.den : Int) * s.den).toNat = r + s := by
      refine L.add_rat r s _ ?_
      rw [← hg] at es
      generalize decide (r.num < 0) = g at *
      rw [er, es]
      cases g
      · simp only [L.sgI, Bool.false_eq_true, if_false]; simp
      · simp only [L.sgI, if_true]; simp; grind
    rw [← e]
    exact qadd_same _ _ p1 p2 p3 p4 m1 c1 m2 c2 m3 c3 m4 c4 _ _ _ _ _ (by rw [hg]; simp) w (fun x b => mul_nl (n1.grow b) (n4.grow b) hr.1 hs.2 hK) (fun x b => mul_nl (n3.grow b) (n2.grow b) hs.1 hr.2 hK) (fun x b => mul_nl (n2.grow b) (n4.grow b) hr.2 hs.2 hK) (fun x a l c a' l' c' h h' => add_nl h h' uB vB (by omega)) (fun x a l c a' l' c' h h' => make_nl _ h h' (K := K + K + 1) (by omega) (by omega) (by omega) d0)
  · have hg' : (decide (r.num < 0) == decide (s.num < 0)) = false := by simpa using hg
    by_cases le : (s.num.natAbs : Int) * r.den ≤ (r.num.natAbs : Int) * s.den
    · have e : mkRat (L.sgI (decide (r.num < 0)) ((r.num.natAbs : Int) * s.den - (s.num.natAbs : Int) * r.den)) ((r.den : Int) * s.den).toNat = r + s := by
        refine L.add_rat r s _ ?_
        generalize decide (r.num < 0) = g at *
        generalize decide (s.num < 0) = g' at *
        rw [er, es]
        cases g <;> cases g'
        · exact absurd rfl hg
        · simp only [L.sgI, Bool.false_eq_true, if_false, if_true]; simp; grind
        · simp only [L.sgI, Bool.false_eq_true, if_false, if_true]; simp; grind
        · exact absurd rfl hg
      rw [← e]
      exact qadd_ge _ _ p1 p2 p3 p4 m1 c1 m2 c2 m3 c3 m4 c4 _ _ _ _ _ _ hg' (by unfold L.cmp3; rw [if_neg (by omega)]; split <;> decide) w (fun x b => mul_nl (n1.grow b) (n4.grow b) hr.1 hs.2 hK) (fun x b => mul_nl (n3.grow b) (n2.grow b) hs.1 hr.2 hK) (fun x b => mul_nl (n2.grow b) (n4.grow b) hr.2 hs.2 hK) (fun x a l c a' l' c' h h' => cmp_nl h h' uB (by omega)) (fun x a l c a' l' c' h h' => sub_nl h h' uB (by omega) le) (fun x a l c a' l' c' h h' => make_nl _ h h' (K := K + K) (by omega) dB (by omega) d0)
    · have e : mkRat (L.sgI (decide (s.num < 0)) ((s.num.natAbs : Int) * r.den - (r.num.natAbs : Int) * s.den)) ((r.den : Int) * s.den).toNat = r + s := by
        refine L.add_rat r s _ ?_
        generalize decide (r.num < 0) = g at *
        generalize decide (s.num < 0) = g' at *
        rw [er, es]
        cases g <;> cases g'
        · exact absurd rfl hg
        · simp only [L.sgI, Bool.false_eq_true, if_false, if_true]; simp; grind
        · simp only [L.sgI, Bool.false_eq_true, if_false, if_true]; simp; grind
        · exact absurd rfl hg
      rw [← e]
      exact qadd_lt _ _ p1 p2 p3 p4 m1 c1 m2 c2 m3 c3 m4 c4 _ _ _ _ _ _ hg' (by unfold L.cmp3; rw [if_pos (by omega)]; decide) w (fun x b => mul_nl (n1.grow b) (n4.grow b) hr.1 hs.2 hK) (fun x b => mul_nl (n3.grow b) (n2.grow b) hs.1 hr.2 hK) (fun x b => mul_nl (n2.grow b) (n4.grow b) hr.2 hs.2 hK) (fun x a l c a' l' c' h h' => cmp_nl h h' uB (by omega)) (fun x a l c a' l' c' h h' => sub_nl h h' vB (by omega) (by omega)) (fun x a l c a' l' c' h h' => make_nl _ h h' (K := K + K) (by omega) dB (by omega) d0)
end Go.Proofs.YtebilgnmnambnaaGreatDoor.Mo

namespace Go.Proofs.YtebilgnmnambnaaGreatDoor.Mo
open Go.RowKit Ip
end Go.Proofs.YtebilgnmnambnaaGreatDoor.Mo

namespace Go.Proofs.YtebilgnmnambnaaGreatDoor.Mo
open Go.RowKit Fu Tn Go.Lib Dc
theorem tn_tl' : ∀ m : Nat, Tn.pw m ≤ Tl.pw (3 * m)
  | 0 => by decide
  | m + 1 => by
    have ih := tn_tl' m
    have p := Tn.pw_pos m
    rw [show 3 * (m + 1) = 3 * m + 1 + 1 + 1 by omega]
    simp only [Tn.pw, Tl.pw]
    omega
theorem qs_of {r : Rat} {m : Nat} (h : PS r m) : L.QS r (3 * m) := by
  have := tn_tl' m
  have h1 := h.1
  have h2 := h.2
  exact ⟨by omega, by omega⟩
theorem qs_k {r : Rat} {m K : Nat} (h : PS r m) (hK : 3 * m = K) : L.QS r K := hK ▸ qs_of h
theorem short_words' {N : Nat} (h : (decDigits N).length ≤ 4096) : (N : Int) < Tn.pw 256 := by
  have := num_pw (s := sB (decDigits N)) (dec_nat N) (by rw [sB_size]; exact h)
  rwa [sB_list, dec_num] at this
theorem good_ok {n d : ByteArray} (h : goodE n d = 0) (hn : n.size ≤ 9223372036854775807) : ∃ r : Rat, (.agg #[.string n, .string d] : Value) = wrt r ∧ Rdy r ∧ PS r 256 ∧ ∀ x, Calls Tryz.prog 52 #[.agg #[.string n, .string d]] x (Qf r x) := by
  obtain ⟨r, e, _, _, l1, l2⟩ := good_wrt h
  refine ⟨r, e, ⟨l1, l2⟩, ⟨short_words' l1, short_words' l2⟩, fun x => ?_⟩
  unfold wrt at e
  simp only [Value.agg.injEq, Array.mk.injEq, List.cons.injEq, Value.string.injEq, and_true] at e
  obtain ⟨e1, e2⟩ := e
  refine qf_of ((In_q (r := r) x hn ?_ ?_ ?_ ?_ ?_ ?_ ?_).mono ?_)
  · rw [e1, sg_neg]
  · rw [e1, sg_rest, sB_list, dec_num]
  · rw [e2, sB_list, dec_num]
  · rw [e1, sg_rest, sB_size]; exact l1
  · rw [e2, sB_size]; exact l2
  · rw [e1, sg_rest]; exact dec_nat _
  · rw [e2]; exact dec_nat _
  · rintro e w' ⟨v, rfl, hq, _, b⟩
    exact ⟨v, rfl, hq, b⟩
theorem bne_z {c : Int} (h : c ≠ 0) : (c != 0) = true := by simpa using h
theorem two_bad (n d m k : ByteArray) (hn : n.size ≤ 9223372036854775807) (hd : d.size ≤ 9223372036854775807) (hm : m.size ≤ 9223372036854775807) (hk : k.size ≤ 9223372036854775807) (h : goodE n d ≠ 0 ∨ goodE m k ≠ 0) : ∃ c : Int, c ≠ 0 ∧ (∀ x, Calls Tryz.prog 57 #[.agg #[.string n, .string d], .agg #[.string m, .string k]] x fun e w' => e = .returned (.tuple #[.agg #[.bool false, .slice none 0 0, .slice none 0 0], .agg #[.bool false, .slice none 0 0, .slice none 0 0], .int .i64 c]) ∧ Below x.heap.size x w') ∧ (∀ x, Calls Tryz.prog 61 #[.agg #[.string n, .string d], .agg #[.string m, .string k]] x fun e w' => e = .returned (.int .i64 c) ∧ Below x.heap.size x w') := by
  by_cases h1 : goodE n d = 0
  · have h2 : goodE m k ≠ 0 := by
      rcases h with h | h
      · exact absurd h1 h
      · exact h
    refine ⟨goodE m k, h2, fun x => ?_, fun x => ?_⟩
    · exact readTwo_e2 n d m k _ _ x (bne_z h2) (fun y _ => read_ok h1 hn hd y) (fun y _ => read_no h2 hm hk y)
    · exact two_k n d m k _ x (fun y _ => by have := Good_any n d y hn hd; rwa [h1] at this) (fun y _ => Good_any m k y hm hk)
  · refine ⟨goodE n d, h1, fun x => ?_, fun x => ?_⟩
    · exact readTwo_e1 n d m k _ x (bne_z h1) (fun y _ => read_no h1 hn hd y)
    · exact two_e n d m k _ x (bne_z h1) (fun y _ => Good_any n d y hn hd)
theorem two_good {n d m k : ByteArray} (hn : n.size ≤ 9223372036854775807) (hd : d.size ≤ 9223372036854775807) (hm : m.size ≤ 9223372036854775807) (hk : k.size ≤ 9223372036854775807) (h1 : goodE n d = 0) (h2 : goodE m k = 0) (x : World) : Calls Tryz.prog 61 #[.agg #[.string n, .string d], .agg #[.string m, .string k]] x fun e w' => e = .returned (.int .i64 0) ∧ Below x.heap.size x w' := by
  have := two_k n d m k (goodE m k) x (fun y _ => by have := Good_any n d y hn hd; rwa [h1] at this) (fun y _ => Good_any m k y hm hk)
  rwa [h2] at this
theorem ok256 : MulOK 256 256 := by unfold MulOK; omega
theorem sgn_same (r : Rat) : L.sgn r = psg r := by
  unfold L.sgn psg
  by_cases a : r.num = 0
  · rw [if_pos a, if_neg (by omega), if_pos a]
  · rw [if_neg a]
    by_cases b : r.num < 0
    · rw [if_pos b, if_pos b]
    · rw [if_neg b, if_neg b, if_neg a]
end Go.Proofs.YtebilgnmnambnaaGreatDoor.Mo
