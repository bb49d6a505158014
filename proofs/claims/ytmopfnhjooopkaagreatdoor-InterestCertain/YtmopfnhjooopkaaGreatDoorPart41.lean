import Derived.Test.YtmopfnhjooopkaaGreatDoorPart40
import Derived.Test.YtmopfnhjooopkaaGreatDoorPart06
import Derived.Deep.RegionHeld3
import Derived.Deep.DeepCutAuto
import Derived.Test.YtmopfnhjooopkaaGreatDoorPart37
import Derived.Test.YtmopfnhjooopkaaGreatDoorPart13
import Derived.Test.YtmopfnhjooopkaaGreatDoorPart11
import Derived.Test.YtmopfnhjooopkaaGreatDoorPart14

namespace Go.Proofs.YtmopfnhjooopkaaGreatDoor.Mo
open Go.RowKit

set_option maxRecDepth 100000 in
set_option maxHeartbeats 3200000 in
theorem qadd_same (g1 g2 : Bool) (p1 p2 p3 p4 : Option Addr) (m1 c1 m2 c2 m3 c3 m4 c4 : Nat) (U V D S : Int) (t : Rat) (hg : (g1 == g2) = true) (w : World) (M1 : ∀ x, Below w.heap.size w x → Calls Tryz.prog 68 #[.slice p1 m1 c1, .slice p4 m4 c4] x fun e w' => ∃ a l c, e = .returned (.slice a l c) ∧ Nl w' a l c U ∧ Below x.heap.size x w') (M2 : ∀ x, Below w.heap.size w x → Calls Tryz.prog 68 #[.slice p3 m3 c3, .slice p2 m2 c2] x fun e w' => ∃ a l c, e = .returned (.slice a l c) ∧ Nl w' a l c V ∧ Below x.heap.size x w') (M3 : ∀ x, Below w.heap.size w x → Calls Tryz.prog 68 #[.slice p2 m2 c2, .slice p4 m4 c4] x fun e w' => ∃ a l c, e = .returned (.slice a l c) ∧ Nl w' a l c D ∧ Below x.heap.size x w') (AD : ∀ x a l c a' l' c', Nl x a l c U → Nl x a' l' c' V → Calls Tryz.prog 69 #[.slice a l c, .slice a' l' c'] x fun e w' => ∃ a l c, e = .returned (.slice a l c) ∧ Nl w' a l c S ∧ Below x.heap.size x w') (MK : ∀ x a l c a' l' c', Nl x a l c S → Nl x a' l' c' D → Calls Tryz.prog 70 #[.bool g1, .slice a l c, .slice a' l' c'] x (Qf t x)) : Calls Tryz.prog 82 #[.agg #[.bool g1, .slice p1 m1 c1, .slice p2 m2 c2], .agg #[.bool g2, .slice p3 m3 c3, .slice p4 m4 c4]] w (Qf t w) := by
  have KA := ((Blk.new w #[.bool g1, .slice p1 m1 c1, .slice p2 m2 c2] 65).alloc (.cells #[.bool g2, .slice p3 m3 c3, .slice p4 m4 c4] 65)).alloc (.cells #[.bool false, .slice none 0 0, .slice none 0 0] 65)
  have KB := (Blk.new (w.alloc (.cells #[.bool g1, .slice p1 m1 c1, .slice p2 m2 c2] 65)) #[.bool g2, .slice p3 m3 c3, .slice p4 m4 c4] 65).alloc (.cells #[.bool false, .slice none 0 0, .slice none 0 0] 65)
  have KR := Rb.new ((w.alloc (.cells #[.bool g1, .slice p1 m1 c1, .slice p2 m2 c2] 65)).alloc (.cells #[.bool g2, .slice p3 m3 c3, .slice p4 m4 c4] 65)) (.bool false) (.slice none 0 0) (.slice none 0 0) 65
  have pr : Below w.heap.size w (((w.alloc (.cells #[.bool g1, .slice p1 m1 c1, .slice p2 m2 c2] 65)).alloc (.cells #[.bool g2, .slice p3 m3 c3, .slice p4 m4 c4] 65)).alloc (.cells #[.bool false, .slice none 0 0, .slice none 0 0] 65)) := (((Below.refl _ _).alloc (Nat.le_refl _) _).alloc (by simp) _).alloc (by simp; omega) _
  simp only [World.size_alloc] at KB KR
  go_enter Tryz.func82, Tryz.ntmps82
  go_wp2_with fail
  generalize (((w.alloc (.cells #[.bool g1, .slice p1 m1 c1, .slice p2 m2 c2] 65)).alloc (.cells #[.bool g2, .slice p3 m3 c3, .slice p4 m4 c4] 65)).alloc (.cells #[.bool false, .slice none 0 0, .slice none 0 0] 65)) = W at *
  have e0 := KA.at 0
  have e1 := KA.at 1
  have e2 := KA.at 2
  have e3 := KB.at 0
  have e4 := KB.at 1
  have e5 := KB.at 2
  simp at e0 e1 e2 e3 e4 e5
  have na : w.heap.size + 1 + 1 ≠ w.heap.size := by omega
  have nb : w.heap.size + 1 + 1 ≠ w.heap.size + 1 := by omega
  go_region_held3 (fun x => x.cell? ⟨w.heap.size, 0, none⟩ = some (.bool g1) ∧ x.cell? ⟨w.heap.size, 1, none⟩ = some (.slice p1 m1 c1) ∧ x.cell? ⟨w.heap.size, 2, none⟩ = some (.slice p2 m2 c2) ∧ x.cell? ⟨w.heap.size + 1, 0, none⟩ = some (.bool g2) ∧ x.cell? ⟨w.heap.size + 1, 1, none⟩ = some (.slice p3 m3 c3) ∧ x.cell? ⟨w.heap.size + 1, 2, none⟩ = some (.slice p4 m4 c4)) (first | exact ⟨x20, x21, x22, x23, x24, x25⟩ | exact ⟨x10, x11, x12, x13, x14, x15⟩ | go_keep) (first
    | (go_at_call 68; (have mk := d1); (refine (M2 _ (bel' pr d1)).mono ?_); (rintro e w2 ⟨a2, l2, k2, rfl, n2, b2⟩); (have d2 := bel' d1 b2); (have x20 := kc7 d2 e0); (have x21 := kc7 d2 e1); (have x22 := kc7 d2 e2); (have x23 := kc7 d2 e3); (have x24 := kc7 d2 e4); (have x25 := kc7 d2 e5))
    | (go_at_call 68; (refine (M1 _ (pr.drew)).mono ?_); (rintro e w1 ⟨a1, l1, k1, rfl, n1, b1⟩); (have d1 := undrew b1); (have x10 := kc7 d1 e0); (have x11 := kc7 d1 e1); (have x12 := kc7 d1 e2); (have x13 := kc7 d1 e3); (have x14 := kc7 d1 e4); (have x15 := kc7 d1 e5))
    | fail)
  go_wp2_with (first
    | (go_at_call 68; (refine (M3 _ (bel' pr d2)).mono ?_); (rintro e w3 ⟨a3, l3, k3, rfl, n3, b3⟩); (have d3 := bel' d2 b3); (have x30 := kc7 d3 e0); (have x31 := kc7 d3 e1); (have x32 := kc7 d3 e2); (have x33 := kc7 d3 e3); (have x34 := kc7 d3 e4); (have x35 := kc7 d3 e5))
    | fail)
  have n1 := n1.grow (bel' b2 b3)
  have n2 := n2.grow b3
  go_region_held3 (fun x => x.cell? ⟨w.heap.size, 0, none⟩ = some (.bool g1)) (first | exact y4 | exact y3 | exact y2 | go_keep) (first
    | (go_at_call 70; (have mk := f1); (refine (MK _ _ _ _ _ _ _ n5 (n3.grow f1)).mono ?_); (rintro e w6 ⟨g, a, l, c, a', l', c', rfl, tq, b6⟩); (have f2 := bel' f1 b6); (have dz := bel' d3 f2); (have KXs := qskip (KA.below dz KA.lt) na (.bool g) (.slice a l c) (.slice a' l' c')); (have R := KR.grow dz); (have q0 := R.c0); (have q1 := R.c1); (have q2 := R.c2); (have r0 := R.f0); (have r1 := R.f1); (have r2 := R.f2); (have y3 := kc7 dz e0); (have y4 := KXs.at 0); (simp at y4))
    | (go_at_call 69; (refine (AD _ _ _ _ _ _ _ (n1.grow ((Below.refl _ _).drew)) (n2.grow ((Below.refl _ _).drew))).mono ?_); (rintro e w5 ⟨a5, l5, k5, rfl, n5, b5⟩); (have f1 := undrew b5); (have y2 := kc7 (bel' d3 f1) e0))
    | fail)
  all_goals
    go_wp2_with fail
    obtain ⟨F0, F1, F2⟩ := R.put (.bool g) (.slice a l c) (.slice a' l' c')
    exact bodyPost_ret (v := .agg #[.bool g, .slice a l c, .slice a' l' c']) (by simp [results, Tryz.results82, go_sem, F0, F1, F2]) rfl ⟨g, a, l, c, a', l', c', rfl, qput tq R, bset3 (bel' pr dz) (show w.heap.size ≤ w.heap.size + 1 + 1 by omega)⟩
set_option maxRecDepth 100000 in
set_option maxHeartbeats 3200000 in
theorem qadd_ge (g1 g2 : Bool) (p1 p2 p3 p4 : Option Addr) (m1 c1 m2 c2 m3 c3 m4 c4 : Nat) (U V D S : Int) (t : Rat) (k : Int) (hg : (g1 == g2) = false) (hk : k ≥ 0) (w : World) (M1 : ∀ x, Below w.heap.size w x → Calls Tryz.prog 68 #[.slice p1 m1 c1, .slice p4 m4 c4] x fun e w' => ∃ a l c, e = .returned (.slice a l c) ∧ Nl w' a l c U ∧ Below x.heap.size x w') (M2 : ∀ x, Below w.heap.size w x → Calls Tryz.prog 68 #[.slice p3 m3 c3, .slice p2 m2 c2] x fun e w' => ∃ a l c, e = .returned (.slice a l c) ∧ Nl w' a l c V ∧ Below x.heap.size x w') (M3 : ∀ x, Below w.heap.size w x → Calls Tryz.prog 68 #[.slice p2 m2 c2, .slice p4 m4 c4] x fun e w' => ∃ a l c, e = .returned (.slice a l c) ∧ Nl w' a l c D ∧ Below x.heap.size x w') (CM : ∀ x a l c a' l' c', Nl x a l c U → Nl x a' l' c' V → Calls Tryz.prog 101 #[.slice a l c, .slice a' l' c'] x fun e w' => e = .returned (.int .i64 k) ∧ Below x.heap.size x w') (SB : ∀ x a l c a' l' c', Nl x a l c U → Nl x a' l' c' V → Calls Tryz.prog 140 #[.slice a l c, .slice a' l' c'] x fun e w' => ∃ a l c, e = .returned (.slice a l c) ∧ Nl w' a l c S ∧ Below x.heap.size x w') (MK : ∀ x a l c a' l' c', Nl x a l c S → Nl x a' l' c' D → Calls Tryz.prog 70 #[.bool g1, .slice a l c, .slice a' l' c'] x (Qf t x)) : Calls Tryz.prog 82 #[.agg #[.bool g1, .slice p1 m1 c1, .slice p2 m2 c2], .agg #[.bool g2, .slice p3 m3 c3, .slice p4 m4 c4]] w (Qf t w) := by
  have KA := ((Blk.new w #[.bool g1, .slice p1 m1 c1, .slice p2 m2 c2] 65).alloc (.cells #[.bool g2, .slice p3 m3 c3, .slice p4 m4 c4] 65)).alloc (.cells #[.bool false, .slice none 0 0, .slice none 0 0] 65)
  have KB := (Blk.new (w.alloc (.cells #[.bool g1, .slice p1 m1 c1, .slice p2 m2 c2] 65)) #[.bool g2, .slice p3 m3 c3, .slice p4 m4 c4] 65).alloc (.cells #[.bool false, .slice none 0 0, .slice none 0 0] 65)
  have KR := Rb.new ((w.alloc (.cells #[.bool g1, .slice p1 m1 c1, .slice p2 m2 c2] 65)).alloc (.cells #[.bool g2, .slice p3 m3 c3, .slice p4 m4 c4] 65)) (.bool false) (.slice none 0 0) (.slice none 0 0) 65
  have pr : Below w.heap.size w (((w.alloc (.cells #[.bool g1, .slice p1 m1 c1, .slice p2 m2 c2] 65)).alloc (.cells #[.bool g2, .slice p3 m3 c3, .slice p4 m4 c4] 65)).alloc (.cells #[.bool false, .slice none 0 0, .slice none 0 0] 65)) := (((Below.refl _ _).alloc (Nat.le_refl _) _).alloc (by simp) _).alloc (by simp; omega) _
  simp only [World.size_alloc] at KB KR
  go_enter Tryz.func82, Tryz.ntmps82
  go_wp2_with fail
  generalize (((w.alloc (.cells #[.bool g1, .slice p1 m1 c1, .slice p2 m2 c2] 65)).alloc (.cells #[.bool g2, .slice p3 m3 c3, .slice p4 m4 c4] 65)).alloc (.cells #[.bool false, .slice none 0 0, .slice none 0 0] 65)) = W at *
  have e0 := KA.at 0
  have e1 := KA.at 1
  have e2 := KA.at 2
  have e3 := KB.at 0
  have e4 := KB.at 1
  have e5 := KB.at 2
  simp at e0 e1 e2 e3 e4 e5
  have na : w.heap.size + 1 + 1 ≠ w.heap.size := by omega
  have nb : w.heap.size + 1 + 1 ≠ w.heap.size + 1 := by omega
  go_region_held3 (fun x => x.cell? ⟨w.heap.size, 0, none⟩ = some (.bool g1) ∧ x.cell? ⟨w.heap.size, 1, none⟩ = some (.slice p1 m1 c1) ∧ x.cell? ⟨w.heap.size, 2, none⟩ = some (.slice p2 m2 c2) ∧ x.cell? ⟨w.heap.size + 1, 0, none⟩ = some (.bool g2) ∧ x.cell? ⟨w.heap.size + 1, 1, none⟩ = some (.slice p3 m3 c3) ∧ x.cell? ⟨w.heap.size + 1, 2, none⟩ = some (.slice p4 m4 c4)) (first | exact ⟨x20, x21, x22, x23, x24, x25⟩ | exact ⟨x10, x11, x12, x13, x14, x15⟩ | go_keep) (first
    | (go_at_call 68; (have mk := d1); (refine (M2 _ (bel' pr d1)).mono ?_); (rintro e w2 ⟨a2, l2, k2, rfl, n2, b2⟩); (have d2 := bel' d1 b2); (have x20 := kc7 d2 e0); (have x21 := kc7 d2 e1); (have x22 := kc7 d2 e2); (have x23 := kc7 d2 e3); (have x24 := kc7 d2 e4); (have x25 := kc7 d2 e5))
    | (go_at_call 68; (refine (M1 _ (pr.drew)).mono ?_); (rintro e w1 ⟨a1, l1, k1, rfl, n1, b1⟩); (have d1 := undrew b1); (have x10 := kc7 d1 e0); (have x11 := kc7 d1 e1); (have x12 := kc7 d1 e2); (have x13 := kc7 d1 e3); (have x14 := kc7 d1 e4); (have x15 := kc7 d1 e5))
    | fail)
  go_wp2_with (first
    | (go_at_call 101; (have mk := d3); (refine (CM _ _ _ _ _ _ _ (n1.grow (bel' b2 b3)) (n2.grow b3)).mono ?_); (rintro e w9 ⟨rfl, b9⟩); (have d9 := bel' d3 b9); (have x90 := kc7 d9 e0); (have x91 := kc7 d9 e1); (have x92 := kc7 d9 e2); (have x93 := kc7 d9 e3); (have x94 := kc7 d9 e4); (have x95 := kc7 d9 e5))
    | (go_at_call 68; (refine (M3 _ (bel' pr d2)).mono ?_); (rintro e w3 ⟨a3, l3, k3, rfl, n3, b3⟩); (have d3 := bel' d2 b3); (have x30 := kc7 d3 e0); (have x31 := kc7 d3 e1); (have x32 := kc7 d3 e2); (have x33 := kc7 d3 e3); (have x34 := kc7 d3 e4); (have x35 := kc7 d3 e5))
    | fail)
  have n1 := n1.grow (bel' b2 b3)
  have n2 := n2.grow b3
  go_region_held3 (fun x => x.cell? ⟨w.heap.size, 0, none⟩ = some (.bool g1)) (first | exact y4 | exact y3 | exact y2 | go_keep) (first
    | (go_at_call 70; (have mk := f1); (refine (MK _ _ _ _ _ _ _ n5 (n3.grow (bel' b9 f1))).mono ?_); (rintro e w6 ⟨g, a, l, c, a', l', c', rfl, tq, b6⟩); (have f2 := bel' f1 b6); (have dz := bel' d9 f2); (have KXs := qskip (KA.below dz KA.lt) na (.bool g) (.slice a l c) (.slice a' l' c')); (have R := KR.grow dz); (have q0 := R.c0); (have q1 := R.c1); (have q2 := R.c2); (have r0 := R.f0); (have r1 := R.f1); (have r2 := R.f2); (have y3 := kc7 dz e0); (have y4 := KXs.at 0); (simp at y4))
    | (go_at_call 140; (refine (SB _ _ _ _ _ _ _ ((n1.grow b9).grow ((Below.refl _ _).drew)) ((n2.grow b9).grow ((Below.refl _ _).drew))).mono ?_); (rintro e w5 ⟨a5, l5, k5, rfl, n5, b5⟩); (have f1 := undrew b5); (have y2 := kc7 (bel' d9 f1) e0))
    | fail)
  all_goals
    go_wp2_with fail
    obtain ⟨F0, F1, F2⟩ := R.put (.bool g) (.slice a l c) (.slice a' l' c')
    exact bodyPost_ret (v := .agg #[.bool g, .slice a l c, .slice a' l' c']) (by simp [results, Tryz.results82, go_sem, F0, F1, F2]) rfl ⟨g, a, l, c, a', l', c', rfl, qput tq R, bset3 (bel' pr dz) (show w.heap.size ≤ w.heap.size + 1 + 1 by omega)⟩
set_option maxRecDepth 100000 in
set_option maxHeartbeats 3200000 in
theorem qadd_lt (g1 g2 : Bool) (p1 p2 p3 p4 : Option Addr) (m1 c1 m2 c2 m3 c3 m4 c4 : Nat) (U V D S : Int) (t : Rat) (k : Int) (hg : (g1 == g2) = false) (hk : ¬ k ≥ 0) (w : World) (M1 : ∀ x, Below w.heap.size w x → Calls Tryz.prog 68 #[.slice p1 m1 c1, .slice p4 m4 c4] x fun e w' => ∃ a l c, e = .returned (.slice a l c) ∧ Nl w' a l c U ∧ Below x.heap.size x w') (M2 : ∀ x, Below w.heap.size w x → Calls Tryz.prog 68 #[.slice p3 m3 c3, .slice p2 m2 c2] x fun e w' => ∃ a l c, e = .returned (.slice a l c) ∧ Nl w' a l c V ∧ Below x.heap.size x w') (M3 : ∀ x, Below w.heap.size w x → Calls Tryz.prog 68 #[.slice p2 m2 c2, .slice p4 m4 c4] x fun e w' => ∃ a l c, e = .returned (.slice a l c) ∧ Nl w' a l c D ∧ Below x.heap.size x w') (CM : ∀ x a l c a' l' c', Nl x a l c U → Nl x a' l' c' V → Calls Tryz.prog 101 #[.slice a l c, .slice a' l' c'] x fun e w' => e = .returned (.int .i64 k) ∧ Below x.heap.size x w') (SB : ∀ x a l c a' l' c', Nl x a l c V → Nl x a' l' c' U → Calls Tryz.prog 140 #[.slice a l c, .slice a' l' c'] x fun e w' => ∃ a l c, e = .returned (.slice a l c) ∧ Nl w' a l c S ∧ Below x.heap.size x w') (MK : ∀ x a l c a' l' c', Nl x a l c S → Nl x a' l' c' D → Calls Tryz.prog 70 #[.bool g2, .slice a l c, .slice a' l' c'] x (Qf t x)) : Calls Tryz.prog 82 #[.agg #[.bool g1, .slice p1 m1 c1, .slice p2 m2 c2], .agg #[.bool g2, .slice p3 m3 c3, .slice p4 m4 c4]] w (Qf t w) := by
  have KA := ((Blk.new w #[.bool g1, .slice p1 m1 c1, .slice p2 m2 c2] 65).alloc (.cells #[.bool g2, .slice p3 m3 c3, .slice p4 m4 c4] 65)).alloc (.cells #[.bool false, .slice none 0 0, .slice none 0 0] 65)
  have KB := (Blk.new (w.alloc (.cells #[.bool g1, .slice p1 m1 c1, .slice p2 m2 c2] 65)) #[.bool g2, .slice p3 m3 c3, .slice p4 m4 c4] 65).alloc (.cells #[.bool false, .slice none 0 0, .slice none 0 0] 65)
  have KR := Rb.new ((w.alloc (.cells #[.bool g1, .slice p1 m1 c1, .slice p2 m2 c2] 65)).alloc (.cells #[.bool g2, .slice p3 m3 c3, .slice p4 m4 c4] 65)) (.bool false) (.slice none 0 0) (.slice none 0 0) 65
  have pr : Below w.heap.size w (((w.alloc (.cells #[.bool g1, .slice p1 m1 c1, .slice p2 m2 c2] 65)).alloc (.cells #[.bool g2, .slice p3 m3 c3, .slice p4 m4 c4] 65)).alloc (.cells #[.bool false, .slice none 0 0, .slice none 0 0] 65)) := (((Below.refl _ _).alloc (Nat.le_refl _) _).alloc (by simp) _).alloc (by simp; omega) _
  simp only [World.size_alloc] at KB KR
  go_enter Tryz.func82, Tryz.ntmps82
  go_wp2_with fail
  generalize (((w.alloc (.cells #[.bool g1, .slice p1 m1 c1, .slice p2 m2 c2] 65)).alloc (.cells #[.bool g2, .slice p3 m3 c3, .slice p4 m4 c4] 65)).alloc (.cells #[.bool false, .slice none 0 0, .slice none 0 0] 65)) = W at *
  have e0 := KA.at 0
  have e1 := KA.at 1
  have e2 := KA.at 2
  have e3 := KB.at 0
  have e4 := KB.at 1
  have e5 := KB.at 2
  simp at e0 e1 e2 e3 e4 e5
  have na : w.heap.size + 1 + 1 ≠ w.heap.size := by omega
  have nb : w.heap.size + 1 + 1 ≠ w.heap.size + 1 := by omega
  go_region_held3 (fun x => x.cell? ⟨w.heap.size, 0, none⟩ = some (.bool g1) ∧ x.cell? ⟨w.heap.size, 1, none⟩ = some (.slice p1 m1 c1) ∧ x.cell? ⟨w.heap.size, 2, none⟩ = some (.slice p2 m2 c2) ∧ x.cell? ⟨w.heap.size + 1, 0, none⟩ = some (.bool g2) ∧ x.cell? ⟨w.heap.size + 1, 1, none⟩ = some (.slice p3 m3 c3) ∧ x.cell? ⟨w.heap.size + 1, 2, none⟩ = some (.slice p4 m4 c4)) (first | exact ⟨x20, x21, x22, x23, x24, x25⟩ | exact ⟨x10, x11, x12, x13, x14, x15⟩ | go_keep) (first
    | (go_at_call 68; (have mk := d1); (refine (M2 _ (bel' pr d1)).mono ?_); (rintro e w2 ⟨a2, l2, k2, rfl, n2, b2⟩); (have d2 := bel' d1 b2); (have x20 := kc7 d2 e0); (have x21 := kc7 d2 e1); (have x22 := kc7 d2 e2); (have x23 := kc7 d2 e3); (have x24 := kc7 d2 e4); (have x25 := kc7 d2 e5))
    | (go_at_call 68; (refine (M1 _ (pr.drew)).mono ?_); (rintro e w1 ⟨a1, l1, k1, rfl, n1, b1⟩); (have d1 := undrew b1); (have x10 := kc7 d1 e0); (have x11 := kc7 d1 e1); (have x12 := kc7 d1 e2); (have x13 := kc7 d1 e3); (have x14 := kc7 d1 e4); (have x15 := kc7 d1 e5))
    | fail)
  go_wp2_with (first
    | (go_at_call 101; (have mk := d3); (refine (CM _ _ _ _ _ _ _ (n1.grow (bel' b2 b3)) (n2.grow b3)).mono ?_); (rintro e w9 ⟨rfl, b9⟩); (have d9 := bel' d3 b9); (have x90 := kc7 d9 e0); (have x91 := kc7 d9 e1); (have x92 := kc7 d9 e2); (have x93 := kc7 d9 e3); (have x94 := kc7 d9 e4); (have x95 := kc7 d9 e5))
    | (go_at_call 68; (refine (M3 _ (bel' pr d2)).mono ?_); (rintro e w3 ⟨a3, l3, k3, rfl, n3, b3⟩); (have d3 := bel' d2 b3); (have x30 := kc7 d3 e0); (have x31 := kc7 d3 e1); (have x32 := kc7 d3 e2); (have x33 := kc7 d3 e3); (have x34 := kc7 d3 e4); (have x35 := kc7 d3 e5))
    | fail)
  have n1 := n1.grow (bel' b2 b3)
  have n2 := n2.grow b3
  go_region_held3 (fun x => x.cell? ⟨w.heap.size + 1, 0, none⟩ = some (.bool g2)) (first | exact y4 | exact y3 | exact y2 | go_keep) (first
    | (go_at_call 70; (have mk := f1); (refine (MK _ _ _ _ _ _ _ n5 (n3.grow (bel' b9 f1))).mono ?_); (rintro e w6 ⟨g, a, l, c, a', l', c', rfl, tq, b6⟩); (have f2 := bel' f1 b6); (have dz := bel' d9 f2); (have KXs := qskip (KB.below dz KB.lt) nb (.bool g) (.slice a l c) (.slice a' l' c')); (have R := KR.grow dz); (have q0 := R.c0); (have q1 := R.c1); (have q2 := R.c2); (have r0 := R.f0); (have r1 := R.f1); (have r2 := R.f2); (have y3 := kc7 dz e3); (have y4 := KXs.at 0); (simp at y4))
    | (go_at_call 140; (refine (SB _ _ _ _ _ _ _ ((n2.grow b9).grow ((Below.refl _ _).drew)) ((n1.grow b9).grow ((Below.refl _ _).drew))).mono ?_); (rintro e w5 ⟨a5, l5, k5, rfl, n5, b5⟩); (have f1 := undrew b5); (have y2 := kc7 (bel' d9 f1) e3))
    | fail)
  all_goals
    go_wp2_with fail
    obtain ⟨F0, F1, F2⟩ := R.put (.bool g) (.slice a l c) (.slice a' l' c')
    exact bodyPost_ret (v := .agg #[.bool g, .slice a l c, .slice a' l' c']) (by simp [results, Tryz.results82, go_sem, F0, F1, F2]) rfl ⟨g, a, l, c, a', l', c', rfl, qput tq R, bset3 (bel' pr dz) (show w.heap.size ≤ w.heap.size + 1 + 1 by omega)⟩
theorem pw_pp {K : Nat} : Tl.pw (K + K) + Tl.pw (K + K) ≤ Tl.pw (K + K + 1) := by
  have := Tl.pw_pos (K + K)
  simp only [Tl.pw]
  omega
theorem QAdd_s (a b : Value) (r s : Rat) (K : Nat) (w : World) (ha : L.IsQ w a r) (hb : L.IsQ w b s) (hr : L.QS r K) (hs : L.QS s K) (hK : K ≤ 1000000000) : Calls Tryz.prog 82 #[a, b] w (Qf (r + s) w) := by
  obtain ⟨p1, m1, c1, p2, m2, c2, rfl, n1, n2, _⟩ := nl_isq ha
  obtain ⟨p3, m3, c3, p4, m4, c4, rfl, n3, n4, _⟩ := nl_isq hb
  have er := L.num_sg r
  have es := L.num_sg s
  have uB := lt_pp (Int.natCast_nonneg r.num.natAbs) hr.1 (Int.natCast_nonneg s.den) hs.2
  have vB := lt_pp (Int.natCast_nonneg s.num.natAbs) hs.1 (Int.natCast_nonneg r.den) hr.2
  have dB := lt_pp (Int.natCast_nonneg r.den) hr.2 (Int.natCast_nonneg s.den) hs.2
  have d0 := Int.mul_pos (L.den_pos' r) (L.den_pos' s)
  have u0 := Int.mul_nonneg (Int.natCast_nonneg r.num.natAbs) (Int.natCast_nonneg s.den)
  have v0 := Int.mul_nonneg (Int.natCast_nonneg s.num.natAbs) (Int.natCast_nonneg r.den)
  have pp := pw_pp (K := K)
  by_cases hg : decide (r.num < 0) = decide (s.num < 0)
  · have e : mkRat (L.sgI (decide (r.num < 0)) ((r.num.natAbs : Int) * s.den + (s.num.natAbs : Int) * r.den)) ((r.den : Int) * s.den).toNat = r + s := by
      refine L.add_rat r s _ ?_
      rw [← hg] at es
      generalize decide (r.num < 0) = g at *
      rw [er, es]
      cases g
      · simp only [L.sgI, Bool.false_eq_true, if_false]; simp
      · simp only [L.sgI, if_true]; simp; grind
    rw [← e]
    exact qadd_same _ _ p1 p2 p3 p4 m1 c1 m2 c2 m3 c3 m4 c4 _ _ _ _ _ (by rw [hg]; simp) w (fun x b => mul_nl (n1.grow b) (n4.grow b) hr.1 hs.2 hK) (fun x b => mul_nl (n3.grow b) (n2.grow b) hs.1 hr.2 hK) (fun x b => mul_nl (n2.grow b) (n4.grow b) hr.2 hs.2 hK) (fun x a l c a' l' c' h h' => add_nl h h' uB vB (by omega)) (fun x a l c a' l' c' h h' => make_nl _ h h' (K := K + K + 1) (by omega) (by omega) (by omega) d0)
  · have hg' : (decide (r.num < 0) == decide (s.num < 0)) = false := by simpa using hg
    by_cases le : (s.num.natAbs : Int) * r.den ≤ (r.num.natAbs : Int) * s.den
    · have e : mkRat (L.sgI (decide (r.num < 0)) ((r.num.natAbs : Int) * s.den - (s.num.natAbs : Int) * r.den)) ((r.den : Int) * s.den).toNat = r + s := by
        refine L.add_rat r s _ ?_
        generalize decide (r.num < 0) = g at *
        generalize decide (s.num < 0) = g' at *
        rw [er, es]
        cases g <;> cases g'
        · exact absurd rfl hg
        · simp only [L.sgI, Bool.false_eq_true, if_false, if_true]; simp; grind
        · simp only [L.sgI, Bool.false_eq_true, if_false, if_true]; simp; grind
        · exact absurd rfl hg
      rw [← e]
      exact qadd_ge _ _ p1 p2 p3 p4 m1 c1 m2 c2 m3 c3 m4 c4 _ _ _ _ _ _ hg' (by unfold L.cmp3; rw [if_neg (by omega)]; split <;> decide) w (fun x b => mul_nl (n1.grow b) (n4.grow b) hr.1 hs.2 hK) (fun x b => mul_nl (n3.grow b) (n2.grow b) hs.1 hr.2 hK) (fun x b => mul_nl (n2.grow b) (n4.grow b) hr.2 hs.2 hK) (fun x a l c a' l' c' h h' => cmp_nl h h' uB (by omega)) (fun x a l c a' l' c' h h' => sub_nl h h' uB (by omega) le) (fun x a l c a' l' c' h h' => make_nl _ h h' (K := K + K) (by omega) dB (by omega) d0)
    · have e : mkRat (L.sgI (decide (s.num < 0)) ((s.num.natAbs : Int) * r.den - (r.num.natAbs : Int) * s.den)) ((r.den : Int) * s.den).toNat = r + s := by
        refine L.add_rat r s _ ?_
        generalize decide (r.num < 0) = g at *
        generalize decide (s.num < 0) = g' at *
        rw [er, es]
        cases g <;> cases g'
        · exact absurd rfl hg
        · simp only [L.sgI, Bool.false_eq_true, if_false, if_true]; simp; grind
        · simp only [L.sgI, Bool.false_eq_true, if_false, if_true]; simp; grind
        · exact absurd rfl hg
      rw [← e]
      exact qadd_lt _ _ p1 p2 p3 p4 m1 c1 m2 c2 m3 c3 m4 c4 _ _ _ _ _ _ hg' (by unfold L.cmp3; rw [if_pos (by omega)]; decide) w (fun x b => mul_nl (n1.grow b) (n4.grow b) hr.1 hs.2 hK) (fun x b => mul_nl (n3.grow b) (n2.grow b) hs.1 hr.2 hK) (fun x b => mul_nl (n2.grow b) (n4.grow b) hr.2 hs.2 hK) (fun x a l c a' l' c' h h' => cmp_nl h h' uB (by omega)) (fun x a l c a' l' c' h h' => sub_nl h h' vB (by omega) (by omega)) (fun x a l c a' l' c' h h' => make_nl _ h h' (K := K + K) (by omega) dB (by omega) d0)
end Go.Proofs.YtmopfnhjooopkaaGreatDoor.Mo

namespace Go.Proofs.YtmopfnhjooopkaaGreatDoor.Mo
open Go.RowKit Ip

structure IPQ (W x : World) (V0 V1 V2 V6 V7 V8 V9 V11 V12 V13 : Value) (N10 N14 : Int) (y0 y1 y2 y3 y4 y5 y6 y7 y8 y9 y10 y11 y12 y13 y14 : Bool) (t5 t6 t7 t8 t9 t10 t11 t12 t13 t14 t15 t16 t17 t18 t19 : Value) : Prop where
  bel : Below W.heap.size W x
  o0 : y0 = true → t5 = V0
  o1 : y1 = true → t6 = V1
  o2 : y2 = true → t7 = V2
  o6 : y6 = true → t11 = V6
  o7 : y7 = true → t12 = V7
  o8 : y8 = true → t13 = V8
  o9 : y9 = true → t14 = V9
  o11 : y11 = true → t16 = V11
  o12 : y12 = true → t17 = V12
  o13 : y13 = true → t18 = V13
  o10 : y10 = true → NLV N10 t15 x
  o14 : y14 = true → NLV N14 t19 x
  o3 : y3 = true → t8 = undef
  o4 : y4 = true → t9 = undef
  o5 : y5 = true → t10 = undef
  d1_0 : y1 = true → y0 = true
  d2_1 : y2 = true → y1 = true
  d4_3 : y4 = true → y3 = true
  d5_4 : y5 = true → y4 = true
  d6_2 : y6 = true → y2 = true
  d6_5 : y6 = true → y5 = true
  d8_7 : y8 = true → y7 = true
  d10_8 : y10 = true → y8 = true
  d10_9 : y10 = true → y9 = true
  d12_11 : y12 = true → y11 = true
  d14_12 : y14 = true → y12 = true
  d14_13 : y14 = true → y13 = true
theorem IPQ.grow {W x x' : World} {V0 V1 V2 V6 V7 V8 V9 V11 V12 V13 : Value} {N10 N14 : Int} {y0 y1 y2 y3 y4 y5 y6 y7 y8 y9 y10 y11 y12 y13 y14 : Bool} {t5 t6 t7 t8 t9 t10 t11 t12 t13 t14 t15 t16 t17 t18 t19 : Value} (h : IPQ W x V0 V1 V2 V6 V7 V8 V9 V11 V12 V13 N10 N14 y0 y1 y2 y3 y4 y5 y6 y7 y8 y9 y10 y11 y12 y13 y14 t5 t6 t7 t8 t9 t10 t11 t12 t13 t14 t15 t16 t17 t18 t19) (b : Below x.heap.size x x') : IPQ W x' V0 V1 V2 V6 V7 V8 V9 V11 V12 V13 N10 N14 y0 y1 y2 y3 y4 y5 y6 y7 y8 y9 y10 y11 y12 y13 y14 t5 t6 t7 t8 t9 t10 t11 t12 t13 t14 t15 t16 t17 t18 t19 where
  bel := bel' h.bel b
  o0 := h.o0
  o1 := h.o1
  o2 := h.o2
  o6 := h.o6
  o7 := h.o7
  o8 := h.o8
  o9 := h.o9
  o11 := h.o11
  o12 := h.o12
  o13 := h.o13
  o3 := h.o3
  o4 := h.o4
  o5 := h.o5
  o10 := fun u => (h.o10 u).grow b
  o14 := fun u => (h.o14 u).grow b
  d1_0 := h.d1_0
  d2_1 := h.d2_1
  d4_3 := h.d4_3
  d5_4 := h.d5_4
  d6_2 := h.d6_2
  d6_5 := h.d6_5
  d8_7 := h.d8_7
  d10_8 := h.d10_8
  d10_9 := h.d10_9
  d12_11 := h.d12_11
  d14_12 := h.d14_12
  d14_13 := h.d14_13
set_option maxHeartbeats 3200000 in
set_option maxRecDepth 100000 in
theorem QPow_r (A1 A2 : Option Addr) (M1 C1 M2 C2 : Nat) (m P Q : Int) (w : World)
    (U1 : ∀ x, Below w.heap.size w x → Calls Tryz.prog 105 #[.slice A1 M1 C1, .int .i64 m] x fun e w' => ∃ a l c, e = .returned (.slice a l c) ∧ Nl w' a l c P ∧ Below x.heap.size x w') (U2 : ∀ x, Below w.heap.size w x → Calls Tryz.prog 105 #[.slice A2 M2 C2, .int .i64 m] x fun e w' => ∃ a l c, e = .returned (.slice a l c) ∧ Nl w' a l c Q ∧ Below x.heap.size x w') :
    Calls Tryz.prog 45 #[.agg #[.bool false, .slice A1 M1 C1, .slice A2 M2 C2], .int .i64 m] w fun e w' => ∃ a l c a' l' c', e = .returned (.agg #[.bool false, .slice a l c, .slice a' l' c']) ∧ Nl w' a l c P ∧ Nl w' a' l' c' Q ∧ Below w.heap.size w w' := by
  have K0 := (Rb.new w (.bool false) (.slice A1 M1 C1) (.slice A2 M2 C2) 65).alloc (.cells #[.bool false, .slice none 0 0, .slice none 0 0] 65)
  have K1 := Rb.new (w.alloc (.cells #[.bool false, .slice A1 M1 C1, .slice A2 M2 C2] 65)) (.bool false) (.slice none 0 0) (.slice none 0 0) 65
  have pr : Below w.heap.size w ((w.alloc (.cells #[.bool false, .slice A1 M1 C1, .slice A2 M2 C2] 65)).alloc (.cells #[.bool false, .slice none 0 0, .slice none 0 0] 65)) := ((Below.refl _ _).alloc (Nat.le_refl _) _).alloc (by simp) _
  simp only [World.size_alloc] at K1
  replace U1 := fun x b => U1 x (bel' pr b)
  replace U2 := fun x b => U2 x (bel' pr b)
  go_enter Tryz.func45, Tryz.ntmps45
  go_wp2_with fail
  generalize (w.alloc (.cells #[.bool false, .slice A1 M1 C1, .slice A2 M2 C2] 65)).alloc (.cells #[.bool false, .slice none 0 0, .slice none 0 0] 65) = W at *
  go_cut [] from 5 to 20 (fun wd => ∃ x0 a1 l1 c1 a2 l2 c2, wd = ((x0.setCell ⟨w.heap.size + 1, 0, none⟩ (.bool false)).setCell ⟨w.heap.size + 1, 1, none⟩ (.slice a1 l1 c1)).setCell ⟨w.heap.size + 1, 2, none⟩ (.slice a2 l2 c2) ∧ Nl x0 a1 l1 c1 P ∧ Nl x0 a2 l2 c2 Q ∧ Below W.heap.size W x0)
  case first =>
    rename_i hm hJ
    refine wp_region_held (S := fun _ => True) (by kernel_rfl) (any_inv (fun listed a x => ∃ (y0 y1 y2 y3 y4 y5 y6 y7 y8 y9 y10 y11 y12 y13 y14 : Bool) (t5 t6 t7 t8 t9 t10 t11 t12 t13 t14 t15 t16 t17 t18 t19 : Value) (z20 : Value), a = ⟨#[.agg #[.bool false, .slice A1 M1 C1, .slice A2 M2 C2], .int .i64 m, .pointer (some ⟨w.heap.size, 0, none⟩), undef, .pointer (some ⟨w.heap.size + 1, 0, none⟩), t5, t6, t7, t8, t9, t10, t11, t12, t13, t14, t15, t16, t17, t18, t19, z20], []⟩ ∧ ((listed = #[y0, y1, y2, y3, y4, y5, y6, y7, y8, y9, y10, y11, y12, y13, y14, false, false] ∧ IPQ W x (.pointer (some ⟨w.heap.size, 0, none⟩)) (.bool false) (.bool false) (.bool false) (.pointer (some ⟨w.heap.size, 1, none⟩)) (.slice A1 M1 C1) (.int .i64 m) (.pointer (some ⟨w.heap.size, 2, none⟩)) (.slice A2 M2 C2) (.int .i64 m) (P) (Q) y0 y1 y2 y3 y4 y5 y6 y7 y8 y9 y10 y11 y12 y13 y14 t5 t6 t7 t8 t9 t10 t11 t12 t13 t14 t15 t16 t17 t18 t19 ∧ z20 = undef) ∨ (listed = #[true, true, true, true, true, true, true, true, true, true, true, true, true, true, true, true, false] ∧ ∃ a1 l1 c1 a2 l2 c2, z20 = .agg #[.bool false, .slice a1 l1 c1, .slice a2 l2 c2] ∧ Nl x a1 l1 c1 P ∧ Nl x a2 l2 c2 Q ∧ Below W.heap.size W x) ∨ (listed = #[true, true, true, true, true, true, true, true, true, true, true, true, true, true, true, true, true] ∧ ∃ x0 a1 l1 c1 a2 l2 c2, x = ((x0.setCell ⟨w.heap.size + 1, 0, none⟩ (.bool false)).setCell ⟨w.heap.size + 1, 1, none⟩ (.slice a1 l1 c1)).setCell ⟨w.heap.size + 1, 2, none⟩ (.slice a2 l2 c2) ∧ Nl x0 a1 l1 c1 P ∧ Nl x0 a2 l2 c2 Q ∧ Below W.heap.size W x0))) ?_ ?_ _ _ _ _ (by decide) ?_)
    · rintro listed a x i ⟨y0, y1, y2, y3, y4, y5, y6, y7, y8, y9, y10, y11, y12, y13, y14, t5, t6, t7, t8, t9, t10, t11, t12, t13, t14, t15, t16, t17, t18, t19, z20, rfl, h⟩ hi
      have hr : i < 17 := List.mem_range.1 (List.mem_filter.1 hi).1
      have hc := (List.mem_filter.1 hi).2
      rcases h with ⟨rfl, h⟩ | ⟨rfl, h⟩ | ⟨rfl, h⟩
      · rcases (show i = 0 ∨ i = 1 ∨ i = 2 ∨ i = 3 ∨ i = 4 ∨ i = 5 ∨ i = 6 ∨ i = 7 ∨ i = 8 ∨ i = 9 ∨ i = 10 ∨ i = 11 ∨ i = 12 ∨ i = 13 ∨ i = 14 ∨ i = 15 ∨ i = 16 by omega) with rfl | rfl | rfl | rfl | rfl | rfl | rfl | rfl | rfl | rfl | rfl | rfl | rfl | rfl | rfl | rfl | rfl
        · obtain ⟨h, rfl⟩ := h
          clear hc hi
          refine wpOp_go rfl rfl (fun K hK => ?_)
          go_wp2_with fail
          exact hK.out _ _ ⟨true,_,_,_,_,_,_,_,_,_,_,_,_,_,_,.pointer (some ⟨w.heap.size, 0, none⟩),_,_,_,_,_,_,_,_,_,_,_,_,_,_,undef,rfl,Or.inl ⟨rfl, ⟨{ h with o0 := fun _ => rfl, d1_0 := fun _ => rfl }, rfl⟩⟩⟩
        · obtain ⟨h, rfl⟩ := h
          have e0 : y0 = true := by revert hc; cases y0 <;> simp [Region.binds]
          have r0 := h.o0 e0; subst r0
          clear hc hi
          have kd := (K0.grow h.bel).c0
          refine wpOp_go rfl rfl (fun K hK => ?_)
          go_wp2_with fail
          exact hK.out _ _ ⟨_,true,_,_,_,_,_,_,_,_,_,_,_,_,_,_,.bool false,_,_,_,_,_,_,_,_,_,_,_,_,_,undef,rfl,Or.inl ⟨rfl, ⟨{ h with o1 := fun _ => rfl, d1_0 := fun _ => e0, d2_1 := fun _ => rfl }, rfl⟩⟩⟩
        · obtain ⟨h, rfl⟩ := h
          have e1 : y1 = true := by revert hc; cases y1 <;> simp [Region.binds]
          have r1 := h.o1 e1; subst r1
          clear hc hi
          refine wpOp_go rfl rfl (fun K hK => ?_)
          go_wp2_with fail
          exact hK.out _ _ ⟨_,_,true,_,_,_,_,_,_,_,_,_,_,_,_,_,_,.bool false,_,_,_,_,_,_,_,_,_,_,_,_,undef,rfl,Or.inl ⟨rfl, ⟨{ h with o2 := fun _ => rfl, d2_1 := fun _ => e1, d6_2 := fun _ => rfl }, rfl⟩⟩⟩
        · obtain ⟨h, rfl⟩ := h
          have e2 : y2 = true := by revert hc; cases y2 <;> simp [Region.binds]
          have r2 := h.o2 e2; subst r2
          clear hc hi
          exact wpOp_skip rfl rfl ⟨y0, y1, y2, true, y4, y5, y6, y7, y8, y9, y10, y11, y12, y13, y14, t5, t6, _, _, t9, t10, t11, t12, t13, t14, t15, t16, t17, t18, t19, undef, rfl, Or.inl ⟨rfl, ⟨{ h with o3 := fun _ => rfl, d4_3 := fun _ => rfl }, rfl⟩⟩⟩
        · obtain ⟨h, rfl⟩ := h
          have e3 : y3 = true := by revert hc; cases y3 <;> simp [Region.binds]
          have e2 : y2 = true := by revert hc; cases y2 <;> simp [Region.binds]
          have r2 := h.o2 e2; subst r2
          clear hc hi
          exact wpOp_skip rfl rfl ⟨y0, y1, y2, y3, true, y5, y6, y7, y8, y9, y10, y11, y12, y13, y14, t5, t6, _, t8, _, t10, t11, t12, t13, t14, t15, t16, t17, t18, t19, undef, rfl, Or.inl ⟨rfl, ⟨{ h with o4 := fun _ => rfl, d4_3 := fun _ => e3, d5_4 := fun _ => rfl }, rfl⟩⟩⟩
        · obtain ⟨h, rfl⟩ := h
          have e4 : y4 = true := by revert hc; cases y4 <;> simp [Region.binds]
          have e2 : y2 = true := by revert hc; cases y2 <;> simp [Region.binds]
          have r2 := h.o2 e2; subst r2
          clear hc hi
          exact wpOp_skip rfl rfl ⟨y0, y1, y2, y3, y4, true, y6, y7, y8, y9, y10, y11, y12, y13, y14, t5, t6, _, t8, t9, _, t11, t12, t13, t14, t15, t16, t17, t18, t19, undef, rfl, Or.inl ⟨rfl, ⟨{ h with o5 := fun _ => rfl, d5_4 := fun _ => e4, d6_5 := fun _ => rfl }, rfl⟩⟩⟩
        · obtain ⟨h, rfl⟩ := h
          have e2 : y2 = true := by revert hc; cases y2 <;> simp [Region.binds]
          have e5 : y5 = true := by revert hc; cases y5 <;> simp [Region.binds]
          have r2 := h.o2 e2; subst r2
          have r5 := h.o5 e5; subst r5
          clear hc hi
          refine wpOp_go rfl rfl (fun K hK => ?_)
          go_wp2_with fail
          exact hK.out _ _ ⟨_,_,_,_,_,_,true,_,_,_,_,_,_,_,_,_,_,_,_,_,_,.bool false,_,_,_,_,_,_,_,_,undef,rfl,Or.inl ⟨rfl, ⟨{ h with o6 := fun _ => rfl, d6_2 := fun _ => e2, d6_5 := fun _ => e5 }, rfl⟩⟩⟩
        · obtain ⟨h, rfl⟩ := h
          clear hc hi
          refine wpOp_go rfl rfl (fun K hK => ?_)
          go_wp2_with fail
          exact hK.out _ _ ⟨_,_,_,_,_,_,_,true,_,_,_,_,_,_,_,_,_,_,_,_,_,_,.pointer (some ⟨w.heap.size, 1, none⟩),_,_,_,_,_,_,_,undef,rfl,Or.inl ⟨rfl, ⟨{ h with o7 := fun _ => rfl, d8_7 := fun _ => rfl }, rfl⟩⟩⟩
        · obtain ⟨h, rfl⟩ := h
          have e7 : y7 = true := by revert hc; cases y7 <;> simp [Region.binds]
          have r7 := h.o7 e7; subst r7
          clear hc hi
          have kd := (K0.grow h.bel).c1
          refine wpOp_go rfl rfl (fun K hK => ?_)
          go_wp2_with fail
          exact hK.out _ _ ⟨_,_,_,_,_,_,_,_,true,_,_,_,_,_,_,_,_,_,_,_,_,_,_,.slice A1 M1 C1,_,_,_,_,_,_,undef,rfl,Or.inl ⟨rfl, ⟨{ h with o8 := fun _ => rfl, d8_7 := fun _ => e7, d10_8 := fun _ => rfl }, rfl⟩⟩⟩
        · obtain ⟨h, rfl⟩ := h
          clear hc hi
          refine wpOp_go rfl rfl (fun K hK => ?_)
          go_wp2_with fail
          exact hK.out _ _ ⟨_,_,_,_,_,_,_,_,_,true,_,_,_,_,_,_,_,_,_,_,_,_,_,_,.int .i64 m,_,_,_,_,_,undef,rfl,Or.inl ⟨rfl, ⟨{ h with o9 := fun _ => rfl, d10_9 := fun _ => rfl }, rfl⟩⟩⟩
        · obtain ⟨h, rfl⟩ := h
          have e8 : y8 = true := by revert hc; cases y8 <;> simp [Region.binds]
          have e9 : y9 = true := by revert hc; cases y9 <;> simp [Region.binds]
          have r8 := h.o8 e8; subst r8
          have r9 := h.o9 e9; subst r9
          clear hc hi
          refine wpOp_go rfl rfl (fun K hK => ?_)
          go_wp2_with (first | (go_at_call 105; go_must (refine (U1 x h.bel).mono ?_; rintro e x2 ⟨a9, l9, c9, rfl, H9, bb⟩)) | fail)
          exact hK.out _ _ ⟨_,_,_,_,_,_,_,_,_,_,true,_,_,_,_,_,_,_,_,_,_,_,_,_,_,_,_,_,_,_,undef,rfl,Or.inl ⟨rfl, ⟨{ h.grow bb with o10 := fun _ => ⟨a9, l9, c9, rfl, H9⟩, d10_8 := fun _ => e8, d10_9 := fun _ => e9 }, rfl⟩⟩⟩
        · obtain ⟨h, rfl⟩ := h
          clear hc hi
          refine wpOp_go rfl rfl (fun K hK => ?_)
          go_wp2_with fail
          exact hK.out _ _ ⟨_,_,_,_,_,_,_,_,_,_,_,true,_,_,_,_,_,_,_,_,_,_,_,_,_,_,.pointer (some ⟨w.heap.size, 2, none⟩),_,_,_,undef,rfl,Or.inl ⟨rfl, ⟨{ h with o11 := fun _ => rfl, d12_11 := fun _ => rfl }, rfl⟩⟩⟩
        · obtain ⟨h, rfl⟩ := h
          have e11 : y11 = true := by revert hc; cases y11 <;> simp [Region.binds]
          have r11 := h.o11 e11; subst r11
          clear hc hi
          have kd := (K0.grow h.bel).c2
          refine wpOp_go rfl rfl (fun K hK => ?_)
          go_wp2_with fail
          exact hK.out _ _ ⟨_,_,_,_,_,_,_,_,_,_,_,_,true,_,_,_,_,_,_,_,_,_,_,_,_,_,_,.slice A2 M2 C2,_,_,undef,rfl,Or.inl ⟨rfl, ⟨{ h with o12 := fun _ => rfl, d12_11 := fun _ => e11, d14_12 := fun _ => rfl }, rfl⟩⟩⟩
        · obtain ⟨h, rfl⟩ := h
          clear hc hi
          refine wpOp_go rfl rfl (fun K hK => ?_)
          go_wp2_with fail
          exact hK.out _ _ ⟨_,_,_,_,_,_,_,_,_,_,_,_,_,true,_,_,_,_,_,_,_,_,_,_,_,_,_,_,.int .i64 m,_,undef,rfl,Or.inl ⟨rfl, ⟨{ h with o13 := fun _ => rfl, d14_13 := fun _ => rfl }, rfl⟩⟩⟩
        · obtain ⟨h, rfl⟩ := h
          have e12 : y12 = true := by revert hc; cases y12 <;> simp [Region.binds]
          have e13 : y13 = true := by revert hc; cases y13 <;> simp [Region.binds]
          have r12 := h.o12 e12; subst r12
          have r13 := h.o13 e13; subst r13
          clear hc hi
          refine wpOp_go rfl rfl (fun K hK => ?_)
          go_wp2_with (first | (go_at_call 105; go_must (refine (U2 x h.bel).mono ?_; rintro e x2 ⟨a9, l9, c9, rfl, H9, bb⟩)) | fail)
          exact hK.out _ _ ⟨_,_,_,_,_,_,_,_,_,_,_,_,_,_,true,_,_,_,_,_,_,_,_,_,_,_,_,_,_,_,undef,rfl,Or.inl ⟨rfl, ⟨{ h.grow bb with o14 := fun _ => ⟨a9, l9, c9, rfl, H9⟩, d14_12 := fun _ => e12, d14_13 := fun _ => e13 }, rfl⟩⟩⟩
        · obtain ⟨h, rfl⟩ := h
          have e6 : y6 = true := by revert hc; cases y6 <;> simp [Region.binds]
          have e10 : y10 = true := by revert hc; cases y10 <;> simp [Region.binds]
          have e14 : y14 = true := by revert hc; cases y14 <;> simp [Region.binds]
          have e2 := h.d6_2 e6
          have e5 := h.d6_5 e6
          have e8 := h.d10_8 e10
          have e9 := h.d10_9 e10
          have e12 := h.d14_12 e14
          have e13 := h.d14_13 e14
          have e1 := h.d2_1 e2
          have e4 := h.d5_4 e5
          have e7 := h.d8_7 e8
          have e11 := h.d12_11 e12
          have e0 := h.d1_0 e1
          have e3 := h.d4_3 e4
          have r6 := h.o6 e6; subst r6
          obtain ⟨a10, l10, c10, rfl, H10⟩ := h.o10 e10
          obtain ⟨a14, l14, c14, rfl, H14⟩ := h.o14 e14
          clear hc hi
          subst e0 e1 e2 e3 e4 e5 e6 e7 e8 e9 e10 e11 e12 e13 e14
          have bl := h.bel
          clear h
          refine wpOp_go rfl rfl (fun K hK => ?_)
          go_wp2_with fail
          exact hK.out _ _ ⟨true,true,true,true,true,true,true,true,true,true,true,true,true,true,true,_,_,_,_,_,_,_,_,_,_,_,_,_,_,_,_,rfl,Or.inr (Or.inl ⟨rfl, a10, l10, c10, a14, l14, c14, rfl, H10, H14, bl⟩)⟩
        · simp [Region.binds] at hc
      · rcases (show i = 0 ∨ i = 1 ∨ i = 2 ∨ i = 3 ∨ i = 4 ∨ i = 5 ∨ i = 6 ∨ i = 7 ∨ i = 8 ∨ i = 9 ∨ i = 10 ∨ i = 11 ∨ i = 12 ∨ i = 13 ∨ i = 14 ∨ i = 15 ∨ i = 16 by omega) with rfl | rfl | rfl | rfl | rfl | rfl | rfl | rfl | rfl | rfl | rfl | rfl | rfl | rfl | rfl | rfl | rfl
        · simp at hc
        · simp at hc
        · simp at hc
        · simp at hc
        · simp at hc
        · simp at hc
        · simp at hc
        · simp at hc
        · simp at hc
        · simp at hc
        · simp at hc
        · simp at hc
        · simp at hc
        · simp at hc
        · simp at hc
        · simp at hc
        · clear hc hi
          obtain ⟨a1, l1, c1, a2, l2, c2, rfl, H1, H2, bl⟩ := h
          have kr := K1.grow bl
          have kr0 := kr.c0
          have kr1 := kr.c1
          have kr2 := kr.c2
          have kf0 := kr.f0
          have kf1 := kr.f1
          have kf2 := kr.f2
          clear kr
          refine wpOp_go rfl rfl (fun K hK => ?_)
          go_wp2_with fail
          exact hK.out _ _ ⟨true,true,true,true,true,true,true,true,true,true,true,true,true,true,true,_,_,_,_,_,_,_,_,_,_,_,_,_,_,_,_,rfl,Or.inr (Or.inr (⟨rfl, x, a1, l1, c1, a2, l2, c2, rfl, H1, H2, bl⟩))⟩
      · rcases (show i = 0 ∨ i = 1 ∨ i = 2 ∨ i = 3 ∨ i = 4 ∨ i = 5 ∨ i = 6 ∨ i = 7 ∨ i = 8 ∨ i = 9 ∨ i = 10 ∨ i = 11 ∨ i = 12 ∨ i = 13 ∨ i = 14 ∨ i = 15 ∨ i = 16 by omega) with rfl | rfl | rfl | rfl | rfl | rfl | rfl | rfl | rfl | rfl | rfl | rfl | rfl | rfl | rfl | rfl | rfl <;> simp at hc
    · rintro listed a x ⟨y0, y1, y2, y3, y4, y5, y6, y7, y8, y9, y10, y11, y12, y13, y14, t5, t6, t7, t8, t9, t10, t11, t12, t13, t14, t15, t16, t17, t18, t19, z20, rfl, h⟩ hn
      have al := all_listed (by decide +kernel) hn
      rcases h with ⟨rfl, h⟩ | ⟨rfl, h⟩ | ⟨rfl, h⟩
      · have z := al 15 (by decide)
        simp at z
      · have z := al 16 (by decide)
        simp at z
      · obtain ⟨x0, a1, l1, c1, a2, l2, c2, rfl, H1, H2, bl⟩ := h
        refine hJ _ _ ?_
        go_meet
        case rel => exact ⟨x0, a1, l1, c1, a2, l2, c2, rfl, H1, H2, bl⟩
    · exact ⟨false, false, false, false, false, false, false, false, false, false, false, false, false, false, false, undef, undef, undef, undef, undef, undef, undef, undef, undef, undef, undef, undef, undef, undef, undef, undef, rfl, Or.inl ⟨rfl, ⟨{ bel := (Below.refl _ _).drew, o0 := (by intro q; cases q), o1 := (by intro q; cases q), o2 := (by intro q; cases q), o3 := (by intro q; cases q), o4 := (by intro q; cases q), o5 := (by intro q; cases q), o6 := (by intro q; cases q), o7 := (by intro q; cases q), o8 := (by intro q; cases q), o9 := (by intro q; cases q), o10 := (by intro q; cases q), o11 := (by intro q; cases q), o12 := (by intro q; cases q), o13 := (by intro q; cases q), o14 := (by intro q; cases q), d1_0 := (by intro q; cases q), d2_1 := (by intro q; cases q), d4_3 := (by intro q; cases q), d5_4 := (by intro q; cases q), d6_2 := (by intro q; cases q), d6_5 := (by intro q; cases q), d8_7 := (by intro q; cases q), d10_8 := (by intro q; cases q), d10_9 := (by intro q; cases q), d12_11 := (by intro q; cases q), d14_12 := (by intro q; cases q), d14_13 := (by intro q; cases q) }, rfl⟩⟩⟩
  case rest =>
    obtain ⟨x0, a1, l1, c1, a2, l2, c2, rfl, H1, H2, bl⟩ := hcut
    have kr := K1.grow bl
    have q7 := H1.putF (x := .bool false) (y := .slice a1 l1 c1) (z := .slice a2 l2 c2) kr
    have q8 := H2.putF (x := .bool false) (y := .slice a1 l1 c1) (z := .slice a2 l2 c2) kr
    obtain ⟨z0, z1, z2⟩ := kr.put (.bool false) (.slice a1 l1 c1) (.slice a2 l2 c2)
    have bE := bset3 (n := w.heap.size + 1) (x := .bool false) (y := .slice a1 l1 c1) (z := .slice a2 l2 c2) (bel' pr bl) (by omega)
    go_wp2_with fail
    generalize ((x0.setCell ⟨w.heap.size + 1, 0, none⟩ (.bool false)).setCell ⟨w.heap.size + 1, 1, none⟩ (.slice a1 l1 c1)).setCell ⟨w.heap.size + 1, 2, none⟩ (.slice a2 l2 c2) = WE at *
    exact bodyPost_ret (v := .agg #[.bool false, .slice a1 l1 c1, .slice a2 l2 c2]) (by simp [results, Tryz.results45, go_sem, z0, z1, z2]) rfl ⟨a1, l1, c1, a2, l2, c2, rfl, q7, q8, bE⟩
theorem lt_npow {N n K : Nat} {xs : List Int} (v : Tl.val xs = (N : Int)) (h : ((N ^ n : Nat) : Int) < Tl.pw K) : Tl.val xs ^ n < Tl.pw K := by
  rw [v, ← Int.natCast_pow]; exact h
/-- Q's Pow of the reference, of a number not below nought. -/
theorem QPow_q (v : Value) (r : Rat) (n : Nat) (K : Nat) (w : World) (h : L.IsQ w v r) (h0 : decide (r.num < 0) = false) (hn : n < 9223372036854775808) (hs : L.QS (r ^ n) K) (hK : K ≤ 100000000) (hK1 : 1 < Tl.pw K) :
    Calls Tryz.prog 45 #[v, .int .i64 n] w (Qf (r ^ n) w) := by
  obtain ⟨a, l, c, a', l', c', rfl, n1, n2, _⟩ := nl_isq h
  rw [h0]
  have C : ∀ (a : Option Addr) (l c N : Nat), Nl w a l c (N : Int) → ((N ^ n : Nat) : Int) < Tl.pw K → ∀ x, Below w.heap.size w x → Calls Tryz.prog 105 #[.slice a l c, .int .i64 (n : Int)] x fun e w' => ∃ a l c, e = .returned (.slice a l c) ∧ Nl w' a l c ((N ^ n : Nat) : Int) ∧ Below x.heap.size x w' := by
    intro a l c N k hb x b
    obtain ⟨xs, r1, n1, v1⟩ := k.grow b
    refine (L.Pow_any _ xs n K x r1 n1 hn (lt_npow v1 hb) hK1 (by omega)).mono ?_
    rintro e w' ⟨u, zs, rfl, q1, q2, q3, bb⟩
    obtain ⟨a, c, rfl, _⟩ := q1.2
    exact ⟨a, _, c, rfl, ⟨zs, q1, q2, by rw [q3, v1, ← Int.natCast_pow]⟩, bb⟩
  have s1 : ((r.num.natAbs ^ n : Nat) : Int) < Tl.pw K := by have := hs.1; rwa [Rat.num_pow, Int.natAbs_pow] at this
  have s2 : ((r.den ^ n : Nat) : Int) < Tl.pw K := by have := hs.2; rwa [Rat.den_pow] at this
  refine (QPow_r a a' l c l' c' n _ _ w (C a l c _ n1 s1) (C a' l' c' _ n2 s2)).mono ?_
  rintro e w' ⟨a, l, c, a', l', c', rfl, q1, q2, b⟩
  have e0 : decide ((r ^ n).num < 0) = false := by
    rw [Rat.num_pow]
    have := pow_nn (x := r.num) (by have := of_decide_eq_false h0; omega) n
    exact decide_eq_false (by omega)
  refine ⟨_, a, l, c, a', l', c', rfl, ?_, b⟩
  rw [← e0]
  exact isq_nl (by rw [Rat.num_pow, Int.natAbs_pow]; exact q1) (by rw [Rat.den_pow]; exact q2)
end Go.Proofs.YtmopfnhjooopkaaGreatDoor.Mo

namespace Go.Proofs.YtmopfnhjooopkaaGreatDoor.Mo
open Go.RowKit Ip

set_option maxRecDepth 100000 in
theorem IsRate_any (k : Int) (w : World) : Calls Tryz.prog 87 #[.int .i64 k] w fun e w' => e = .returned (.bool (okR k)) ∧ w' = w := by
  unfold okR
  by_cases h1 : -10000000 < k <;> by_cases h2 : k ≤ 100000000
  all_goals
    go_enter Tryz.func87, Tryz.ntmps87
    go_wp2
    go_ret
    exact ⟨by simp [h1, h2], rfl⟩
set_option maxRecDepth 100000 in
theorem IsYears_any (k : Int) (w : World) : Calls Tryz.prog 88 #[.int .i64 k] w fun e w' => e = .returned (.bool (okY k)) ∧ w' = w := by
  unfold okY
  by_cases h1 : 0 ≤ k <;> by_cases h2 : k ≤ 130
  all_goals
    go_enter Tryz.func88, Tryz.ntmps88
    go_wp2
    go_ret
    exact ⟨by simp [h1, h2], rfl⟩
set_option maxRecDepth 100000 in
set_option maxHeartbeats 1600000 in
theorem Rate_r (k : Int) (r : Rat) (w : World) (F : ∀ x, Calls Tryz.prog 33 #[.int .i64 k, .int .i64 10000000] x (Qf r x)) :
    Calls Tryz.prog 207 #[.int .i64 k] w (Qf (r) w) := by
  have KR := Blk.new w #[.bool false, .slice none 0 0, .slice none 0 0] 65
  have pr : Below w.heap.size w (w.alloc (.cells #[.bool false, .slice none 0 0, .slice none 0 0] 65)) := (Below.refl _ _).alloc (Nat.le_refl _) _
  go_enter Tryz.func207, Tryz.ntmps207
  go_wp2_with (first
    | (go_at_call 33; (refine (F _).mono ?_); (rintro e w1 ⟨g1, a1, l1, c1, a1', l1', c1', rfl, t1, b1⟩); (have p1 := Mo.bel' pr b1); (have KR_1 := KR.below b1 KR.lt); (have q0 := KR_1.at 0); (have q1 := KR_1.at 1); (have q2 := KR_1.at 2); (have y0 := KR_1.free 0); (have y1 := KR_1.free 1); (have y2 := KR_1.free 2); (simp at q0 q1 q2))
    | fail)
  have R := Rb.ofB KR_1
  obtain ⟨F0, F1, F2⟩ := R.put (.bool g1) (.slice a1 l1 c1) (.slice a1' l1' c1')
  exact bodyPost_ret (v := .agg #[.bool g1, .slice a1 l1 c1, .slice a1' l1' c1']) (by simp [results, Tryz.results207, go_sem, F0, F1, F2]) rfl ⟨g1, a1, l1, c1, a1', l1', c1', rfl, qput t1 R, bset3 p1 (Nat.le_refl _)⟩
set_option maxRecDepth 100000 in
set_option maxHeartbeats 1600000 in
theorem One_r (k : Int) (r1 rk r : Rat) (w : World) (O : ∀ x, Calls Tryz.prog 42 #[.int .i64 1] x (Qf r1 x)) (F : ∀ x, Calls Tryz.prog 207 #[.int .i64 k] x (Qf rk x)) (AD : ∀ x v1 v2, L.IsQ x v1 r1 → L.IsQ x v2 rk → Calls Tryz.prog 82 #[v1, v2] x (Qf r x)) :
    Calls Tryz.prog 183 #[.int .i64 k] w (Qf (r) w) := by
  have KR := Blk.new w #[.bool false, .slice none 0 0, .slice none 0 0] 65
  have pr : Below w.heap.size w (w.alloc (.cells #[.bool false, .slice none 0 0, .slice none 0 0] 65)) := (Below.refl _ _).alloc (Nat.le_refl _) _
  go_enter Tryz.func183, Tryz.ntmps183
  go_wp2_with (first
    | (go_at_call 82; (have z3 := p2); (refine (AD _ _ _ t1_2 t2).mono ?_); (rintro e w3 ⟨g3, a3, l3, c3, a3', l3', c3', rfl, t3, b3⟩); (have p3 := Mo.bel' p2 b3); (have t1_3 := t1_2.grow b3); (have t2_3 := t2.grow b3); (have KR_3 := KR_2.below b3 KR_2.lt); (have q0 := KR_3.at 0); (have q1 := KR_3.at 1); (have q2 := KR_3.at 2); (have y0 := KR_3.free 0); (have y1 := KR_3.free 1); (have y2 := KR_3.free 2); (simp at q0 q1 q2))
    | (go_at_call 207; (have z2 := p1); (refine (F _).mono ?_); (rintro e w2 ⟨g2, a2, l2, c2, a2', l2', c2', rfl, t2, b2⟩); (have p2 := Mo.bel' p1 b2); (have t1_2 := t1.grow b2); (have KR_2 := KR_1.below b2 KR_1.lt))
    | (go_at_call 42; (refine (O _).mono ?_); (rintro e w1 ⟨g1, a1, l1, c1, a1', l1', c1', rfl, t1, b1⟩); (have p1 := Mo.bel' pr b1); (have KR_1 := KR.below b1 KR.lt))
    | fail)
  have R := Rb.ofB KR_3
  obtain ⟨F0, F1, F2⟩ := R.put (.bool g3) (.slice a3 l3 c3) (.slice a3' l3' c3')
  exact bodyPost_ret (v := .agg #[.bool g3, .slice a3 l3 c3, .slice a3' l3' c3']) (by simp [results, Tryz.results183, go_sem, F0, F1, F2]) rfl ⟨g3, a3, l3, c3, a3', l3', c3', rfl, qput t3 R, bset3 p3 (Nat.le_refl _)⟩
set_option maxRecDepth 100000 in
set_option maxHeartbeats 1600000 in
theorem Worth_up (k n : Int) (r1 r : Rat) (w : World) (hn : n ≥ 0) (O : ∀ x, Calls Tryz.prog 183 #[.int .i64 k] x (Qf r1 x)) (P : ∀ x v, L.IsQ x v r1 → Calls Tryz.prog 45 #[v, .int .i64 n] x (Qf r x)) :
    Calls Tryz.prog 144 #[.int .i64 k, .int .i64 n] w (Qf (r) w) := by
  have KR := Blk.new w #[.bool false, .slice none 0 0, .slice none 0 0] 65
  have pr : Below w.heap.size w (w.alloc (.cells #[.bool false, .slice none 0 0, .slice none 0 0] 65)) := (Below.refl _ _).alloc (Nat.le_refl _) _
  go_enter Tryz.func144, Tryz.ntmps144
  go_wp2_with (first
    | (go_at_call 45; (have z2 := p1); (refine (P _ _ t1).mono ?_); (rintro e w2 ⟨g2, a2, l2, c2, a2', l2', c2', rfl, t2, b2⟩); (have p2 := Mo.bel' p1 b2); (have t1_2 := t1.grow b2); (have KR_2 := KR_1.below b2 KR_1.lt); (have q0 := KR_2.at 0); (have q1 := KR_2.at 1); (have q2 := KR_2.at 2); (have y0 := KR_2.free 0); (have y1 := KR_2.free 1); (have y2 := KR_2.free 2); (simp at q0 q1 q2))
    | (go_at_call 183; (refine (O _).mono ?_); (rintro e w1 ⟨g1, a1, l1, c1, a1', l1', c1', rfl, t1, b1⟩); (have p1 := Mo.bel' pr b1); (have KR_1 := KR.below b1 KR.lt))
    | fail)
  have R := Rb.ofB KR_2
  obtain ⟨F0, F1, F2⟩ := R.put (.bool g2) (.slice a2 l2 c2) (.slice a2' l2' c2')
  exact bodyPost_ret (v := .agg #[.bool g2, .slice a2 l2 c2, .slice a2' l2' c2']) (by simp [results, Tryz.results144, go_sem, F0, F1, F2]) rfl ⟨g2, a2, l2, c2, a2', l2', c2', rfl, qput t2 R, bset3 p2 (Nat.le_refl _)⟩
set_option maxRecDepth 100000 in
set_option maxHeartbeats 1600000 in
theorem Worth_down (k n m : Int) (r0 r1 rp r : Rat) (w : World) (hn : ¬ n ≥ 0) (hm : IntKind.i64.wrap (-n) = m) (O0 : ∀ x, Calls Tryz.prog 42 #[.int .i64 1] x (Qf r0 x)) (O : ∀ x, Calls Tryz.prog 183 #[.int .i64 k] x (Qf r1 x)) (P : ∀ x v, L.IsQ x v r1 → Calls Tryz.prog 45 #[v, .int .i64 m] x (Qf rp x)) (D : ∀ x v1 v2, L.IsQ x v1 r0 → L.IsQ x v2 rp → Calls Tryz.prog 43 #[v1, v2] x (Qf r x)) :
    Calls Tryz.prog 144 #[.int .i64 k, .int .i64 n] w (Qf (r) w) := by
  have KR := Blk.new w #[.bool false, .slice none 0 0, .slice none 0 0] 65
  have pr : Below w.heap.size w (w.alloc (.cells #[.bool false, .slice none 0 0, .slice none 0 0] 65)) := (Below.refl _ _).alloc (Nat.le_refl _) _
  go_enter Tryz.func144, Tryz.ntmps144
  go_wp2_with (first
    | (go_at_call 43; (have z4 := p3); (refine (D _ _ _ t1_3 t3).mono ?_); (rintro e w4 ⟨g4, a4, l4, c4, a4', l4', c4', rfl, t4, b4⟩); (have p4 := Mo.bel' p3 b4); (have t1_4 := t1_3.grow b4); (have t2_4 := t2_3.grow b4); (have t3_4 := t3.grow b4); (have KR_4 := KR_3.below b4 KR_3.lt); (have q0 := KR_4.at 0); (have q1 := KR_4.at 1); (have q2 := KR_4.at 2); (have y0 := KR_4.free 0); (have y1 := KR_4.free 1); (have y2 := KR_4.free 2); (simp at q0 q1 q2))
    | (go_at_call 45; (have z3 := p2); (refine (P _ _ t2).mono ?_); (rintro e w3 ⟨g3, a3, l3, c3, a3', l3', c3', rfl, t3, b3⟩); (have p3 := Mo.bel' p2 b3); (have t1_3 := t1_2.grow b3); (have t2_3 := t2.grow b3); (have KR_3 := KR_2.below b3 KR_2.lt))
    | (go_at_call 183; (have z2 := p1); (refine (O _).mono ?_); (rintro e w2 ⟨g2, a2, l2, c2, a2', l2', c2', rfl, t2, b2⟩); (have p2 := Mo.bel' p1 b2); (have t1_2 := t1.grow b2); (have KR_2 := KR_1.below b2 KR_1.lt))
    | (go_at_call 42; (refine (O0 _).mono ?_); (rintro e w1 ⟨g1, a1, l1, c1, a1', l1', c1', rfl, t1, b1⟩); (have p1 := Mo.bel' pr b1); (have KR_1 := KR.below b1 KR.lt))
    | fail)
  have R := Rb.ofB KR_4
  obtain ⟨F0, F1, F2⟩ := R.put (.bool g4) (.slice a4 l4 c4) (.slice a4' l4' c4')
  exact bodyPost_ret (v := .agg #[.bool g4, .slice a4 l4 c4, .slice a4' l4' c4']) (by simp [results, Tryz.results144, go_sem, F0, F1, F2]) rfl ⟨g4, a4, l4, c4, a4', l4', c4', rfl, qput t4 R, bset3 p4 (Nat.le_refl _)⟩
end Go.Proofs.YtmopfnhjooopkaaGreatDoor.Mo

namespace Go.Proofs.YtmopfnhjooopkaaGreatDoor.Mo
open Go.RowKit Fu Go.Lib Ip

theorem one_lt30 {K : Nat} (h : 1 ≤ K) : 1 < Tl.pw K := by
  rw [pw_30]
  have := Nat.pow_le_pow_right (show 0 < 2 by decide) (show 1 ≤ 30 * K by omega)
  omega
theorem Bd.frac {p q : Int} {m : Nat} (h : p.natAbs < 2 ^ m) (h2 : q.natAbs < 2 ^ m) (hq : 0 < q) : Bd ((p : Rat) / (q : Rat)) m := by
  rw [Rat.div_def]; exact Bd.quo h h2 hq
theorem pow_ps {x : Int} (h : 0 < x) : ∀ n : Nat, 0 < x ^ n
  | 0 => by simp
  | n + 1 => by rw [Int.pow_succ]; exact Int.mul_pos (pow_ps h n) h
theorem RRate_q (k : Int) (w : World) (h0 : -9223372036854775808 ≤ k) (h1 : k < 9223372036854775808) : Calls Tryz.prog 207 #[.int .i64 k] w (Qf ((k : Rat) / ((10000000 : Int) : Rat)) w) :=
  Rate_r k _ w (fun x => qf_of (L.Frac_q k 10000000 x h0 h1 (by decide) (by decide)))
theorem gr_ref (k : Int) : ((1 : Int) : Rat) + (k : Rat) / ((10000000 : Int) : Rat) = gr k := by
  unfold gr
  rw [Rat.div_def, Rat.intCast_add]
  have : ((10000000 : Int) : Rat) * ((10000000 : Int) : Rat)⁻¹ = 1 := by decide +kernel
  have : ((1 : Int) : Rat) = 1 := rfl
  grind
theorem One_q (k : Int) (w : World) (h : okR k = true) : Calls Tryz.prog 183 #[.int .i64 k] w (Qf (gr k) w) := by
  have h' : -10000000 < k ∧ k ≤ 100000000 := by simpa [okR] using h
  have b1 : Bd ((1 : Int) : Rat) 1 := Bd.int (by decide) (by decide)
  have b2 : Bd ((k : Rat) / ((10000000 : Int) : Rat)) 27 := Bd.frac (by omega) (by decide) (by decide)
  rw [← gr_ref]
  exact One_r k _ _ _ w (fun x => qf_of (L.Of_q 1 x (by decide) (by decide))) (fun x => RRate_q k x (by omega) (by omega)) (fun x v1 v2 q1 q2 => qf_of (L.QAdd_any v1 v2 _ _ 1 x q1 q2 (Bd.qs b1 (by decide)) (Bd.qs b2 (by decide)) (by decide)))
theorem Worth_q (k n : Int) (w : World) (h : okR k = true) (n0 : -400 ≤ n) (n1 : n ≤ 400) : Calls Tryz.prog 144 #[.int .i64 k, .int .i64 n] w (Qf (gp (gr k) n) w) := by
  obtain ⟨b, p⟩ := gr_bd h
  by_cases c : n ≥ 0
  · obtain ⟨m, rfl⟩ : ∃ m : Nat, n = m := ⟨n.toNat, by omega⟩
    rw [gp_up]
    exact Worth_up k m _ _ w c (fun x => One_q k x h) (fun x v q => QPow_q v _ m 400 x q (num_neg p) (by omega) (Bd.qs (b.pow m) (by omega)) (by decide) (one_lt30 (by decide)))
  · obtain ⟨m, hm⟩ : ∃ m : Nat, -n = (m : Int) := ⟨(-n).toNat, by omega⟩
    rw [gp_down _ (by omega) hm, inv_pow, ← Rat.one_mul ((gr k) ^ m)⁻¹, ← Rat.div_def]
    have b1 : Bd ((1 : Int) : Rat) 1 := Bd.int (by decide) (by decide)
    have z : (gr k) ^ m ≠ 0 := fun e => by
      have := congrArg Rat.num e
      rw [Rat.num_pow] at this
      have q : 0 < (gr k).num := by
        have := of_decide_eq_false (num_neg p)
        have : (gr k).num ≠ 0 := fun e => pos_ne p (Rat.num_eq_zero.1 e)
        omega
      have q2 := pow_ps q m
      rw [this] at q2
      exact absurd q2 (by decide)
    exact Worth_down k n m _ _ _ _ w c (by rw [hm]; exact Wt.wrapI _ (by omega) (by omega)) (fun x => qf_of (L.Of_q 1 x (by decide) (by decide))) (fun x => One_q k x h) (fun x v q => QPow_q v _ m 400 x q (num_neg p) (by omega) (Bd.qs (b.pow m) (by omega)) (by decide) (one_lt30 (by decide)))
      (fun x v1 v2 q1 q2 => qf_of (L.QDiv_any v1 v2 _ _ 400 x q1 q2 (Bd.qs b1 (by decide)) (Bd.qs (b.pow m) (by omega)) (by decide) z))
end Go.Proofs.YtmopfnhjooopkaaGreatDoor.Mo
