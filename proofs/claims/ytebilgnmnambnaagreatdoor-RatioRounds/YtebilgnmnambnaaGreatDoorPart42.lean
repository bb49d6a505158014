import Derived.Test.YtebilgnmnambnaaGreatDoorPart41
import Derived.Test.YtebilgnmnambnaaGreatDoorPart11
import Derived.Test.YtebilgnmnambnaaGreatDoorPart38
import Derived.Test.YtebilgnmnambnaaGreatDoorPart10

namespace Go.Proofs.YtebilgnmnambnaaGreatDoor.Mo
open Go.RowKit
set_option maxRecDepth 100000 in
set_option maxHeartbeats 3200000 in
theorem qmul_r (g1 g2 : Bool) (p1 p2 p3 p4 : Option Addr) (m1 c1 m2 c2 m3 c3 m4 c4 : Nat) (gx : Bool) (hg : (!(g1 == g2)) = gx) (U V : Int) (t : Rat) (w : World) (M1 : ∀ x, Below w.heap.size w x → Calls Tryz.prog 78 #[.slice p1 m1 c1, .slice p3 m3 c3] x fun e w' => ∃ a l c, e = .returned (.slice a l c) ∧ Nl w' a l c U ∧ Below x.heap.size x w') (M2 : ∀ x, Below w.heap.size w x → Calls Tryz.prog 78 #[.slice p2 m2 c2, .slice p4 m4 c4] x fun e w' => ∃ a l c, e = .returned (.slice a l c) ∧ Nl w' a l c V ∧ Below x.heap.size x w') (MK : ∀ x a l c a' l' c', Nl x a l c U → Nl x a' l' c' V → Calls Tryz.prog 80 #[.bool gx, .slice a l c, .slice a' l' c'] x (Qf t x)) : Calls Tryz.prog 34 #[.agg #[.bool g1, .slice p1 m1 c1, .slice p2 m2 c2], .agg #[.bool g2, .slice p3 m3 c3, .slice p4 m4 c4]] w (Qf t w) := by
  have KA := ((Blk.new w #[.bool g1, .slice p1 m1 c1, .slice p2 m2 c2] 56).alloc (.cells #[.bool g2, .slice p3 m3 c3, .slice p4 m4 c4] 56)).alloc (.cells #[.bool false, .slice none 0 0, .slice none 0 0] 56)
  have KB := (Blk.new (w.alloc (.cells #[.bool g1, .slice p1 m1 c1, .slice p2 m2 c2] 56)) #[.bool g2, .slice p3 m3 c3, .slice p4 m4 c4] 56).alloc (.cells #[.bool false, .slice none 0 0, .slice none 0 0] 56)
  have KR := Rb.new ((w.alloc (.cells #[.bool g1, .slice p1 m1 c1, .slice p2 m2 c2] 56)).alloc (.cells #[.bool g2, .slice p3 m3 c3, .slice p4 m4 c4] 56)) (.bool false) (.slice none 0 0) (.slice none 0 0) 56
  have pr : Below w.heap.size w (((w.alloc (.cells #[.bool g1, .slice p1 m1 c1, .slice p2 m2 c2] 56)).alloc (.cells #[.bool g2, .slice p3 m3 c3, .slice p4 m4 c4] 56)).alloc (.cells #[.bool false, .slice none 0 0, .slice none 0 0] 56)) := (((Below.refl _ _).alloc (Nat.le_refl _) _).alloc (by simp) _).alloc (by simp; omega) _
  simp only [World.size_alloc] at KB KR
  go_enter Tryz.func34, Tryz.ntmps34
  go_wp2_with fail
  generalize (((w.alloc (.cells #[.bool g1, .slice p1 m1 c1, .slice p2 m2 c2] 56)).alloc (.cells #[.bool g2, .slice p3 m3 c3, .slice p4 m4 c4] 56)).alloc (.cells #[.bool false, .slice none 0 0, .slice none 0 0] 56)) = W at *
  have e0 := KA.at 0
  have e1 := KA.at 1
  have e2 := KA.at 2
  have e3 := KB.at 0
  have e4 := KB.at 1
  have e5 := KB.at 2
  simp at e0 e1 e2 e3 e4 e5
  have na : w.heap.size + 1 + 1 ≠ w.heap.size := by omega
  have nb : w.heap.size + 1 + 1 ≠ w.heap.size + 1 := by omega
  go_region_held3 (fun x => x.cell? ⟨w.heap.size, 0, none⟩ = some (.bool g1) ∧ x.cell? ⟨w.heap.size, 1, none⟩ = some (.slice p1 m1 c1) ∧ x.cell? ⟨w.heap.size, 2, none⟩ = some (.slice p2 m2 c2) ∧ x.cell? ⟨w.heap.size + 1, 0, none⟩ = some (.bool g2) ∧ x.cell? ⟨w.heap.size + 1, 1, none⟩ = some (.slice p3 m3 c3) ∧ x.cell? ⟨w.heap.size + 1, 2, none⟩ = some (.slice p4 m4 c4)) (first | exact ⟨x40, x41, x42, x43, x44, x45⟩ | exact ⟨x30, x31, x32, x33, x34, x35⟩ | exact ⟨x20, x21, x22, x23, x24, x25⟩ | exact ⟨x10, x11, x12, x13, x14, x15⟩ | go_keep) (first
    | (go_at_call 80; (have mk := d2); (refine (MK _ _ _ _ _ _ _ (n1.grow b2) n2).mono ?_); (rintro e w3 ⟨g, a, l, c, a', l', c', rfl, tq, b3⟩); (have d3 := bel' d2 b3); (have x30 := kc7 d3 e0); (have x31 := kc7 d3 e1); (have x32 := kc7 d3 e2); (have x33 := kc7 d3 e3); (have x34 := kc7 d3 e4); (have x35 := kc7 d3 e5); (have KAs := qskip (KA.below d3 KA.lt) na (.bool g) (.slice a l c) (.slice a' l' c')); (have KBs := qskip (KB.below d3 KB.lt) nb (.bool g) (.slice a l c) (.slice a' l' c')); (have R := KR.grow d3); (have q0 := R.c0); (have q1 := R.c1); (have q2 := R.c2); (have y0 := R.f0); (have y1 := R.f1); (have y2 := R.f2); (have x40 := KAs.at 0); (have x41 := KAs.at 1); (have x42 := KAs.at 2); (have x43 := KBs.at 0); (have x44 := KBs.at 1); (have x45 := KBs.at 2); (simp at x40 x41 x42 x43 x44 x45))
    | (go_at_call 78; (have mk := d1); (refine (M2 _ (bel' pr d1)).mono ?_); (rintro e w2 ⟨a2, l2, k2, rfl, n2, b2⟩); (have d2 := bel' d1 b2); (have x20 := kc7 d2 e0); (have x21 := kc7 d2 e1); (have x22 := kc7 d2 e2); (have x23 := kc7 d2 e3); (have x24 := kc7 d2 e4); (have x25 := kc7 d2 e5))
    | (go_at_call 78; (refine (M1 _ (pr.drew)).mono ?_); (rintro e w1 ⟨a1, l1, k1, rfl, n1, b1⟩); (have d1 := undrew b1); (have x10 := kc7 d1 e0); (have x11 := kc7 d1 e1); (have x12 := kc7 d1 e2); (have x13 := kc7 d1 e3); (have x14 := kc7 d1 e4); (have x15 := kc7 d1 e5))
    | fail)
  all_goals
    go_wp2_with fail
    obtain ⟨F0, F1, F2⟩ := R.put (.bool g) (.slice a l c) (.slice a' l' c')
    exact bodyPost_ret (v := .agg #[.bool g, .slice a l c, .slice a' l' c']) (by simp [results, Tryz.results34, go_sem, F0, F1, F2]) rfl ⟨g, a, l, c, a', l', c', rfl, qput tq R, bset3 (bel' pr d3) (show w.heap.size ≤ w.heap.size + 1 + 1 by omega)⟩
set_option maxRecDepth 100000 in
set_option maxHeartbeats 3200000 in
theorem qdiv_r (g1 g2 : Bool) (p1 p2 p3 p4 : Option Addr) (m1 c1 m2 c2 m3 c3 m4 c4 : Nat) (gx : Bool) (hg : (!(g1 == g2)) = gx) (U V : Int) (t : Rat) (w : World) (M1 : ∀ x, Below w.heap.size w x → Calls Tryz.prog 78 #[.slice p1 m1 c1, .slice p4 m4 c4] x fun e w' => ∃ a l c, e = .returned (.slice a l c) ∧ Nl w' a l c U ∧ Below x.heap.size x w') (M2 : ∀ x, Below w.heap.size w x → Calls Tryz.prog 78 #[.slice p2 m2 c2, .slice p3 m3 c3] x fun e w' => ∃ a l c, e = .returned (.slice a l c) ∧ Nl w' a l c V ∧ Below x.heap.size x w') (MK : ∀ x a l c a' l' c', Nl x a l c U → Nl x a' l' c' V → Calls Tryz.prog 80 #[.bool gx, .slice a l c, .slice a' l' c'] x (Qf t x)) : Calls Tryz.prog 54 #[.agg #[.bool g1, .slice p1 m1 c1, .slice p2 m2 c2], .agg #[.bool g2, .slice p3 m3 c3, .slice p4 m4 c4]] w (Qf t w) := by
  have KA := ((Blk.new w #[.bool g1, .slice p1 m1 c1, .slice p2 m2 c2] 56).alloc (.cells #[.bool g2, .slice p3 m3 c3, .slice p4 m4 c4] 56)).alloc (.cells #[.bool false, .slice none 0 0, .slice none 0 0] 56)
  have KB := (Blk.new (w.alloc (.cells #[.bool g1, .slice p1 m1 c1, .slice p2 m2 c2] 56)) #[.bool g2, .slice p3 m3 c3, .slice p4 m4 c4] 56).alloc (.cells #[.bool false, .slice none 0 0, .slice none 0 0] 56)
  have KR := Rb.new ((w.alloc (.cells #[.bool g1, .slice p1 m1 c1, .slice p2 m2 c2] 56)).alloc (.cells #[.bool g2, .slice p3 m3 c3, .slice p4 m4 c4] 56)) (.bool false) (.slice none 0 0) (.slice none 0 0) 56
  have pr : Below w.heap.size w (((w.alloc (.cells #[.bool g1, .slice p1 m1 c1, .slice p2 m2 c2] 56)).alloc (.cells #[.bool g2, .slice p3 m3 c3, .slice p4 m4 c4] 56)).alloc (.cells #[.bool false, .slice none 0 0, .slice none 0 0] 56)) := (((Below.refl _ _).alloc (Nat.le_refl _) _).alloc (by simp) _).alloc (by simp; omega) _
  simp only [World.size_alloc] at KB KR
  go_enter Tryz.func54, Tryz.ntmps54
  go_wp2_with fail
  generalize (((w.alloc (.cells #[.bool g1, .slice p1 m1 c1, .slice p2 m2 c2] 56)).alloc (.cells #[.bool g2, .slice p3 m3 c3, .slice p4 m4 c4] 56)).alloc (.cells #[.bool false, .slice none 0 0, .slice none 0 0] 56)) = W at *
  have e0 := KA.at 0
  have e1 := KA.at 1
  have e2 := KA.at 2
  have e3 := KB.at 0
  have e4 := KB.at 1
  have e5 := KB.at 2
  simp at e0 e1 e2 e3 e4 e5
  have na : w.heap.size + 1 + 1 ≠ w.heap.size := by omega
  have nb : w.heap.size + 1 + 1 ≠ w.heap.size + 1 := by omega
  go_region_held3 (fun x => x.cell? ⟨w.heap.size, 0, none⟩ = some (.bool g1) ∧ x.cell? ⟨w.heap.size, 1, none⟩ = some (.slice p1 m1 c1) ∧ x.cell? ⟨w.heap.size, 2, none⟩ = some (.slice p2 m2 c2) ∧ x.cell? ⟨w.heap.size + 1, 0, none⟩ = some (.bool g2) ∧ x.cell? ⟨w.heap.size + 1, 1, none⟩ = some (.slice p3 m3 c3) ∧ x.cell? ⟨w.heap.size + 1, 2, none⟩ = some (.slice p4 m4 c4)) (first | exact ⟨x40, x41, x42, x43, x44, x45⟩ | exact ⟨x30, x31, x32, x33, x34, x35⟩ | exact ⟨x20, x21, x22, x23, x24, x25⟩ | exact ⟨x10, x11, x12, x13, x14, x15⟩ | go_keep) (first
    | (go_at_call 80; (have mk := d2); (refine (MK _ _ _ _ _ _ _ (n1.grow b2) n2).mono ?_); (rintro e w3 ⟨g, a, l, c, a', l', c', rfl, tq, b3⟩); (have d3 := bel' d2 b3); (have x30 := kc7 d3 e0); (have x31 := kc7 d3 e1); (have x32 := kc7 d3 e2); (have x33 := kc7 d3 e3); (have x34 := kc7 d3 e4); (have x35 := kc7 d3 e5); (have KAs := qskip (KA.below d3 KA.lt) na (.bool g) (.slice a l c) (.slice a' l' c')); (have KBs := qskip (KB.below d3 KB.lt) nb (.bool g) (.slice a l c) (.slice a' l' c')); (have R := KR.grow d3); (have q0 := R.c0); (have q1 := R.c1); (have q2 := R.c2); (have y0 := R.f0); (have y1 := R.f1); (have y2 := R.f2); (have x40 := KAs.at 0); (have x41 := KAs.at 1); (have x42 := KAs.at 2); (have x43 := KBs.at 0); (have x44 := KBs.at 1); (have x45 := KBs.at 2); (simp at x40 x41 x42 x43 x44 x45))
    | (go_at_call 78; (have mk := d1); (refine (M2 _ (bel' pr d1)).mono ?_); (rintro e w2 ⟨a2, l2, k2, rfl, n2, b2⟩); (have d2 := bel' d1 b2); (have x20 := kc7 d2 e0); (have x21 := kc7 d2 e1); (have x22 := kc7 d2 e2); (have x23 := kc7 d2 e3); (have x24 := kc7 d2 e4); (have x25 := kc7 d2 e5))
    | (go_at_call 78; (refine (M1 _ (pr.drew)).mono ?_); (rintro e w1 ⟨a1, l1, k1, rfl, n1, b1⟩); (have d1 := undrew b1); (have x10 := kc7 d1 e0); (have x11 := kc7 d1 e1); (have x12 := kc7 d1 e2); (have x13 := kc7 d1 e3); (have x14 := kc7 d1 e4); (have x15 := kc7 d1 e5))
    | fail)
  all_goals
    go_wp2_with fail
    obtain ⟨F0, F1, F2⟩ := R.put (.bool g) (.slice a l c) (.slice a' l' c')
    exact bodyPost_ret (v := .agg #[.bool g, .slice a l c, .slice a' l' c']) (by simp [results, Tryz.results54, go_sem, F0, F1, F2]) rfl ⟨g, a, l, c, a', l', c', rfl, qput tq R, bset3 (bel' pr d3) (show w.heap.size ≤ w.heap.size + 1 + 1 by omega)⟩
theorem QMul_s (a b : Value) (r s : Rat) (K : Nat) (w : World) (ha : L.IsQ w a r) (hb : L.IsQ w b s) (hr : L.QS r K) (hs : L.QS s K) (hK : K ≤ 1000000000) : Calls Tryz.prog 34 #[a, b] w (Qf (r * s) w) := by
  obtain ⟨p1, m1, c1, p2, m2, c2, rfl, n1, n2, _⟩ := nl_isq ha
  obtain ⟨p3, m3, c3, p4, m4, c4, rfl, n3, n4, _⟩ := nl_isq hb
  have er := L.num_sg r
  have es := L.num_sg s
  have e : mkRat (L.sgI (!(decide (r.num < 0) == decide (s.num < 0))) ((r.num.natAbs : Int) * s.num.natAbs)) ((r.den : Int) * s.den).toNat = r * s := by
    rw [Rat.mul_def']
    congr 1
    generalize decide (r.num < 0) = g at *
    generalize decide (s.num < 0) = g' at *
    rw [er, es]
    cases g <;> cases g'
    · show L.sgI false _ = _
      simp only [L.sgI, Bool.false_eq_true, if_false]; simp
    · show L.sgI true _ = _
      simp only [L.sgI, Bool.false_eq_true, if_false, if_true]; grind
    · show L.sgI true _ = _
      simp only [L.sgI, Bool.false_eq_true, if_false, if_true]; grind
    · show L.sgI false _ = _
      simp only [L.sgI, Bool.false_eq_true, if_false, if_true]; grind
  rw [← e]
  exact qmul_r _ _ p1 p2 p3 p4 m1 c1 m2 c2 m3 c3 m4 c4 _ rfl _ _ _ w (fun x b => mul_nl (n1.grow b) (n3.grow b) hr.1 hs.1 hK) (fun x b => mul_nl (n2.grow b) (n4.grow b) hr.2 hs.2 hK) (fun x a l c a' l' c' h h' => make_nl _ h h' (lt_pp (by omega) hr.1 (by omega) hs.1) (lt_pp (by omega) hr.2 (by omega) hs.2) (by omega) (Int.mul_pos (L.den_pos' r) (L.den_pos' s)))
theorem QDiv_s (a b : Value) (r s : Rat) (K : Nat) (w : World) (ha : L.IsQ w a r) (hb : L.IsQ w b s) (hr : L.QS r K) (hs : L.QS s K) (hK : K ≤ 1000000000) (sz : s ≠ 0) : Calls Tryz.prog 54 #[a, b] w (Qf (r / s) w) := by
  obtain ⟨p1, m1, c1, p2, m2, c2, rfl, n1, n2, _⟩ := nl_isq ha
  obtain ⟨p3, m3, c3, p4, m4, c4, rfl, n3, n4, _⟩ := nl_isq hb
  have nz : s.num ≠ 0 := fun k => sz (Rat.num_eq_zero.1 k)
  have er := L.num_sg r
  have e : mkRat (L.sgI (!(decide (r.num < 0) == decide (s.num < 0))) ((r.num.natAbs : Int) * s.den)) ((r.den : Int) * s.num.natAbs).toNat = r / s := by
    rw [Rat.div_def, Rat.mul_def', Rat.num_inv, Rat.den_inv, if_neg nz]
    congr 1
    by_cases c : s.num < 0
    · rw [decide_eq_true c, Int.sign_eq_neg_one_of_neg c]
      generalize decide (r.num < 0) = g at *
      rw [er]
      cases g
      · show L.sgI true _ = _
        simp only [L.sgI, Bool.false_eq_true, if_false, if_true]; grind
      · show L.sgI false _ = _
        simp only [L.sgI, Bool.false_eq_true, if_false, if_true]; grind
    · rw [decide_eq_false c, Int.sign_eq_one_of_pos (by omega)]
      generalize decide (r.num < 0) = g at *
      rw [er]
      cases g
      · show L.sgI false _ = _
        simp only [L.sgI, Bool.false_eq_true, if_false]; grind
      · show L.sgI true _ = _
        simp only [L.sgI, if_true]; grind
  rw [← e]
  exact qdiv_r _ _ p1 p2 p3 p4 m1 c1 m2 c2 m3 c3 m4 c4 _ rfl _ _ _ w (fun x b => mul_nl (n1.grow b) (n4.grow b) hr.1 hs.2 hK) (fun x b => mul_nl (n2.grow b) (n3.grow b) hr.2 hs.1 hK) (fun x a l c a' l' c' h h' => make_nl _ h h' (lt_pp (by omega) hr.1 (by omega) hs.2) (lt_pp (by omega) hr.2 (by omega) hs.1) (by omega) (Int.mul_pos (L.den_pos' r) (by omega)))
set_option maxRecDepth 100000 in
set_option maxHeartbeats 3200000 in
theorem qcmp_lo (g1 g2 : Bool) (p1 p2 p3 p4 : Option Addr) (m1 c1 m2 c2 m3 c3 m4 c4 : Nat) (z1 z2 : Int) (hne : (z1 != z2) = true) (hz : z1 < z2) (w : World) (G1 : ∀ x, Below w.heap.size w x → Calls Tryz.prog 53 #[.agg #[.bool g1, .slice p1 m1 c1, .slice p2 m2 c2]] x fun e w' => e = .returned (.int .i64 z1) ∧ Below x.heap.size x w') (G2 : ∀ x, Below w.heap.size w x → Calls Tryz.prog 53 #[.agg #[.bool g2, .slice p3 m3 c3, .slice p4 m4 c4]] x fun e w' => e = .returned (.int .i64 z2) ∧ Below x.heap.size x w') : Calls Tryz.prog 35 #[.agg #[.bool g1, .slice p1 m1 c1, .slice p2 m2 c2], .agg #[.bool g2, .slice p3 m3 c3, .slice p4 m4 c4]] w fun e w' => e = .returned (.int .i64 (-1)) ∧ Below w.heap.size w w' := by
  have KA := (Blk.new w #[.bool g1, .slice p1 m1 c1, .slice p2 m2 c2] 56).alloc (.cells #[.bool g2, .slice p3 m3 c3, .slice p4 m4 c4] 56)
  have KB := Blk.new (w.alloc (.cells #[.bool g1, .slice p1 m1 c1, .slice p2 m2 c2] 56)) #[.bool g2, .slice p3 m3 c3, .slice p4 m4 c4] 56
  have pr : Below w.heap.size w ((w.alloc (.cells #[.bool g1, .slice p1 m1 c1, .slice p2 m2 c2] 56)).alloc (.cells #[.bool g2, .slice p3 m3 c3, .slice p4 m4 c4] 56)) := ((Below.refl _ _).alloc (Nat.le_refl _) _).alloc (by simp) _
  simp only [World.size_alloc] at KB
  go_enter Tryz.func35, Tryz.ntmps35
  go_wp2_with fail
  generalize ((w.alloc (.cells #[.bool g1, .slice p1 m1 c1, .slice p2 m2 c2] 56)).alloc (.cells #[.bool g2, .slice p3 m3 c3, .slice p4 m4 c4] 56)) = W at *
  have e0 := KA.at 0
  have e1 := KA.at 1
  have e2 := KA.at 2
  have e3 := KB.at 0
  have e4 := KB.at 1
  have e5 := KB.at 2
  simp at e0 e1 e2 e3 e4 e5
  have d0 : Below W.heap.size W W := Below.refl _ _
  go_region_held3 (fun x => x.cell? ⟨w.heap.size, 0, none⟩ = some (.bool g1) ∧ x.cell? ⟨w.heap.size, 1, none⟩ = some (.slice p1 m1 c1) ∧ x.cell? ⟨w.heap.size, 2, none⟩ = some (.slice p2 m2 c2) ∧ x.cell? ⟨w.heap.size + 1, 0, none⟩ = some (.bool g2) ∧ x.cell? ⟨w.heap.size + 1, 1, none⟩ = some (.slice p3 m3 c3) ∧ x.cell? ⟨w.heap.size + 1, 2, none⟩ = some (.slice p4 m4 c4)) (first | exact ⟨x20, x21, x22, x23, x24, x25⟩ | exact ⟨x10, x11, x12, x13, x14, x15⟩ | go_keep) (first
    | (go_at_call 53; (have mk := d1); (refine (G2 _ (bel' pr d1)).mono ?_); (rintro e w2 ⟨rfl, b2⟩); (have d2 := bel' d1 b2); (have x20 := kc7 d2 e0); (have x21 := kc7 d2 e1); (have x22 := kc7 d2 e2); (have x23 := kc7 d2 e3); (have x24 := kc7 d2 e4); (have x25 := kc7 d2 e5))
    | (go_at_call 53; (refine (G1 _ (bel' pr d0.drew)).mono ?_); (rintro e w1 ⟨rfl, b1⟩); (have d1 := bel' d0 (undrew b1)); (have x10 := kc7 d1 e0); (have x11 := kc7 d1 e1); (have x12 := kc7 d1 e2); (have x13 := kc7 d1 e3); (have x14 := kc7 d1 e4); (have x15 := kc7 d1 e5))
    | fail)
  go_wp2_with fail
  go_region_held3 (fun x => x.cell? ⟨w.heap.size, 0, none⟩ = some (.bool g1) ∧ x.cell? ⟨w.heap.size, 1, none⟩ = some (.slice p1 m1 c1) ∧ x.cell? ⟨w.heap.size, 2, none⟩ = some (.slice p2 m2 c2) ∧ x.cell? ⟨w.heap.size + 1, 0, none⟩ = some (.bool g2) ∧ x.cell? ⟨w.heap.size + 1, 1, none⟩ = some (.slice p3 m3 c3) ∧ x.cell? ⟨w.heap.size + 1, 2, none⟩ = some (.slice p4 m4 c4)) (first | exact ⟨x40, x41, x42, x43, x44, x45⟩ | exact ⟨x30, x31, x32, x33, x34, x35⟩ | go_keep) (first
    | (go_at_call 53; (have mk := d3); (refine (G2 _ (bel' pr d3)).mono ?_); (rintro e w4 ⟨rfl, b4⟩); (have d4 := bel' d3 b4); (have x40 := kc7 d4 e0); (have x41 := kc7 d4 e1); (have x42 := kc7 d4 e2); (have x43 := kc7 d4 e3); (have x44 := kc7 d4 e4); (have x45 := kc7 d4 e5))
    | (go_at_call 53; (refine (G1 _ (bel' pr d2.drew)).mono ?_); (rintro e w3 ⟨rfl, b3⟩); (have d3 := bel' d2 (undrew b3)); (have x30 := kc7 d3 e0); (have x31 := kc7 d3 e1); (have x32 := kc7 d3 e2); (have x33 := kc7 d3 e3); (have x34 := kc7 d3 e4); (have x35 := kc7 d3 e5))
    | fail)
  go_wp2_with fail
  go_ret
  exact ⟨rfl, bel' pr d4⟩
set_option maxRecDepth 100000 in
set_option maxHeartbeats 3200000 in
theorem qcmp_hi (g1 g2 : Bool) (p1 p2 p3 p4 : Option Addr) (m1 c1 m2 c2 m3 c3 m4 c4 : Nat) (z1 z2 : Int) (hne : (z1 != z2) = true) (hz : ¬ z1 < z2) (w : World) (G1 : ∀ x, Below w.heap.size w x → Calls Tryz.prog 53 #[.agg #[.bool g1, .slice p1 m1 c1, .slice p2 m2 c2]] x fun e w' => e = .returned (.int .i64 z1) ∧ Below x.heap.size x w') (G2 : ∀ x, Below w.heap.size w x → Calls Tryz.prog 53 #[.agg #[.bool g2, .slice p3 m3 c3, .slice p4 m4 c4]] x fun e w' => e = .returned (.int .i64 z2) ∧ Below x.heap.size x w') : Calls Tryz.prog 35 #[.agg #[.bool g1, .slice p1 m1 c1, .slice p2 m2 c2], .agg #[.bool g2, .slice p3 m3 c3, .slice p4 m4 c4]] w fun e w' => e = .returned (.int .i64 (1)) ∧ Below w.heap.size w w' := by
  have KA := (Blk.new w #[.bool g1, .slice p1 m1 c1, .slice p2 m2 c2] 56).alloc (.cells #[.bool g2, .slice p3 m3 c3, .slice p4 m4 c4] 56)
  have KB := Blk.new (w.alloc (.cells #[.bool g1, .slice p1 m1 c1, .slice p2 m2 c2] 56)) #[.bool g2, .slice p3 m3 c3, .slice p4 m4 c4] 56
  have pr : Below w.heap.size w ((w.alloc (.cells #[.bool g1, .slice p1 m1 c1, .slice p2 m2 c2] 56)).alloc (.cells #[.bool g2, .slice p3 m3 c3, .slice p4 m4 c4] 56)) := ((Below.refl _ _).alloc (Nat.le_refl _) _).alloc (by simp) _
  simp only [World.size_alloc] at KB
  go_enter Tryz.func35, Tryz.ntmps35
  go_wp2_with fail
  generalize ((w.alloc (.cells #[.bool g1, .slice p1 m1 c1, .slice p2 m2 c2] 56)).alloc (.cells #[.bool g2, .slice p3 m3 c3, .slice p4 m4 c4] 56)) = W at *
  have e0 := KA.at 0
  have e1 := KA.at 1
  have e2 := KA.at 2
  have e3 := KB.at 0
  have e4 := KB.at 1
  have e5 := KB.at 2
  simp at e0 e1 e2 e3 e4 e5
  have d0 : Below W.heap.size W W := Below.refl _ _
  go_region_held3 (fun x => x.cell? ⟨w.heap.size, 0, none⟩ = some (.bool g1) ∧ x.cell? ⟨w.heap.size, 1, none⟩ = some (.slice p1 m1 c1) ∧ x.cell? ⟨w.heap.size, 2, none⟩ = some (.slice p2 m2 c2) ∧ x.cell? ⟨w.heap.size + 1, 0, none⟩ = some (.bool g2) ∧ x.cell? ⟨w.heap.size + 1, 1, none⟩ = some (.slice p3 m3 c3) ∧ x.cell? ⟨w.heap.size + 1, 2, none⟩ = some (.slice p4 m4 c4)) (first | exact ⟨x20, x21, x22, x23, x24, x25⟩ | exact ⟨x10, x11, x12, x13, x14, x15⟩ | go_keep) (first
    | (go_at_call 53; (have mk := d1); (refine (G2 _ (bel' pr d1)).mono ?_); (rintro e w2 ⟨rfl, b2⟩); (have d2 := bel' d1 b2); (have x20 := kc7 d2 e0); (have x21 := kc7 d2 e1); (have x22 := kc7 d2 e2); (have x23 := kc7 d2 e3); (have x24 := kc7 d2 e4); (have x25 := kc7 d2 e5))
    | (go_at_call 53; (refine (G1 _ (bel' pr d0.drew)).mono ?_); (rintro e w1 ⟨rfl, b1⟩); (have d1 := bel' d0 (undrew b1)); (have x10 := kc7 d1 e0); (have x11 := kc7 d1 e1); (have x12 := kc7 d1 e2); (have x13 := kc7 d1 e3); (have x14 := kc7 d1 e4); (have x15 := kc7 d1 e5))
    | fail)
  go_wp2_with fail
  go_region_held3 (fun x => x.cell? ⟨w.heap.size, 0, none⟩ = some (.bool g1) ∧ x.cell? ⟨w.heap.size, 1, none⟩ = some (.slice p1 m1 c1) ∧ x.cell? ⟨w.heap.size, 2, none⟩ = some (.slice p2 m2 c2) ∧ x.cell? ⟨w.heap.size + 1, 0, none⟩ = some (.bool g2) ∧ x.cell? ⟨w.heap.size + 1, 1, none⟩ = some (.slice p3 m3 c3) ∧ x.cell? ⟨w.heap.size + 1, 2, none⟩ = some (.slice p4 m4 c4)) (first | exact ⟨x40, x41, x42, x43, x44, x45⟩ | exact ⟨x30, x31, x32, x33, x34, x35⟩ | go_keep) (first
    | (go_at_call 53; (have mk := d3); (refine (G2 _ (bel' pr d3)).mono ?_); (rintro e w4 ⟨rfl, b4⟩); (have d4 := bel' d3 b4); (have x40 := kc7 d4 e0); (have x41 := kc7 d4 e1); (have x42 := kc7 d4 e2); (have x43 := kc7 d4 e3); (have x44 := kc7 d4 e4); (have x45 := kc7 d4 e5))
    | (go_at_call 53; (refine (G1 _ (bel' pr d2.drew)).mono ?_); (rintro e w3 ⟨rfl, b3⟩); (have d3 := bel' d2 (undrew b3)); (have x30 := kc7 d3 e0); (have x31 := kc7 d3 e1); (have x32 := kc7 d3 e2); (have x33 := kc7 d3 e3); (have x34 := kc7 d3 e4); (have x35 := kc7 d3 e5))
    | fail)
  go_wp2_with fail
  go_ret
  exact ⟨rfl, bel' pr d4⟩
set_option maxRecDepth 100000 in
set_option maxHeartbeats 3200000 in
theorem qcmp_pos (g2 : Bool) (p1 p2 p3 p4 : Option Addr) (m1 c1 m2 c2 m3 c3 m4 c4 : Nat) (z1 z2 U V k : Int) (hne : (z1 != z2) = false) (w : World) (G1 : ∀ x, Below w.heap.size w x → Calls Tryz.prog 53 #[.agg #[.bool false, .slice p1 m1 c1, .slice p2 m2 c2]] x fun e w' => e = .returned (.int .i64 z1) ∧ Below x.heap.size x w') (G2 : ∀ x, Below w.heap.size w x → Calls Tryz.prog 53 #[.agg #[.bool g2, .slice p3 m3 c3, .slice p4 m4 c4]] x fun e w' => e = .returned (.int .i64 z2) ∧ Below x.heap.size x w') (M1 : ∀ x, Below w.heap.size w x → Calls Tryz.prog 78 #[.slice p1 m1 c1, .slice p4 m4 c4] x fun e w' => ∃ a l c, e = .returned (.slice a l c) ∧ Nl w' a l c U ∧ Below x.heap.size x w') (M2 : ∀ x, Below w.heap.size w x → Calls Tryz.prog 78 #[.slice p3 m3 c3, .slice p2 m2 c2] x fun e w' => ∃ a l c, e = .returned (.slice a l c) ∧ Nl w' a l c V ∧ Below x.heap.size x w') (CM : ∀ x a l c a' l' c', Nl x a l c U → Nl x a' l' c' V → Calls Tryz.prog 98 #[.slice a l c, .slice a' l' c'] x fun e w' => e = .returned (.int .i64 k) ∧ Below x.heap.size x w') : Calls Tryz.prog 35 #[.agg #[.bool false, .slice p1 m1 c1, .slice p2 m2 c2], .agg #[.bool g2, .slice p3 m3 c3, .slice p4 m4 c4]] w fun e w' => e = .returned (.int .i64 k) ∧ Below w.heap.size w w' := by
  have KA := (Blk.new w #[.bool false, .slice p1 m1 c1, .slice p2 m2 c2] 56).alloc (.cells #[.bool g2, .slice p3 m3 c3, .slice p4 m4 c4] 56)
  have KB := Blk.new (w.alloc (.cells #[.bool false, .slice p1 m1 c1, .slice p2 m2 c2] 56)) #[.bool g2, .slice p3 m3 c3, .slice p4 m4 c4] 56
  have pr : Below w.heap.size w ((w.alloc (.cells #[.bool false, .slice p1 m1 c1, .slice p2 m2 c2] 56)).alloc (.cells #[.bool g2, .slice p3 m3 c3, .slice p4 m4 c4] 56)) := ((Below.refl _ _).alloc (Nat.le_refl _) _).alloc (by simp) _
  simp only [World.size_alloc] at KB
  go_enter Tryz.func35, Tryz.ntmps35
  go_wp2_with fail
  generalize ((w.alloc (.cells #[.bool false, .slice p1 m1 c1, .slice p2 m2 c2] 56)).alloc (.cells #[.bool g2, .slice p3 m3 c3, .slice p4 m4 c4] 56)) = W at *
  have e0 := KA.at 0
  have e1 := KA.at 1
  have e2 := KA.at 2
  have e3 := KB.at 0
  have e4 := KB.at 1
  have e5 := KB.at 2
  simp at e0 e1 e2 e3 e4 e5
  have d0 : Below W.heap.size W W := Below.refl _ _
  go_region_held3 (fun x => x.cell? ⟨w.heap.size, 0, none⟩ = some (.bool false) ∧ x.cell? ⟨w.heap.size, 1, none⟩ = some (.slice p1 m1 c1) ∧ x.cell? ⟨w.heap.size, 2, none⟩ = some (.slice p2 m2 c2) ∧ x.cell? ⟨w.heap.size + 1, 0, none⟩ = some (.bool g2) ∧ x.cell? ⟨w.heap.size + 1, 1, none⟩ = some (.slice p3 m3 c3) ∧ x.cell? ⟨w.heap.size + 1, 2, none⟩ = some (.slice p4 m4 c4)) (first | exact ⟨x20, x21, x22, x23, x24, x25⟩ | exact ⟨x10, x11, x12, x13, x14, x15⟩ | go_keep) (first
    | (go_at_call 53; (have mk := d1); (refine (G2 _ (bel' pr d1)).mono ?_); (rintro e w2 ⟨rfl, b2⟩); (have d2 := bel' d1 b2); (have x20 := kc7 d2 e0); (have x21 := kc7 d2 e1); (have x22 := kc7 d2 e2); (have x23 := kc7 d2 e3); (have x24 := kc7 d2 e4); (have x25 := kc7 d2 e5))
    | (go_at_call 53; (refine (G1 _ (bel' pr d0.drew)).mono ?_); (rintro e w1 ⟨rfl, b1⟩); (have d1 := bel' d0 (undrew b1)); (have x10 := kc7 d1 e0); (have x11 := kc7 d1 e1); (have x12 := kc7 d1 e2); (have x13 := kc7 d1 e3); (have x14 := kc7 d1 e4); (have x15 := kc7 d1 e5))
    | fail)
  go_wp2_with fail
  go_region_held3 (fun x => x.cell? ⟨w.heap.size, 0, none⟩ = some (.bool false) ∧ x.cell? ⟨w.heap.size, 1, none⟩ = some (.slice p1 m1 c1) ∧ x.cell? ⟨w.heap.size, 2, none⟩ = some (.slice p2 m2 c2) ∧ x.cell? ⟨w.heap.size + 1, 0, none⟩ = some (.bool g2) ∧ x.cell? ⟨w.heap.size + 1, 1, none⟩ = some (.slice p3 m3 c3) ∧ x.cell? ⟨w.heap.size + 1, 2, none⟩ = some (.slice p4 m4 c4)) (first | exact ⟨x70, x71, x72, x73, x74, x75⟩ | exact ⟨x60, x61, x62, x63, x64, x65⟩ | exact ⟨x50, x51, x52, x53, x54, x55⟩ | go_keep) (first
    | (go_at_call 98; (have mk := d6); (refine (CM _ _ _ _ _ _ _ (n1.grow b6) n2).mono ?_); (rintro e w7 ⟨rfl, b7⟩); (have d7 := bel' d6 b7); (have x70 := kc7 d7 e0); (have x71 := kc7 d7 e1); (have x72 := kc7 d7 e2); (have x73 := kc7 d7 e3); (have x74 := kc7 d7 e4); (have x75 := kc7 d7 e5))
    | (go_at_call 78; (have mk := d5); (refine (M2 _ (bel' pr d5)).mono ?_); (rintro e w6 ⟨a2, l2, k2, rfl, n2, b6⟩); (have d6 := bel' d5 b6); (have x60 := kc7 d6 e0); (have x61 := kc7 d6 e1); (have x62 := kc7 d6 e2); (have x63 := kc7 d6 e3); (have x64 := kc7 d6 e4); (have x65 := kc7 d6 e5))
    | (go_at_call 78; (refine (M1 _ (bel' pr d2.drew)).mono ?_); (rintro e w5 ⟨a1, l1, k1, rfl, n1, b5⟩); (have d5 := bel' d2 (undrew b5)); (have x50 := kc7 d5 e0); (have x51 := kc7 d5 e1); (have x52 := kc7 d5 e2); (have x53 := kc7 d5 e3); (have x54 := kc7 d5 e4); (have x55 := kc7 d5 e5))
    | fail)
  go_wp2_with fail
  go_ret
  exact ⟨rfl, bel' pr d7⟩
set_option maxRecDepth 100000 in
set_option maxHeartbeats 3200000 in
theorem qcmp_neg (g2 : Bool) (p1 p2 p3 p4 : Option Addr) (m1 c1 m2 c2 m3 c3 m4 c4 : Nat) (z1 z2 U V k : Int) (hne : (z1 != z2) = false) (z9 : Int) (hz9 : IntKind.i64.wrap (-k) = z9) (w : World) (G1 : ∀ x, Below w.heap.size w x → Calls Tryz.prog 53 #[.agg #[.bool true, .slice p1 m1 c1, .slice p2 m2 c2]] x fun e w' => e = .returned (.int .i64 z1) ∧ Below x.heap.size x w') (G2 : ∀ x, Below w.heap.size w x → Calls Tryz.prog 53 #[.agg #[.bool g2, .slice p3 m3 c3, .slice p4 m4 c4]] x fun e w' => e = .returned (.int .i64 z2) ∧ Below x.heap.size x w') (M1 : ∀ x, Below w.heap.size w x → Calls Tryz.prog 78 #[.slice p1 m1 c1, .slice p4 m4 c4] x fun e w' => ∃ a l c, e = .returned (.slice a l c) ∧ Nl w' a l c U ∧ Below x.heap.size x w') (M2 : ∀ x, Below w.heap.size w x → Calls Tryz.prog 78 #[.slice p3 m3 c3, .slice p2 m2 c2] x fun e w' => ∃ a l c, e = .returned (.slice a l c) ∧ Nl w' a l c V ∧ Below x.heap.size x w') (CM : ∀ x a l c a' l' c', Nl x a l c U → Nl x a' l' c' V → Calls Tryz.prog 98 #[.slice a l c, .slice a' l' c'] x fun e w' => e = .returned (.int .i64 k) ∧ Below x.heap.size x w') : Calls Tryz.prog 35 #[.agg #[.bool true, .slice p1 m1 c1, .slice p2 m2 c2], .agg #[.bool g2, .slice p3 m3 c3, .slice p4 m4 c4]] w fun e w' => e = .returned (.int .i64 z9) ∧ Below w.heap.size w w' := by
  have KA := (Blk.new w #[.bool true, .slice p1 m1 c1, .slice p2 m2 c2] 56).alloc (.cells #[.bool g2, .slice p3 m3 c3, .slice p4 m4 c4] 56)
  have KB := Blk.new (w.alloc (.cells #[.bool true, .slice p1 m1 c1, .slice p2 m2 c2] 56)) #[.bool g2, .slice p3 m3 c3, .slice p4 m4 c4] 56
  have pr : Below w.heap.size w ((w.alloc (.cells #[.bool true, .slice p1 m1 c1, .slice p2 m2 c2] 56)).alloc (.cells #[.bool g2, .slice p3 m3 c3, .slice p4 m4 c4] 56)) := ((Below.refl _ _).alloc (Nat.le_refl _) _).alloc (by simp) _
  simp only [World.size_alloc] at KB
  go_enter Tryz.func35, Tryz.ntmps35
  go_wp2_with fail
  generalize ((w.alloc (.cells #[.bool true, .slice p1 m1 c1, .slice p2 m2 c2] 56)).alloc (.cells #[.bool g2, .slice p3 m3 c3, .slice p4 m4 c4] 56)) = W at *
  have e0 := KA.at 0
  have e1 := KA.at 1
  have e2 := KA.at 2
  have e3 := KB.at 0
  have e4 := KB.at 1
  have e5 := KB.at 2
  simp at e0 e1 e2 e3 e4 e5
  have d0 : Below W.heap.size W W := Below.refl _ _
  go_region_held3 (fun x => x.cell? ⟨w.heap.size, 0, none⟩ = some (.bool true) ∧ x.cell? ⟨w.heap.size, 1, none⟩ = some (.slice p1 m1 c1) ∧ x.cell? ⟨w.heap.size, 2, none⟩ = some (.slice p2 m2 c2) ∧ x.cell? ⟨w.heap.size + 1, 0, none⟩ = some (.bool g2) ∧ x.cell? ⟨w.heap.size + 1, 1, none⟩ = some (.slice p3 m3 c3) ∧ x.cell? ⟨w.heap.size + 1, 2, none⟩ = some (.slice p4 m4 c4)) (first | exact ⟨x20, x21, x22, x23, x24, x25⟩ | exact ⟨x10, x11, x12, x13, x14, x15⟩ | go_keep) (first
    | (go_at_call 53; (have mk := d1); (refine (G2 _ (bel' pr d1)).mono ?_); (rintro e w2 ⟨rfl, b2⟩); (have d2 := bel' d1 b2); (have x20 := kc7 d2 e0); (have x21 := kc7 d2 e1); (have x22 := kc7 d2 e2); (have x23 := kc7 d2 e3); (have x24 := kc7 d2 e4); (have x25 := kc7 d2 e5))
    | (go_at_call 53; (refine (G1 _ (bel' pr d0.drew)).mono ?_); (rintro e w1 ⟨rfl, b1⟩); (have d1 := bel' d0 (undrew b1)); (have x10 := kc7 d1 e0); (have x11 := kc7 d1 e1); (have x12 := kc7 d1 e2); (have x13 := kc7 d1 e3); (have x14 := kc7 d1 e4); (have x15 := kc7 d1 e5))
    | fail)
  go_wp2_with fail
  go_region_held3 (fun x => x.cell? ⟨w.heap.size, 0, none⟩ = some (.bool true) ∧ x.cell? ⟨w.heap.size, 1, none⟩ = some (.slice p1 m1 c1) ∧ x.cell? ⟨w.heap.size, 2, none⟩ = some (.slice p2 m2 c2) ∧ x.cell? ⟨w.heap.size + 1, 0, none⟩ = some (.bool g2) ∧ x.cell? ⟨w.heap.size + 1, 1, none⟩ = some (.slice p3 m3 c3) ∧ x.cell? ⟨w.heap.size + 1, 2, none⟩ = some (.slice p4 m4 c4)) (first | exact ⟨x70, x71, x72, x73, x74, x75⟩ | exact ⟨x60, x61, x62, x63, x64, x65⟩ | exact ⟨x50, x51, x52, x53, x54, x55⟩ | go_keep) (first
    | (go_at_call 98; (have mk := d6); (refine (CM _ _ _ _ _ _ _ (n1.grow b6) n2).mono ?_); (rintro e w7 ⟨rfl, b7⟩); (have d7 := bel' d6 b7); (have x70 := kc7 d7 e0); (have x71 := kc7 d7 e1); (have x72 := kc7 d7 e2); (have x73 := kc7 d7 e3); (have x74 := kc7 d7 e4); (have x75 := kc7 d7 e5))
    | (go_at_call 78; (have mk := d5); (refine (M2 _ (bel' pr d5)).mono ?_); (rintro e w6 ⟨a2, l2, k2, rfl, n2, b6⟩); (have d6 := bel' d5 b6); (have x60 := kc7 d6 e0); (have x61 := kc7 d6 e1); (have x62 := kc7 d6 e2); (have x63 := kc7 d6 e3); (have x64 := kc7 d6 e4); (have x65 := kc7 d6 e5))
    | (go_at_call 78; (refine (M1 _ (bel' pr d2.drew)).mono ?_); (rintro e w5 ⟨a1, l1, k1, rfl, n1, b5⟩); (have d5 := bel' d2 (undrew b5)); (have x50 := kc7 d5 e0); (have x51 := kc7 d5 e1); (have x52 := kc7 d5 e2); (have x53 := kc7 d5 e3); (have x54 := kc7 d5 e4); (have x55 := kc7 d5 e5))
    | fail)
  go_wp2_with fail
  go_ret
  exact ⟨rfl, bel' pr d7⟩
theorem neg_mul_of7 {a b : Int} (ha : a < 0) (hb : 0 < b) : a * b < 0 := by
  have := Int.mul_lt_mul_of_pos_right ha hb; omega
theorem sgn_lt7 {r s : Rat} (h : L.sgn r < L.sgn s) : r < s := by
  rw [Rat.lt_iff]
  have dr := L.den_pos' r
  have ds := L.den_pos' s
  unfold L.sgn at h
  have k : (r.num < 0 ∧ 0 ≤ s.num) ∨ (r.num = 0 ∧ 0 < s.num) := by
    by_cases r0 : r.num = 0 <;> by_cases s0 : s.num = 0 <;> by_cases r1 : r.num < 0 <;> by_cases s1 : s.num < 0 <;> simp only [r0, s0, r1, s1, if_true, if_false] at h <;> omega
  rcases k with ⟨a, b⟩ | ⟨a, b⟩
  · have x := neg_mul_of7 a ds
    have y := Int.mul_nonneg b (Int.le_of_lt dr)
    omega
  · rw [a, Int.zero_mul]; exact Int.mul_pos b dr
theorem cmpR_eq7 (r s : Rat) : (if r < s then -1 else if s < r then 1 else 0 : Int) = L.cmp3 (r.num * s.den) (s.num * r.den) := by
  unfold L.cmp3
  simp only [Rat.lt_iff]
theorem cmp3_neg (x y : Int) : -L.cmp3 (-x) (-y) = L.cmp3 x y := by
  unfold L.cmp3
  by_cases k : x < y
  · rw [if_neg (show ¬ -x < -y by omega), if_pos (show -y < -x by omega), if_pos k]
  · by_cases k2 : y < x
    · rw [if_pos (show -x < -y by omega), if_neg k, if_pos k2]; rfl
    · rw [if_neg (show ¬ -x < -y by omega), if_neg (show ¬ -y < -x by omega), if_neg k, if_neg k2]; rfl
theorem wrap_cmp3 (x y : Int) : IntKind.i64.wrap (-L.cmp3 x y) = -L.cmp3 x y := by
  have : L.cmp3 x y = -1 ∨ L.cmp3 x y = 0 ∨ L.cmp3 x y = 1 := by unfold L.cmp3; split <;> (first | omega | (split <;> omega))
  rcases this with h | h | h <;> rw [h] <;> rfl
theorem QCmp_s (a b : Value) (r s : Rat) (K : Nat) (w : World) (ha : L.IsQ w a r) (hb : L.IsQ w b s) (hr : L.QS r K) (hs : L.QS s K) (hK : K ≤ 1000000000) : Calls Tryz.prog 35 #[a, b] w fun e w' => e = .returned (.int .i64 (if r < s then -1 else if s < r then 1 else 0)) ∧ Below w.heap.size w w' := by
  have G1 := fun x (h : Below w.heap.size w x) => L.Sign_q a r x (ha.grow h)
  have G2 := fun x (h : Below w.heap.size w x) => L.Sign_q b s x (hb.grow h)
  obtain ⟨p1, m1, c1, p2, m2, c2, rfl, n1, n2, _⟩ := nl_isq ha
  obtain ⟨p3, m3, c3, p4, m4, c4, rfl, n3, n4, _⟩ := nl_isq hb
  by_cases e : L.sgn r = L.sgn s
  · have ne : (L.sgn r != L.sgn s) = false := by rw [e]; simp
    rw [cmpR_eq7]
    by_cases g : r.num < 0
    · rw [decide_eq_true g] at G1 ⊢
      have q1 : r.num * s.den = -((r.num.natAbs : Int) * s.den) := by rw [← Int.neg_mul]; congr 1; omega
      have g2 : s.num < 0 := by
        unfold L.sgn at e
        by_cases s0 : s.num = 0 <;> by_cases s1 : s.num < 0 <;> simp only [s0, s1, g, show ¬ r.num = 0 by omega, if_true, if_false] at e <;> omega
      have q2 : s.num * r.den = -((s.num.natAbs : Int) * r.den) := by rw [← Int.neg_mul]; congr 1; omega
      rw [q1, q2, ← cmp3_neg, Int.neg_neg, Int.neg_neg, decide_eq_true g2] at *
      exact qcmp_neg _ p1 p2 p3 p4 m1 c1 m2 c2 m3 c3 m4 c4 _ _ _ _ _ ne _ (wrap_cmp3 _ _) w G1 G2 (fun x b => mul_nl (n1.grow b) (n4.grow b) hr.1 hs.2 hK) (fun x b => mul_nl (n3.grow b) (n2.grow b) hs.1 hr.2 hK) (fun x a l c a' l' c' h h' => cmp_nl h h' (lt_pp (by omega) hr.1 (by omega) hs.2) (by omega))
    · rw [decide_eq_false g] at G1 ⊢
      have g2 : ¬ s.num < 0 := by
        intro k
        unfold L.sgn at e
        by_cases r0 : r.num = 0 <;> simp only [r0, k, g, show ¬ s.num = 0 by omega, if_true, if_false] at e <;> omega
      have q1 : r.num * s.den = (r.num.natAbs : Int) * s.den := by congr 1; omega
      have q2 : s.num * r.den = (s.num.natAbs : Int) * r.den := by congr 1; omega
      rw [q1, q2]
      exact qcmp_pos _ p1 p2 p3 p4 m1 c1 m2 c2 m3 c3 m4 c4 _ _ _ _ _ ne w G1 G2 (fun x b => mul_nl (n1.grow b) (n4.grow b) hr.1 hs.2 hK) (fun x b => mul_nl (n3.grow b) (n2.grow b) hs.1 hr.2 hK) (fun x a l c a' l' c' h h' => cmp_nl h h' (lt_pp (by omega) hr.1 (by omega) hs.2) (by omega))
  · have ne : (L.sgn r != L.sgn s) = true := by rw [bne_iff_ne]; exact e
    by_cases l : L.sgn r < L.sgn s
    · rw [if_pos (sgn_lt7 l)]
      exact qcmp_lo _ _ p1 p2 p3 p4 m1 c1 m2 c2 m3 c3 m4 c4 _ _ ne l w G1 G2
    · have h := sgn_lt7 (show L.sgn s < L.sgn r by omega)
      rw [if_neg (Rat.not_lt.2 (Rat.le_of_lt h)), if_pos h]
      exact qcmp_hi _ _ p1 p2 p3 p4 m1 c1 m2 c2 m3 c3 m4 c4 _ _ ne l w G1 G2
end Go.Proofs.YtebilgnmnambnaaGreatDoor.Mo

namespace Go.Proofs.YtebilgnmnambnaaGreatDoor.Mo
open Go.RowKit Fu Tn Go.Lib Wt
def eb (n L k : Nat) : Nat := n / 2 ^ (L - k)
theorem eb_zero {n L : Nat} (h : n < 2 ^ L) : eb n L 0 = 0 := Nat.div_eq_of_lt h
theorem eb_full (n L : Nat) : eb n L L = n := by unfold eb; rw [Nat.sub_self, Nat.pow_zero, Nat.div_one]
theorem eb_half {n L k : Nat} (h : k < L) : eb n L k = eb n L (k + 1) / 2 := by
 unfold eb
 rw [Nat.div_div_eq_div_mul, ← Nat.pow_succ, show (L - (k + 1)).succ = L - k by omega]
theorem eb_le (n L k : Nat) : eb n L k ≤ n := Nat.div_le_self _ _
theorem pow_bd {A n e : Nat} {m : Nat} (hp : ((A ^ n : Nat) : Int) < pw m) (hm : 1 < pw m) (h : e ≤ n) : ((A ^ e : Nat) : Int) < pw m := by
 by_cases z : A = 0
 ·subst z
  have : (0 : Nat) ^ e ≤ 1 := by
   cases e with
   | zero => simp
   | succ e => simp
  omega
 ·have := Nat.pow_le_pow_right (show 1 ≤ A by omega) h
  omega
theorem bl_lt (n : Nat) (h : n < 9223372036854775808) : n < 2 ^ Lib.bitLen n ∧ Lib.bitLen n ≤ 64 := by
 by_cases z : n = 0
 ·subst z; decide
 ·have := bitLen_bd (n : Int) (by omega) (by omega)
  rw [Int.toNat_natCast] at this
  refine ⟨?_, this.2.1⟩
  have h := this.2.2.2
  have e : ((2 ^ Lib.bitLen n : Nat) : Int) = (2 : Int) ^ Lib.bitLen n := by simp
  omega
theorem and_one (a : Nat) (h : a < 9223372036854775808) : bits .and .i64 (a : Int) 1 = ((a % 2 : Nat) : Int) := by
 have a1 : (BitVec.ofInt 64 ((a : Nat) : Int)).toNat = a := by
  rw [BitVec.ofInt_natCast, BitVec.toNat_ofNat]; exact Nat.mod_eq_of_lt (by omega)
 have a2 : (BitVec.ofInt 64 1).toNat = 2 ^ 1 - 1 := by decide
 show IntKind.i64.wrap ((BitVec.ofInt 64 ((a : Nat) : Int) &&& BitVec.ofInt 64 1).toNat : Int) = _
 rw [BitVec.toNat_and, a1, a2, Nat.and_two_pow_sub_one_eq_mod]
 exact wrapI _ (by omega) (by omega)
set_option maxRecDepth 100000 in
set_option maxHeartbeats 1600000 in
theorem Pow_n (p : Option Addr) (l c A n : Nat) (w : World) (hA : Nn w p l c (A : Int)) (hn : n < 9223372036854775808) {K : Nat} (hK0 : 1 < pw K) (hK : K ≤ 400000) (hp : ((A ^ n : Nat) : Int) < pw K) :
  Calls Tryz.prog 66 #[.agg #[.slice p l c], .int .i64 n] w fun e w' => ∃ a l c, e = .returned (.agg #[.slice a l c]) ∧ Nn w' a l c ((A ^ n : Nat) : Int) ∧ Below w.heap.size w w' := by
 have OF := Of_any 1
 have BL := Tryz.bits_Len (n : Int)
 have x0 : IntKind.u64.wrap (n : Int) = n := wrapU _ (by omega) (by omega)
 have B0 := Bx.new w (.slice p l c) 65
 have B1 := B0.alloc (.cells #[.slice none 0 0] 65)
 have B2 := Bx.new (w.alloc (.cells #[.slice p l c] 65)) (.slice none 0 0) 65
 rw [show (w.alloc (.cells #[.slice p l c] 65)).heap.size = w.heap.size + 1 by simp] at B2
 have al := ((Below.refl w.heap.size w).alloc (Nat.le_refl _) (.cells #[.slice p l c] 65)).alloc (by simp) (.cells #[.slice none 0 0] 65)
 go_enter Tryz.func66, Tryz.ntmps66
 go_wp2_with (first
  | (go_at_call 65; go_must (refine (OF _ (by decide) (by decide)).mono ?_; rintro e w1 ⟨r, zs, rfl, q1, n1, v1, b1⟩; obtain ⟨a1, l1, c1, rfl⟩ := q1.shape))
  | (go_at_call 124; go_must (refine (BL _ (by omega) (by omega)).mono ?_; rintro e w2 ⟨rfl, rfl⟩))
  | fail)
 have al1 := (Below.refl w1.heap.size w1).alloc (Nat.le_refl _) (.cells #[.slice a1 l1 c1] 65)
 have b2 := bel' al b1
 have b3 := bel' b2 al1
 have P1 := (B1.below b1).below al1
 have P2 := (B2.below b1).below al1
 have P3 := Bx.new w1 (.slice a1 l1 c1) 65
 have hs : w.heap.size + 2 ≤ w1.heap.size := by have := b1.size; simp at this; omega
 obtain ⟨g, hg⟩ : ∃ g, w1.heap.size = g := ⟨_, rfl⟩
 obtain ⟨L, hL⟩ : ∃ L, Lib.bitLen n = L := ⟨_, rfl⟩
 have l0 := bl_lt n hn
 rw [hL] at l0
 have nP : Nn (w1.alloc (.cells #[.slice a1 l1 c1] 65)) a1 l1 c1 ((A ^ eb n L 0 : Nat) : Int) := Nn.grow ⟨zs, q1, n1, by rw [v1, eb_zero l0.1]; simp⟩ al1
 have nA := hA.grow b3
 rw [Int.toNat_natCast, hL] at BL
 rw [hg] at P3 hs ⊢
 rw [hL]
 generalize w1.alloc (.cells #[.slice a1 l1 c1] 65) = W at *
 clear OF q1 n1 v1 b1 b2 al al1 B0 B1 B2 hg hL
 go_loopw [11] (fun v wr => ∃ (k : Nat) (a : Option Addr) (l' c' : Nat), v = .int .i64 k ∧ k ≤ L ∧ Nn wr a l' c' ((A ^ eb n L k : Nat) : Int) ∧ Nn wr p l c (A : Int) ∧ Bx wr g (.slice a l' c') ∧ Bx wr w.heap.size (.slice p l c) ∧ Bx wr (w.heap.size + 1) (.slice none 0 0) ∧ Below w.heap.size w wr) (fun v _ => L - (RowKit.intOf v).toNat)
 case atStart => exact ⟨0, a1, l1, c1, rfl, Nat.zero_le _, nP, nA, P3, P1, P2, b3⟩
 case round =>
  clear nP nA P1 P2 P3 b3
  obtain ⟨k, a, l', c', rfl, hk, nP, nA, P3, P1, P2, b3⟩ := hrel
  by_cases lt : k < L
  ·have k3 := P3.1
   have k1 := P1.1
   have f3 := P3.2
   have E1 : Hid (eb n L k = eb n L (k + 1) / 2) := eb_half lt
   obtain ⟨j, hj⟩ : ∃ j, L = j + 1 := ⟨L - 1, by omega⟩
   have x1 : IntKind.i64.wrap ((L : Int) - 1) = (j : Int) := by rw [show (L : Int) - 1 = (j : Int) by omega]; exact wrapI _ (by omega) (by omega)
   obtain ⟨m, hm⟩ : ∃ m, j = m + k := ⟨j - k, by omega⟩
   have x2 : IntKind.i64.wrap ((j : Int) - (k : Int)) = (m : Int) := by rw [show (j : Int) - (k : Int) = (m : Int) by omega]; exact wrapI _ (by omega) (by omega)
   have HJ : Hid (L = j + 1) := hj
   have HM : Hid (j = m + k) := hm
   clear hj hm
   have ha1 : bits .and .i64 ((n : Int) / 2 ^ min m 64) 1 = ((eb n L (k + 1) % 2 : Nat) : Int) := by
    rw [← and_one _ (Nat.lt_of_le_of_lt (eb_le n L (k + 1)) hn)]
    unfold eb
    rw [show L - (k + 1) = m by have := HM.out; have := HJ.out; omega, Nat.min_eq_left (by have := HM.out; have := HJ.out; omega)]
    simp
   have z1 : ((A ^ eb n L k : Nat) : Int) < pw K := pow_bd hp hK0 (eb_le n L k)
   have z2 : ((A ^ (2 * eb n L k) : Nat) : Int) < pw K := pow_bd hp hK0 (by have := E1.out; have := eb_le n L (k + 1); omega)
   obtain ⟨e, he⟩ : ∃ e, eb n L (k + 1) = e := ⟨_, rfl⟩
   obtain ⟨e0, he0⟩ : ∃ e, eb n L k = e := ⟨_, rfl⟩
   have HE : Hid (eb n L (k + 1) = e) := he
   rw [he, he0] at E1
   rw [he] at ha1
   rw [he0] at nP z1 z2
   have M1 := Mul_n nP nP z1 z1 (by unfold MulOK; omega)
   rw [show ((A ^ e0 : Nat) : Int) * ((A ^ e0 : Nat) : Int) = ((A ^ (2 * e0) : Nat) : Int) by rw [Nat.two_mul, Nat.pow_add, Int.natCast_mul]] at M1
   have BL2 := fun x => BL x (by omega) (by omega)
   have zA : 1 ≤ n → ((A : Nat) : Int) < pw K := fun h => by have := pow_bd (e := 1) hp hK0 h; rwa [Nat.pow_one] at this
   have HS : Hid (w.heap.size + 2 ≤ g) := hs
   clear BL hp hA he he0 hs
   by_cases q : e % 2 = 1
   ·have en : 1 ≤ n := by have := eb_le n L (k + 1); rw [HE.out] at this; omega
    have zB := zA en
    have EN : Hid (e = 2 * e0 + 1) := by have := E1.out; show _ = _; omega
    rw [q] at ha1
    have MA := fun (x : World) (a : Option Addr) (l' c' : Nat) (h : Nn x a l' c' ((A ^ (2 * e0) : Nat) : Int)) (h2 : Nn x p l c (A : Int)) => Mul_n h h2 z2 zB (by unfold MulOK; omega)
    rw [show ((A ^ (2 * e0) : Nat) : Int) * (A : Int) = ((A ^ e : Nat) : Int) by rw [EN.out, Nat.pow_succ, Int.natCast_mul]] at MA
    have d1 : w.heap.size ≠ g := by have := HS.out; omega
    have d2 : w.heap.size + 1 ≠ g := by have := HS.out; omega
    have l64 := l0.2
    clear hn l0 zA z1 z2 zB q en
    go_wp2_with (first
     | (go_at_call 64; (with_reducible refine M1.mono ?_); rintro _ w2 ⟨ma, ml, mc, rfl, nM, b4⟩; (have K3 := P3.below b4); (have m1 := K3.1); (have m2 := K3.2))
     | (go_at_call 124; (with_reducible refine (BL2 _).mono ?_); rintro _ w3 ⟨rfl, rfl⟩; (have J3 := K3.set (.slice ma ml mc)); (have J1 := bxskip (P1.below b4) d1 (.slice ma ml mc)); (have j1 := J3.1); (have j2 := J1.1))
     | fail)
    clear M1 BL2
    have J2 := bxskip (P2.below b4) d2 (.slice ma ml mc)
    have NM := nM.box (u := .slice ma ml mc) K3
    have NA := (nA.grow b4).box (u := .slice ma ml mc) K3
    have b5 := below_put (bel' b3 b4) (show w.heap.size ≤ g by have := HS.out; omega) (.slice ma ml mc)
    have f2 := J3.2
    generalize w2.setCell ⟨g, 0, none⟩ (.slice ma ml mc) = V at *
    refine (MA V ma ml mc NM NA).mono ?_
    rintro _ w3 ⟨pa, pl, pc, rfl, nQ, b6⟩
    have I3 := J3.below b6
    have i1 := I3.1
    have i2 := I3.2
    have I1 := bxskip (J1.below b6) d1 (.slice pa pl pc)
    have I2 := bxskip (J2.below b6) d2 (.slice pa pl pc)
    have NQ := nQ.box (u := .slice pa pl pc) I3
    have NB := (NA.grow b6).box (u := .slice pa pl pc) I3
    have b7 := below_put (bel' b5 b6) (show w.heap.size ≤ g by have := HS.out; omega) (.slice pa pl pc)
    have I4 := I3.set (.slice pa pl pc)
    clear MA ha1 x1 x2
    have lk : k < 64 := by have := HM.out; have := HJ.out; omega
    go_wp2_with fail
    go_roundw
    case rel => exact ⟨k + 1, pa, pl, pc, by go_num, by omega, by rw [HE.out]; exact NQ, NB, I4, I1, I2, b7⟩
    case measure => simp [RowKit.intOf]; omega
   ·have EN : Hid (e = 2 * e0) := by have := E1.out; show _ = _; omega
    rw [show e % 2 = 0 by omega] at ha1
    have d1 : w.heap.size ≠ g := by have := HS.out; omega
    have d2 : w.heap.size + 1 ≠ g := by have := HS.out; omega
    have lk : k < 64 := by have := HM.out; have := HJ.out; omega
    clear hn l0 zA z1 z2 q
    go_wp2_with (first
     | (go_at_call 64; (with_reducible refine M1.mono ?_); rintro _ w2 ⟨ma, ml, mc, rfl, nM, b4⟩; (have K3 := P3.below b4); (have m1 := K3.1); (have m2 := K3.2))
     | (go_at_call 124; (with_reducible refine (BL2 _).mono ?_); rintro _ w3 ⟨rfl, rfl⟩)
     | fail)
    go_roundw
    case rel =>
     exact ⟨k + 1, ma, ml, mc, by go_num, by omega, by rw [HE.out, EN.out]; exact nM.box K3, (nA.grow b4).box K3, K3.set _, bxskip (P1.below b4) d1 _, bxskip (P2.below b4) d2 _, below_put (bel' b3 b4) (show w.heap.size ≤ g by have := HS.out; omega) _⟩
    case measure => simp [RowKit.intOf]; omega
  ·obtain rfl : k = L := by omega
   rw [eb_full] at nP
   have nE := nP.box (u := .slice a l' c') P2
   have bE := below_put b3 (show w.heap.size ≤ w.heap.size + 1 by omega) (.slice a l' c')
   clear hp x0 BL
   have c1 := P2.1
   have c2 := P3.1
   have c3 := P2.2
   go_wp2
   have v1 := (P2.set (.slice a l' c')).1
   exact bodyPost_ret (v := .agg #[.slice a l' c']) (by simp [results, Tryz.results66, go_sem, v1]) rfl ⟨a, l', c', rfl, nE, bE⟩
end Go.Proofs.YtebilgnmnambnaaGreatDoor.Mo

namespace Go.Proofs.YtebilgnmnambnaaGreatDoor.L
open Go.RowKit Tl
structure Pk (N A O : Int) (m : Nat) : Prop where
 eq : O * A ^ m = N
 alt : (A = 0 ∧ 0 ≤ O ∧ O ≤ 1) ∨ (1 ≤ A ∧ 1 ≤ O)
theorem one_le_pow {A : Int} (h : 1 ≤ A) : ∀ m : Nat, 1 ≤ A ^ m
 | 0 => by simp
 | m + 1 => by
  rw [Int.pow_succ]
  have := one_le_pow h m
  have := Int.mul_le_mul this h (by decide) (by omega)
  omega
theorem le_pow {A : Int} (h : 1 ≤ A) {m : Nat} (hm : 1 ≤ m) : A ≤ A ^ m := by
 obtain ⟨k, rfl⟩ : ∃ k, m = k + 1 := ⟨m - 1, by omega⟩
 rw [Int.pow_succ]
 have := one_le_pow h k
 have := Int.mul_le_mul_of_nonneg_right this (show 0 ≤ A by omega)
 omega
theorem Pk.o {N A O : Int} {m : Nat} (h : Pk N A O m) {B : Int} (b : N < B) (b1 : 1 < B) : O < B := by
 rcases h.alt with ⟨_, _, a⟩ | ⟨a, o⟩
 ·omega
 ·have := one_le_pow a m
  have := Int.mul_le_mul_of_nonneg_left this (show 0 ≤ O by omega)
  have := h.eq
  omega
theorem Pk.a {N A O : Int} {m : Nat} (h : Pk N A O m) (hm : 1 ≤ m) {B : Int} (b : N < B) (b1 : 1 < B) : A < B := by
 rcases h.alt with ⟨a, _, _⟩ | ⟨a, o⟩
 ·omega
 ·have p1 := le_pow a hm
  have := Int.mul_le_mul_of_nonneg_right o (show 0 ≤ A ^ m by omega)
  have := h.eq
  omega
theorem Pk.odd {N A O : Int} {m : Nat} (h : Pk N A O (2 * m + 1)) : Pk N A (O * A) (2 * m) := by
 refine ⟨by rw [← h.eq, Int.pow_succ, Int.mul_assoc, Int.mul_comm A], ?_⟩
 rcases h.alt with ⟨a, _, _⟩ | ⟨a, o⟩
 ·subst a; exact Or.inl ⟨rfl, by simp, by simp⟩
 ·have := Int.mul_le_mul o a (by decide) (by omega)
  exact Or.inr ⟨a, by omega⟩
theorem Pk.sq {N A O : Int} {m : Nat} (h : Pk N A O (2 * m)) : Pk N (A * A) O m := by
 refine ⟨by rw [← h.eq, Int.pow_mul]; congr 2; rw [Int.pow_succ, Int.pow_succ, Int.pow_zero, Int.one_mul], ?_⟩
 rcases h.alt with ⟨a, b⟩ | ⟨a, o⟩
 ·subst a; exact Or.inl ⟨rfl, b⟩
 ·have := Int.mul_le_mul a a (by decide) (by omega)
  exact Or.inr ⟨by omega, o⟩
theorem len_of {xs : List Int} {n : Nat} (h : Wd xs) (k : Nm xs) (v : val xs < pw n) : xs.length ≤ n := by
 by_cases e : xs = []
 ·subst e; simp
 ·have := val_low h k e
  by_cases c : xs.length ≤ n
  ·exact c
  ·have := pw_mono (show n ≤ xs.length - 1 by omega)
   omega
set_option maxRecDepth 100000 in
set_option maxHeartbeats 1600000 in
theorem Pow_any (v : Value) (xs : List Int) (n K : Nat) (w : World) (h : Rd w v xs) (hx : Nm xs) (hn : n < 9223372036854775808) (hp : val xs ^ n < pw K) (hk : 1 < pw K) (hK : K ≤ 274877906944) :
  Calls Tryz.prog 114 #[v, .int .i64 n] w fun e w' => ∃ u zs, e = .returned u ∧ Rd w' u zs ∧ Nm zs ∧ val zs = val xs ^ n ∧ Below w.heap.size w w' := by
 have al := (Below.refl w.heap.size w).alloc (Nat.le_refl _) (.cells #[.int .i64 1] 3)
 have r1 : Rd (w.alloc (.cells #[.int .i64 1] 3)) (.slice (some ⟨w.heap.size, 0, none⟩) 1 1) [1] := rd_one (by simp) (by decide) (by decide)
 have r0 := h.grow al
 have k0 : Pk (val xs ^ n) (val xs) (val [1]) n := ⟨by simp [val], by
  have := val_nonneg h.1
  simp only [val]
  omega⟩
 obtain ⟨N, hN⟩ : ∃ N, val xs ^ n = N := ⟨_, rfl⟩
 rw [hN] at k0 hp
 rw [hN]
 go_enter Tryz.func114, Tryz.ntmps114
 go_wp2_with fail
 generalize w.alloc (.cells #[.int .i64 1] 3) = W at *
 go_loopw [0, 1, 5] (fun a i o wr => ∃ (m : Nat) (A O : List Int), i = .int .i64 m ∧ m ≤ n ∧ Rd wr a A ∧ Nm A ∧ Rd wr o O ∧ Nm O ∧ Pk N (val A) (val O) m ∧ Below w.heap.size w wr) (fun _ i _ _ => (RowKit.intOf i).toNat)
 case atStart => exact ⟨n, xs, [1], rfl, Nat.le_refl _, r0, hx, r1, nm_one, k0, al⟩
 case round =>
  clear r0 r1 k0 al h hx
  obtain ⟨m, A, O, rfl, hm, rA, nA, rO, nO, pk, b⟩ := hrel
  by_cases z : m = 0
  ·subst z
   have e := pk.eq
   rw [Int.pow_zero, Int.mul_one] at e
   clear hp hk hn hN
   go_wp2
   go_ret
   exact ⟨_, O, rfl, rO, nO, e, b⟩
  ·have z' : (m : Int) > 0 := by omega
   have lA := len_of rA.1 nA (pk.a (by omega) hp hk)
   have lO := len_of rO.1 nO (pk.o hp hk)
   obtain ⟨j, hj⟩ : ∃ j, m / 2 = j := ⟨_, rfl⟩
   have MA := fun (x : World) (b : Below wr.heap.size wr x) => Mul_any _ _ A A x (rA.grow b) (rA.grow b) (by omega) (by omega)
   have MO := Mul_any _ _ O A wr rO rA (by omega) (by omega)
   have q1 : (m : Int) / 2 = (j : Int) := by omega
   have q2 : Int.tdiv (m : Int) 2 = (j : Int) := by rw [Int.tdiv_eq_ediv_of_nonneg (by omega)]; exact q1
   have q3 : IntKind.i64.wrap (j : Int) = (j : Int) := Wt.wrapI _ (by omega) (by omega)
   have HB : Hid (j < m) := by show j < m; omega
   clear hp hk hK hN lA lO
   by_cases od : m % 2 = 1
   ·have o1 : (m : Int) % 2 = 1 := by omega
    have o2 : Int.tmod (m : Int) 2 = 1 := by rw [Int.tmod_eq_emod_of_nonneg (by omega)]; exact o1
    have pk2 : Pk N (val A) (val O * val A) (2 * j) := Pk.odd (by rw [show 2 * j + 1 = m by omega]; exact pk)
    clear pk
    by_cases j0 : j = 0
    ·subst j0
     clear MA hj od q1 o1
     go_wp2_with (first
      | (go_at_call 78; (with_reducible refine MO.mono ?_); rintro _ w2 ⟨o2, O2, rfl, rO2, nO2, vO2, b2⟩)
      | fail)
     exact ⟨⟨0, A, O2, rfl, Nat.zero_le _, rA.grow b2, nA, rO2, nO2, by rw [vO2]; exact pk2, bel b b2⟩, by simp [RowKit.intOf]; exact HB.out⟩
    ·have j1 : (j : Int) > 0 := by omega
     have hjn : Hid (j ≤ n) := by show j ≤ n; omega
     clear hj od q1 o1 j0
     go_wp2_with (first
      | (go_at_call 78; (with_reducible refine MO.mono ?_); rintro _ w2 ⟨o2, O2, rfl, rO2, nO2, vO2, b2⟩; (have MA2 := MA _ b2))
      | (go_at_call 78; (with_reducible refine MA2.mono ?_); rintro _ w3 ⟨a2, A2, rfl, rA2, nA2, vA2, b3⟩)
      | fail)
     exact ⟨⟨j, A2, O2, rfl, hjn.out, rA2, nA2, rO2.grow b3, nO2, by rw [vO2, vA2]; exact pk2.sq, bel (bel b b2) b3⟩, by simp [RowKit.intOf]; exact HB.out⟩
   ·have o1 : (m : Int) % 2 = 0 := by omega
    have o2 : Int.tmod (m : Int) 2 = 0 := by rw [Int.tmod_eq_emod_of_nonneg (by omega)]; exact o1
    have pk2 : Pk N (val A) (val O) (2 * j) := by rw [show 2 * j = m by omega]; exact pk
    have j1 : (j : Int) > 0 := by omega
    have hjn : Hid (j ≤ n) := by show j ≤ n; omega
    have MA2 := MA wr (Below.refl _ _)
    clear pk hj od q1 o1 MO MA
    go_wp2_with (first
     | (go_at_call 78; (with_reducible refine MA2.mono ?_); rintro _ w3 ⟨a2, A2, rfl, rA2, nA2, vA2, b3⟩)
     | fail)
    exact ⟨⟨j, A2, O, rfl, hjn.out, rA2, nA2, rO.grow b3, nO, by rw [vA2]; exact pk2.sq, bel b b3⟩, by simp [RowKit.intOf]; exact HB.out⟩
end Go.Proofs.YtebilgnmnambnaaGreatDoor.L
