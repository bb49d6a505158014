import Derived.Test.YtebilgnmnambnaaGreatDoorPart40
import Derived.Test.YtebilgnmnambnaaGreatDoorPart11

namespace Go.Proofs.YtebilgnmnambnaaGreatDoor.Mo
open Go.RowKit

set_option maxRecDepth 100000 in
set_option maxHeartbeats 3200000 in
theorem qdiv_r (g1 g2 : Bool) (p1 p2 p3 p4 : Option Addr) (m1 c1 m2 c2 m3 c3 m4 c4 : Nat) (gx : Bool) (hg : (!(g1 == g2)) = gx) (U V : Int) (t : Rat) (w : World) (M1 : ∀ x, Below w.heap.size w x → Calls Tryz.prog 78 #[.slice p1 m1 c1, .slice p4 m4 c4] x fun e w' => ∃ a l c, e = .returned (.slice a l c) ∧ Nl w' a l c U ∧ Below x.heap.size x w') (M2 : ∀ x, Below w.heap.size w x → Calls Tryz.prog 78 #[.slice p2 m2 c2, .slice p3 m3 c3] x fun e w' => ∃ a l c, e = .returned (.slice a l c) ∧ Nl w' a l c V ∧ Below x.heap.size x w') (MK : ∀ x a l c a' l' c', Nl x a l c U → Nl x a' l' c' V → Calls Tryz.prog 80 #[.bool gx, .slice a l c, .slice a' l' c'] x (Qf t x)) : Calls Tryz.prog 54 #[.agg #[.bool g1, .slice p1 m1 c1, .slice p2 m2 c2], .agg #[.bool g2, .slice p3 m3 c3, .slice p4 m4 c4]] w (Qf t w) := by
  have KA := ((Blk.new w #[.bool g1, .slice p1 m1 c1, .slice p2 m2 c2] 56).alloc (.cells #[.bool g2, .slice p3 m3 c3, .slice p4 m4 c4] 56)).alloc (.cells #[.bool false, .slice none 0 0, .slice none 0 0] 56)
  have KB := (Blk.new (w.alloc (.cells #[.bool g1, .slice p1 m1 c1, .slice p2 m2 c2] 56)) #[.bool g2, .slice p3 m3 c3, .slice p4 m4 c4] 56).alloc (.cells #[.bool false, .slice none 0 0, .slice none 0 0] 56)
  have KR := Rb.new ((w.alloc (.cells #[.bool g1, .slice p1 m1 c1, .slice p2 m2 c2] 56)).alloc (.cells #[.bool g2, .slice p3 m3 c3, .slice p4 m4 c4] 56)) (.bool false) (.slice none 0 0) (.slice none 0 0) 56
  have pr : Below w.heap.size w (((w.alloc (.cells #[.bool g1, .slice p1 m1 c1, .slice p2 m2 c2] 56)).alloc (.cells #[.bool g2, .slice p3 m3 c3, .slice p4 m4 c4] 56)).alloc (.cells #[.bool false, .slice none 0 0, .slice none 0 0] 56)) := (((Below.refl _ _).alloc (Nat.le_refl _) _).alloc (by simp) _).alloc (by simp; omega) _
  simp only [World.size_alloc] at KB KR
  go_enter Tryz.func54, Tryz.ntmps54
  go_wp2_with fail
  generalize (((w.alloc (.cells #[.bool g1, .slice p1 m1 c1, .slice p2 m2 c2] 56)).alloc (.cells #[.bool g2, .slice p3 m3 c3, .slice p4 m4 c4] 56)).alloc (.cells #[.bool false, .slice none 0 0, .slice none 0 0] 56)) = W at *
  have e0 := KA.at 0
  have e1 := KA.at 1
  have e2 := KA.at 2
  have e3 := KB.at 0
  have e4 := KB.at 1
  have e5 := KB.at 2
  simp at e0 e1 e2 e3 e4 e5
  have na : w.heap.size + 1 + 1 ≠ w.heap.size := by omega
  have nb : w.heap.size + 1 + 1 ≠ w.heap.size + 1 := by omega
  go_region_held3 (fun x => x.cell? ⟨w.heap.size, 0, none⟩ = some (.bool g1) ∧ x.cell? ⟨w.heap.size, 1, none⟩ = some (.slice p1 m1 c1) ∧ x.cell? ⟨w.heap.size, 2, none⟩ = some (.slice p2 m2 c2) ∧ x.cell? ⟨w.heap.size + 1, 0, none⟩ = some (.bool g2) ∧ x.cell? ⟨w.heap.size + 1, 1, none⟩ = some (.slice p3 m3 c3) ∧ x.cell? ⟨w.heap.size + 1, 2, none⟩ = some (.slice p4 m4 c4)) (first | exact ⟨x40, x41, x42, x43, x44, x45⟩ | exact ⟨x30, x31, x32, x33, x34, x35⟩ | exact ⟨x20, x21, x22, x23, x24, x25⟩ | exact ⟨x10, x11, x12, x13, x14, x15⟩ | go_keep) (first
    | (go_at_call 80; (have mk := d2); (refine (MK _ _ _ _ _ _ _ (n1.grow b2) n2).mono ?_); (rintro e w3 ⟨g, a, l, c, a', l', c', rfl, tq, b3⟩); (have d3 := bel' d2 b3); (have x30 := kc7 d3 e0); (have x31 := kc7 d3 e1); (have x32 := kc7 d3 e2); (have x33 := kc7 d3 e3); (have x34 := kc7 d3 e4); (have x35 := kc7 d3 e5); (have KAs := qskip (KA.below d3 KA.lt) na (.bool g) (.slice a l c) (.slice a' l' c')); (have KBs := qskip (KB.below d3 KB.lt) nb (.bool g) (.slice a l c) (.slice a' l' c')); (have R := KR.grow d3); (have q0 := R.c0); (have q1 := R.c1); (have q2 := R.c2); (have y0 := R.f0); (have y1 := R.f1); (have y2 := R.f2); (have x40 := KAs.at 0); (have x41 := KAs.at 1); (have x42 := KAs.at 2); (have x43 := KBs.at 0); (have x44 := KBs.at 1); (have x45 := KBs.at 2); (simp at x40 x41 x42 x43 x44 x45))
    | (go_at_call 78; (have mk := d1); (refine (M2 _ (bel' pr d1)).mono ?_); (rintro e w2 ⟨a2, l2, k2, rfl, n2, b2⟩); (have d2 := bel' d1 b2); (have x20 := kc7 d2 e0); (have x21 := kc7 d2 e1); (have x22 := kc7 d2 e2); (have x23 := kc7 d2 e3); (have x24 := kc7 d2 e4); (have x25 := kc7 d2 e5))
    | (go_at_call 78; (refine (M1 _ (pr.drew)).mono ?_); (rintro e w1 ⟨a1, l1, k1, rfl, n1, b1⟩); (have d1 := undrew b1); (have x10 := kc7 d1 e0); (have x11 := kc7 d1 e1); (have x12 := kc7 d1 e2); (have x13 := kc7 d1 e3); (have x14 := kc7 d1 e4); (have x15 := kc7 d1 e5))
    | fail)
  all_goals
    go_wp2_with fail
    obtain ⟨F0, F1, F2⟩ := R.put (.bool g) (.slice a l c) (.slice a' l' c')
    exact bodyPost_ret (v := .agg #[.bool g, .slice a l c, .slice a' l' c']) (by simp [results, Tryz.results54, go_sem, F0, F1, F2]) rfl ⟨g, a, l, c, a', l', c', rfl, qput tq R, bset3 (bel' pr d3) (show w.heap.size ≤ w.heap.size + 1 + 1 by omega)⟩
theorem QDiv_s (a b : Value) (r s : Rat) (K : Nat) (w : World) (ha : L.IsQ w a r) (hb : L.IsQ w b s) (hr : L.QS r K) (hs : L.QS s K) (hK : K ≤ 1000000000) (sz : s ≠ 0) : Calls Tryz.prog 54 #[a, b] w (Qf (r / s) w) := by
  obtain ⟨p1, m1, c1, p2, m2, c2, rfl, n1, n2, _⟩ := nl_isq ha
  obtain ⟨p3, m3, c3, p4, m4, c4, rfl, n3, n4, _⟩ := nl_isq hb
  have nz : s.num ≠ 0 := fun k => sz (Rat.num_eq_zero.1 k)
  have er := L.num_sg r
  have e : mkRat (L.sgI (!(decide (r.num < 0) == decide (s.num < 0))) ((r.num.natAbs : Int) * s.den)) ((r.den : Int) * s.num.natAbs).toNat = r / s := by
    rw [Rat.div_def, Rat.mul_def', Rat.num_inv, Rat.den_inv, if_neg nz]
    congr 1
    by_cases c : s.num < 0
    · rw [decide_eq_true c, Int.sign_eq_neg_one_of_neg c]
      generalize decide (r.num < 0) = g at *
      rw [er]
      cases g
      · show L.sgI true _ = _
        simp only [L.sgI, Bool.false_eq_true, if_false, if_true]; grind
      · show L.sgI false _ = _
        simp only [L.sgI, Bool.false_eq_true, if_false, if_true]; grind
    · rw [decide_eq_false c, Int.sign_eq_one_of_pos (by omega)]
      generalize decide (r.num < 0) = g at *
      rw [er]
      cases g
      · show L.sgI false _ = _
        simp only [L.sgI, Bool.false_eq_true, if_false]; grind
      · show L.sgI true _ = _
        simp only [L.sgI, if_true]; grind
  rw [← e]
  exact qdiv_r _ _ p1 p2 p3 p4 m1 c1 m2 c2 m3 c3 m4 c4 _ rfl _ _ _ w (fun x b => mul_nl (n1.grow b) (n4.grow b) hr.1 hs.2 hK) (fun x b => mul_nl (n2.grow b) (n3.grow b) hr.2 hs.1 hK) (fun x a l c a' l' c' h h' => make_nl _ h h' (lt_pp (by omega) hr.1 (by omega) hs.2) (lt_pp (by omega) hr.2 (by omega) hs.1) (by omega) (Int.mul_pos (L.den_pos' r) (by omega)))
end Go.Proofs.YtebilgnmnambnaaGreatDoor.Mo
