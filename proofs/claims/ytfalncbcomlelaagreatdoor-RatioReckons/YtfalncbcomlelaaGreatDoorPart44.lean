import Derived.Test.YtfalncbcomlelaaGreatDoorPart43
import Derived.Test.YtfalncbcomlelaaGreatDoorPart13
import Derived.Test.YtfalncbcomlelaaGreatDoorPart34
import Derived.Test.YtfalncbcomlelaaGreatDoorPart40
import Derived.Test.YtfalncbcomlelaaGreatDoorPart41
import Derived.Test.YtfalncbcomlelaaGreatDoorPart42
import Derived.Test.YtfalncbcomlelaaGreatDoorPart32
import Derived.Test.YtfalncbcomlelaaGreatDoorPart33

namespace Go.Proofs.YtfalncbcomlelaaGreatDoor.Mo
open Go.RowKit

theorem kc7 {W x : World} {b i : Nat} {v : Value} (d : Below W.heap.size W x) (h : W.cell? ⟨b, i, none⟩ = some v) : x.cell? ⟨b, i, none⟩ = some v := (d.cell (p := ⟨b, i, none⟩) (L.lt_of_cell h)).trans h
theorem qskip {w : World} {n b : Nat} {c : Array Value} {t : TypeId} (h : Blk w n c t) (hb : b ≠ n) (x y z : Value) : Blk (((w.setCell ⟨b, 0, none⟩ x).setCell ⟨b, 1, none⟩ y).setCell ⟨b, 2, none⟩ z) n c t := by
  have h' : w.heap[n]? = some (.cells c t (0, 0)) := h
  show (((w.setCell ⟨b, 0, none⟩ x).setCell ⟨b, 1, none⟩ y).setCell ⟨b, 2, none⟩ z).heap[n]? = _
  simp [World.setCell, Array.getElem?_modify, h', hb]
theorem mul_nl {x : World} {a1 a2 : Option Addr} {l1 c1 l2 c2 : Nat} {A B : Int} {K : Nat} (h1 : Nl x a1 l1 c1 A) (h2 : Nl x a2 l2 c2 B) (hA : A < Tl.pw K) (hB : B < Tl.pw K) (hK : K ≤ 1000000000) : Calls Tryz.prog 71 #[.slice a1 l1 c1, .slice a2 l2 c2] x fun e w' => ∃ a l c, e = .returned (.slice a l c) ∧ Nl w' a l c (A * B) ∧ Below x.heap.size x w' := by
  obtain ⟨xs, r1, n1, rfl⟩ := h1
  obtain ⟨ys, r2, n2, rfl⟩ := h2
  have k1 := L.len_of_lt r1.1 n1 hA
  have k2 := L.len_of_lt r2.1 n2 hB
  refine (L.Mul_any _ _ xs ys x r1 r2 (by omega) (by omega)).mono ?_
  rintro e w' ⟨v, zs, rfl, hr, hn, hv, b⟩
  obtain ⟨a, c, rfl⟩ := L.rd_form hr
  exact ⟨a, _, c, rfl, ⟨zs, hr, hn, hv⟩, b⟩
theorem make_nl {x : World} {a1 a2 : Option Addr} {l1 c1 l2 c2 : Nat} {U V : Int} {K : Nat} (g : Bool) (h1 : Nl x a1 l1 c1 U) (h2 : Nl x a2 l2 c2 V) (hU : U < Tl.pw K) (hV : V < Tl.pw K) (hK : K ≤ 4000000000) (h0 : 0 < V) : Calls Tryz.prog 72 #[.bool g, .slice a1 l1 c1, .slice a2 l2 c2] x (Qf (mkRat (L.sgI g U) V.toNat) x) := by
  obtain ⟨xs, r1, n1, rfl⟩ := h1
  obtain ⟨ys, r2, n2, rfl⟩ := h2
  exact qf_of (L.Make_q g _ _ xs ys K x r1 r2 n1 n2 (L.len_of_lt r1.1 n1 hU) (L.len_of_lt r2.1 n2 hV) (by omega) h0)
theorem cmp_nl {x : World} {a1 a2 : Option Addr} {l1 c1 l2 c2 : Nat} {A B : Int} {K : Nat} (h1 : Nl x a1 l1 c1 A) (h2 : Nl x a2 l2 c2 B) (hA : A < Tl.pw K) (hK : K ≤ 4000000000) : Calls Tryz.prog 38 #[.slice a1 l1 c1, .slice a2 l2 c2] x fun e w' => e = .returned (.int .i64 (L.cmp3 A B)) ∧ Below x.heap.size x w' := by
  obtain ⟨xs, r1, n1, rfl⟩ := h1
  obtain ⟨ys, r2, n2, rfl⟩ := h2
  have k1 := L.len_of_lt r1.1 n1 hA
  exact L.Cmp_any _ _ xs ys x r1 r2 n1 n2 (by omega)
theorem lt_pp {A B : Int} {K : Nat} (a0 : 0 ≤ A) (a1 : A < Tl.pw K) (_b0 : 0 ≤ B) (b1 : B < Tl.pw K) : A * B < Tl.pw (K + K) := by
  rw [Tl.pw_add]
  exact Int.lt_of_le_of_lt (Int.mul_le_mul_of_nonneg_left (Int.le_of_lt b1) a0) (Int.mul_lt_mul_of_pos_right a1 (by omega))
set_option maxRecDepth 100000 in
set_option maxHeartbeats 3200000 in
theorem qmul_r (g1 g2 : Bool) (p1 p2 p3 p4 : Option Addr) (m1 c1 m2 c2 m3 c3 m4 c4 : Nat) (gx : Bool) (hg : (!(g1 == g2)) = gx) (U V : Int) (t : Rat) (w : World) (M1 : ∀ x, Below w.heap.size w x → Calls Tryz.prog 71 #[.slice p1 m1 c1, .slice p3 m3 c3] x fun e w' => ∃ a l c, e = .returned (.slice a l c) ∧ Nl w' a l c U ∧ Below x.heap.size x w') (M2 : ∀ x, Below w.heap.size w x → Calls Tryz.prog 71 #[.slice p2 m2 c2, .slice p4 m4 c4] x fun e w' => ∃ a l c, e = .returned (.slice a l c) ∧ Nl w' a l c V ∧ Below x.heap.size x w') (MK : ∀ x a l c a' l' c', Nl x a l c U → Nl x a' l' c' V → Calls Tryz.prog 72 #[.bool gx, .slice a l c, .slice a' l' c'] x (Qf t x)) : Calls Tryz.prog 32 #[.agg #[.bool g1, .slice p1 m1 c1, .slice p2 m2 c2], .agg #[.bool g2, .slice p3 m3 c3, .slice p4 m4 c4]] w (Qf t w) := by
  have KA := ((Blk.new w #[.bool g1, .slice p1 m1 c1, .slice p2 m2 c2] 66).alloc (.cells #[.bool g2, .slice p3 m3 c3, .slice p4 m4 c4] 66)).alloc (.cells #[.bool false, .slice none 0 0, .slice none 0 0] 66)
  have KB := (Blk.new (w.alloc (.cells #[.bool g1, .slice p1 m1 c1, .slice p2 m2 c2] 66)) #[.bool g2, .slice p3 m3 c3, .slice p4 m4 c4] 66).alloc (.cells #[.bool false, .slice none 0 0, .slice none 0 0] 66)
  have KR := Rb.new ((w.alloc (.cells #[.bool g1, .slice p1 m1 c1, .slice p2 m2 c2] 66)).alloc (.cells #[.bool g2, .slice p3 m3 c3, .slice p4 m4 c4] 66)) (.bool false) (.slice none 0 0) (.slice none 0 0) 66
  have pr : Below w.heap.size w (((w.alloc (.cells #[.bool g1, .slice p1 m1 c1, .slice p2 m2 c2] 66)).alloc (.cells #[.bool g2, .slice p3 m3 c3, .slice p4 m4 c4] 66)).alloc (.cells #[.bool false, .slice none 0 0, .slice none 0 0] 66)) := (((Below.refl _ _).alloc (Nat.le_refl _) _).alloc (by simp) _).alloc (by simp; omega) _
  simp only [World.size_alloc] at KB KR
  go_enter Tryz.func32, Tryz.ntmps32
  go_wp2_with fail
  generalize (((w.alloc (.cells #[.bool g1, .slice p1 m1 c1, .slice p2 m2 c2] 66)).alloc (.cells #[.bool g2, .slice p3 m3 c3, .slice p4 m4 c4] 66)).alloc (.cells #[.bool false, .slice none 0 0, .slice none 0 0] 66)) = W at *
  have e0 := KA.at 0
  have e1 := KA.at 1
  have e2 := KA.at 2
  have e3 := KB.at 0
  have e4 := KB.at 1
  have e5 := KB.at 2
  simp at e0 e1 e2 e3 e4 e5
  have na : w.heap.size + 1 + 1 ≠ w.heap.size := by omega
  have nb : w.heap.size + 1 + 1 ≠ w.heap.size + 1 := by omega
  go_region_held3 (fun x => x.cell? ⟨w.heap.size, 0, none⟩ = some (.bool g1) ∧ x.cell? ⟨w.heap.size, 1, none⟩ = some (.slice p1 m1 c1) ∧ x.cell? ⟨w.heap.size, 2, none⟩ = some (.slice p2 m2 c2) ∧ x.cell? ⟨w.heap.size + 1, 0, none⟩ = some (.bool g2) ∧ x.cell? ⟨w.heap.size + 1, 1, none⟩ = some (.slice p3 m3 c3) ∧ x.cell? ⟨w.heap.size + 1, 2, none⟩ = some (.slice p4 m4 c4)) (first | exact ⟨x40, x41, x42, x43, x44, x45⟩ | exact ⟨x30, x31, x32, x33, x34, x35⟩ | exact ⟨x20, x21, x22, x23, x24, x25⟩ | exact ⟨x10, x11, x12, x13, x14, x15⟩ | go_keep) (first
    | (go_at_call 72; (have mk := d2); (refine (MK _ _ _ _ _ _ _ (n1.grow b2) n2).mono ?_); (rintro e w3 ⟨g, a, l, c, a', l', c', rfl, tq, b3⟩); (have d3 := bel' d2 b3); (have x30 := kc7 d3 e0); (have x31 := kc7 d3 e1); (have x32 := kc7 d3 e2); (have x33 := kc7 d3 e3); (have x34 := kc7 d3 e4); (have x35 := kc7 d3 e5); (have KAs := qskip (KA.below d3 KA.lt) na (.bool g) (.slice a l c) (.slice a' l' c')); (have KBs := qskip (KB.below d3 KB.lt) nb (.bool g) (.slice a l c) (.slice a' l' c')); (have R := KR.grow d3); (have q0 := R.c0); (have q1 := R.c1); (have q2 := R.c2); (have y0 := R.f0); (have y1 := R.f1); (have y2 := R.f2); (have x40 := KAs.at 0); (have x41 := KAs.at 1); (have x42 := KAs.at 2); (have x43 := KBs.at 0); (have x44 := KBs.at 1); (have x45 := KBs.at 2); (simp at x40 x41 x42 x43 x44 x45))
    | (go_at_call 71; (have mk := d1); (refine (M2 _ (bel' pr d1)).mono ?_); (rintro e w2 ⟨a2, l2, k2, rfl, n2, b2⟩); (have d2 := bel' d1 b2); (have x20 := kc7 d2 e0); (have x21 := kc7 d2 e1); (have x22 := kc7 d2 e2); (have x23 := kc7 d2 e3); (have x24 := kc7 d2 e4); (have x25 := kc7 d2 e5))
    | (go_at_call 71; (refine (M1 _ (pr.drew)).mono ?_); (rintro e w1 ⟨a1, l1, k1, rfl, n1, b1⟩); (have d1 := undrew b1); (have x10 := kc7 d1 e0); (have x11 := kc7 d1 e1); (have x12 := kc7 d1 e2); (have x13 := kc7 d1 e3); (have x14 := kc7 d1 e4); (have x15 := kc7 d1 e5))
    | fail)
  all_goals
    go_wp2_with fail
    obtain ⟨F0, F1, F2⟩ := R.put (.bool g) (.slice a l c) (.slice a' l' c')
    exact bodyPost_ret (v := .agg #[.bool g, .slice a l c, .slice a' l' c']) (by simp [results, Tryz.results32, go_sem, F0, F1, F2]) rfl ⟨g, a, l, c, a', l', c', rfl, qput tq R, bset3 (bel' pr d3) (show w.heap.size ≤ w.heap.size + 1 + 1 by omega)⟩
set_option maxRecDepth 100000 in
set_option maxHeartbeats 3200000 in
theorem qdiv_r (g1 g2 : Bool) (p1 p2 p3 p4 : Option Addr) (m1 c1 m2 c2 m3 c3 m4 c4 : Nat) (gx : Bool) (hg : (!(g1 == g2)) = gx) (U V : Int) (t : Rat) (w : World) (M1 : ∀ x, Below w.heap.size w x → Calls Tryz.prog 71 #[.slice p1 m1 c1, .slice p4 m4 c4] x fun e w' => ∃ a l c, e = .returned (.slice a l c) ∧ Nl w' a l c U ∧ Below x.heap.size x w') (M2 : ∀ x, Below w.heap.size w x → Calls Tryz.prog 71 #[.slice p2 m2 c2, .slice p3 m3 c3] x fun e w' => ∃ a l c, e = .returned (.slice a l c) ∧ Nl w' a l c V ∧ Below x.heap.size x w') (MK : ∀ x a l c a' l' c', Nl x a l c U → Nl x a' l' c' V → Calls Tryz.prog 72 #[.bool gx, .slice a l c, .slice a' l' c'] x (Qf t x)) : Calls Tryz.prog 34 #[.agg #[.bool g1, .slice p1 m1 c1, .slice p2 m2 c2], .agg #[.bool g2, .slice p3 m3 c3, .slice p4 m4 c4]] w (Qf t w) := by
  have KA := ((Blk.new w #[.bool g1, .slice p1 m1 c1, .slice p2 m2 c2] 66).alloc (.cells #[.bool g2, .slice p3 m3 c3, .slice p4 m4 c4] 66)).alloc (.cells #[.bool false, .slice none 0 0, .slice none 0 0] 66)
  have KB := (Blk.new (w.alloc (.cells #[.bool g1, .slice p1 m1 c1, .slice p2 m2 c2] 66)) #[.bool g2, .slice p3 m3 c3, .slice p4 m4 c4] 66).alloc (.cells #[.bool false, .slice none 0 0, .slice none 0 0] 66)
  have KR := Rb.new ((w.alloc (.cells #[.bool g1, .slice p1 m1 c1, .slice p2 m2 c2] 66)).alloc (.cells #[.bool g2, .slice p3 m3 c3, .slice p4 m4 c4] 66)) (.bool false) (.slice none 0 0) (.slice none 0 0) 66
  have pr : Below w.heap.size w (((w.alloc (.cells #[.bool g1, .slice p1 m1 c1, .slice p2 m2 c2] 66)).alloc (.cells #[.bool g2, .slice p3 m3 c3, .slice p4 m4 c4] 66)).alloc (.cells #[.bool false, .slice none 0 0, .slice none 0 0] 66)) := (((Below.refl _ _).alloc (Nat.le_refl _) _).alloc (by simp) _).alloc (by simp; omega) _
  simp only [World.size_alloc] at KB KR
  go_enter Tryz.func34, Tryz.ntmps34
  go_wp2_with fail
  generalize (((w.alloc (.cells #[.bool g1, .slice p1 m1 c1, .slice p2 m2 c2] 66)).alloc (.cells #[.bool g2, .slice p3 m3 c3, .slice p4 m4 c4] 66)).alloc (.cells #[.bool false, .slice none 0 0, .slice none 0 0] 66)) = W at *
  have e0 := KA.at 0
  have e1 := KA.at 1
  have e2 := KA.at 2
  have e3 := KB.at 0
  have e4 := KB.at 1
  have e5 := KB.at 2
  simp at e0 e1 e2 e3 e4 e5
  have na : w.heap.size + 1 + 1 ≠ w.heap.size := by omega
  have nb : w.heap.size + 1 + 1 ≠ w.heap.size + 1 := by omega
  go_region_held3 (fun x => x.cell? ⟨w.heap.size, 0, none⟩ = some (.bool g1) ∧ x.cell? ⟨w.heap.size, 1, none⟩ = some (.slice p1 m1 c1) ∧ x.cell? ⟨w.heap.size, 2, none⟩ = some (.slice p2 m2 c2) ∧ x.cell? ⟨w.heap.size + 1, 0, none⟩ = some (.bool g2) ∧ x.cell? ⟨w.heap.size + 1, 1, none⟩ = some (.slice p3 m3 c3) ∧ x.cell? ⟨w.heap.size + 1, 2, none⟩ = some (.slice p4 m4 c4)) (first | exact ⟨x40, x41, x42, x43, x44, x45⟩ | exact ⟨x30, x31, x32, x33, x34, x35⟩ | exact ⟨x20, x21, x22, x23, x24, x25⟩ | exact ⟨x10, x11, x12, x13, x14, x15⟩ | go_keep) (first
    | (go_at_call 72; (have mk := d2); (refine (MK _ _ _ _ _ _ _ (n1.grow b2) n2).mono ?_); (rintro e w3 ⟨g, a, l, c, a', l', c', rfl, tq, b3⟩); (have d3 := bel' d2 b3); (have x30 := kc7 d3 e0); (have x31 := kc7 d3 e1); (have x32 := kc7 d3 e2); (have x33 := kc7 d3 e3); (have x34 := kc7 d3 e4); (have x35 := kc7 d3 e5); (have KAs := qskip (KA.below d3 KA.lt) na (.bool g) (.slice a l c) (.slice a' l' c')); (have KBs := qskip (KB.below d3 KB.lt) nb (.bool g) (.slice a l c) (.slice a' l' c')); (have R := KR.grow d3); (have q0 := R.c0); (have q1 := R.c1); (have q2 := R.c2); (have y0 := R.f0); (have y1 := R.f1); (have y2 := R.f2); (have x40 := KAs.at 0); (have x41 := KAs.at 1); (have x42 := KAs.at 2); (have x43 := KBs.at 0); (have x44 := KBs.at 1); (have x45 := KBs.at 2); (simp at x40 x41 x42 x43 x44 x45))
    | (go_at_call 71; (have mk := d1); (refine (M2 _ (bel' pr d1)).mono ?_); (rintro e w2 ⟨a2, l2, k2, rfl, n2, b2⟩); (have d2 := bel' d1 b2); (have x20 := kc7 d2 e0); (have x21 := kc7 d2 e1); (have x22 := kc7 d2 e2); (have x23 := kc7 d2 e3); (have x24 := kc7 d2 e4); (have x25 := kc7 d2 e5))
    | (go_at_call 71; (refine (M1 _ (pr.drew)).mono ?_); (rintro e w1 ⟨a1, l1, k1, rfl, n1, b1⟩); (have d1 := undrew b1); (have x10 := kc7 d1 e0); (have x11 := kc7 d1 e1); (have x12 := kc7 d1 e2); (have x13 := kc7 d1 e3); (have x14 := kc7 d1 e4); (have x15 := kc7 d1 e5))
    | fail)
  all_goals
    go_wp2_with fail
    obtain ⟨F0, F1, F2⟩ := R.put (.bool g) (.slice a l c) (.slice a' l' c')
    exact bodyPost_ret (v := .agg #[.bool g, .slice a l c, .slice a' l' c']) (by simp [results, Tryz.results34, go_sem, F0, F1, F2]) rfl ⟨g, a, l, c, a', l', c', rfl, qput tq R, bset3 (bel' pr d3) (show w.heap.size ≤ w.heap.size + 1 + 1 by omega)⟩
theorem QMul_s (a b : Value) (r s : Rat) (K : Nat) (w : World) (ha : L.IsQ w a r) (hb : L.IsQ w b s) (hr : L.QS r K) (hs : L.QS s K) (hK : K ≤ 1000000000) : Calls Tryz.prog 32 #[a, b] w (Qf (r * s) w) := by
  obtain ⟨p1, m1, c1, p2, m2, c2, rfl, n1, n2, _⟩ := nl_isq ha
  obtain ⟨p3, m3, c3, p4, m4, c4, rfl, n3, n4, _⟩ := nl_isq hb
  have er := L.num_sg r
  have es := L.num_sg s
  have e : mkRat (L.sgI (!(decide (r.num < 0) == decide (s.num < 0))) ((r.num.natAbs : Int) * s.num.natAbs)) ((r.den : Int) * s.den).toNat = r * s := by
    rw [Rat.mul_def']
    congr 1
    generalize decide (r.num < 0) = g at *
    generalize decide (s.num < 0) = g' at *
    rw [er, es]
    cases g <;> cases g'
    · show L.sgI false _ = _
      simp only [L.sgI, Bool.false_eq_true, if_false]; simp
    · show L.sgI true _ = _
      simp only [L.sgI, Bool.false_eq_true, if_false, if_true]; grind
    · show L.sgI true _ = _
      simp only [L.sgI, Bool.false_eq_true, if_false, if_true]; grind
    · show L.sgI false _ = _
      simp only [L.sgI, Bool.false_eq_true, if_false, if_true]; grind
  rw [← e]
  exact qmul_r _ _ p1 p2 p3 p4 m1 c1 m2 c2 m3 c3 m4 c4 _ rfl _ _ _ w (fun x b => mul_nl (n1.grow b) (n3.grow b) hr.1 hs.1 hK) (fun x b => mul_nl (n2.grow b) (n4.grow b) hr.2 hs.2 hK) (fun x a l c a' l' c' h h' => make_nl _ h h' (lt_pp (by omega) hr.1 (by omega) hs.1) (lt_pp (by omega) hr.2 (by omega) hs.2) (by omega) (Int.mul_pos (L.den_pos' r) (L.den_pos' s)))
theorem QDiv_s (a b : Value) (r s : Rat) (K : Nat) (w : World) (ha : L.IsQ w a r) (hb : L.IsQ w b s) (hr : L.QS r K) (hs : L.QS s K) (hK : K ≤ 1000000000) (sz : s ≠ 0) : Calls Tryz.prog 34 #[a, b] w (Qf (r / s) w) := by
  obtain ⟨p1, m1, c1, p2, m2, c2, rfl, n1, n2, _⟩ := nl_isq ha
  obtain ⟨p3, m3, c3, p4, m4, c4, rfl, n3, n4, _⟩ := nl_isq hb
  have nz : s.num ≠ 0 := fun k => sz (Rat.num_eq_zero.1 k)
  have er := L.num_sg r
  have e : mkRat (L.sgI (!(decide (r.num < 0) == decide (s.num < 0))) ((r.num.natAbs : Int) * s.den)) ((r.den : Int) * s.num.natAbs).toNat = r / s := by
    rw [Rat.div_def, Rat.mul_def', Rat.num_inv, Rat.den_inv, if_neg nz]
    congr 1
    by_cases c : s.num < 0
    · rw [decide_eq_true c, Int.sign_eq_neg_one_of_neg c]
      generalize decide (r.num < 0) = g at *
      rw [er]
      cases g
      · show L.sgI true _ = _
        simp only [L.sgI, Bool.false_eq_true, if_false, if_true]; grind
      · show L.sgI false _ = _
        simp only [L.sgI, Bool.false_eq_true, if_false, if_true]; grind
    · rw [decide_eq_false c, Int.sign_eq_one_of_pos (by omega)]
      generalize decide (r.num < 0) = g at *
      rw [er]
      cases g
      · show L.sgI false _ = _
        simp only [L.sgI, Bool.false_eq_true, if_false]; grind
      · show L.sgI true _ = _
        simp only [L.sgI, if_true]; grind
  rw [← e]
  exact qdiv_r _ _ p1 p2 p3 p4 m1 c1 m2 c2 m3 c3 m4 c4 _ rfl _ _ _ w (fun x b => mul_nl (n1.grow b) (n4.grow b) hr.1 hs.2 hK) (fun x b => mul_nl (n2.grow b) (n3.grow b) hr.2 hs.1 hK) (fun x a l c a' l' c' h h' => make_nl _ h h' (lt_pp (by omega) hr.1 (by omega) hs.2) (lt_pp (by omega) hr.2 (by omega) hs.1) (by omega) (Int.mul_pos (L.den_pos' r) (by omega)))
set_option maxRecDepth 100000 in
set_option maxHeartbeats 3200000 in
theorem qcmp_lo (g1 g2 : Bool) (p1 p2 p3 p4 : Option Addr) (m1 c1 m2 c2 m3 c3 m4 c4 : Nat) (z1 z2 : Int) (hne : (z1 != z2) = true) (hz : z1 < z2) (w : World) (G1 : ∀ x, Below w.heap.size w x → Calls Tryz.prog 33 #[.agg #[.bool g1, .slice p1 m1 c1, .slice p2 m2 c2]] x fun e w' => e = .returned (.int .i64 z1) ∧ Below x.heap.size x w') (G2 : ∀ x, Below w.heap.size w x → Calls Tryz.prog 33 #[.agg #[.bool g2, .slice p3 m3 c3, .slice p4 m4 c4]] x fun e w' => e = .returned (.int .i64 z2) ∧ Below x.heap.size x w') : Calls Tryz.prog 45 #[.agg #[.bool g1, .slice p1 m1 c1, .slice p2 m2 c2], .agg #[.bool g2, .slice p3 m3 c3, .slice p4 m4 c4]] w fun e w' => e = .returned (.int .i64 (-1)) ∧ Below w.heap.size w w' := by
  have KA := (Blk.new w #[.bool g1, .slice p1 m1 c1, .slice p2 m2 c2] 66).alloc (.cells #[.bool g2, .slice p3 m3 c3, .slice p4 m4 c4] 66)
  have KB := Blk.new (w.alloc (.cells #[.bool g1, .slice p1 m1 c1, .slice p2 m2 c2] 66)) #[.bool g2, .slice p3 m3 c3, .slice p4 m4 c4] 66
  have pr : Below w.heap.size w ((w.alloc (.cells #[.bool g1, .slice p1 m1 c1, .slice p2 m2 c2] 66)).alloc (.cells #[.bool g2, .slice p3 m3 c3, .slice p4 m4 c4] 66)) := ((Below.refl _ _).alloc (Nat.le_refl _) _).alloc (by simp) _
  simp only [World.size_alloc] at KB
  go_enter Tryz.func45, Tryz.ntmps45
  go_wp2_with fail
  generalize ((w.alloc (.cells #[.bool g1, .slice p1 m1 c1, .slice p2 m2 c2] 66)).alloc (.cells #[.bool g2, .slice p3 m3 c3, .slice p4 m4 c4] 66)) = W at *
  have e0 := KA.at 0
  have e1 := KA.at 1
  have e2 := KA.at 2
  have e3 := KB.at 0
  have e4 := KB.at 1
  have e5 := KB.at 2
  simp at e0 e1 e2 e3 e4 e5
  have d0 : Below W.heap.size W W := Below.refl _ _
  go_region_held3 (fun x => x.cell? ⟨w.heap.size, 0, none⟩ = some (.bool g1) ∧ x.cell? ⟨w.heap.size, 1, none⟩ = some (.slice p1 m1 c1) ∧ x.cell? ⟨w.heap.size, 2, none⟩ = some (.slice p2 m2 c2) ∧ x.cell? ⟨w.heap.size + 1, 0, none⟩ = some (.bool g2) ∧ x.cell? ⟨w.heap.size + 1, 1, none⟩ = some (.slice p3 m3 c3) ∧ x.cell? ⟨w.heap.size + 1, 2, none⟩ = some (.slice p4 m4 c4)) (first | exact ⟨x20, x21, x22, x23, x24, x25⟩ | exact ⟨x10, x11, x12, x13, x14, x15⟩ | go_keep) (first
    | (go_at_call 33; (have mk := d1); (refine (G2 _ (bel' pr d1)).mono ?_); (rintro e w2 ⟨rfl, b2⟩); (have d2 := bel' d1 b2); (have x20 := kc7 d2 e0); (have x21 := kc7 d2 e1); (have x22 := kc7 d2 e2); (have x23 := kc7 d2 e3); (have x24 := kc7 d2 e4); (have x25 := kc7 d2 e5))
    | (go_at_call 33; (refine (G1 _ (bel' pr d0.drew)).mono ?_); (rintro e w1 ⟨rfl, b1⟩); (have d1 := bel' d0 (undrew b1)); (have x10 := kc7 d1 e0); (have x11 := kc7 d1 e1); (have x12 := kc7 d1 e2); (have x13 := kc7 d1 e3); (have x14 := kc7 d1 e4); (have x15 := kc7 d1 e5))
    | fail)
  go_wp2_with fail
  go_region_held3 (fun x => x.cell? ⟨w.heap.size, 0, none⟩ = some (.bool g1) ∧ x.cell? ⟨w.heap.size, 1, none⟩ = some (.slice p1 m1 c1) ∧ x.cell? ⟨w.heap.size, 2, none⟩ = some (.slice p2 m2 c2) ∧ x.cell? ⟨w.heap.size + 1, 0, none⟩ = some (.bool g2) ∧ x.cell? ⟨w.heap.size + 1, 1, none⟩ = some (.slice p3 m3 c3) ∧ x.cell? ⟨w.heap.size + 1, 2, none⟩ = some (.slice p4 m4 c4)) (first | exact ⟨x40, x41, x42, x43, x44, x45⟩ | exact ⟨x30, x31, x32, x33, x34, x35⟩ | go_keep) (first
    | (go_at_call 33; (have mk := d3); (refine (G2 _ (bel' pr d3)).mono ?_); (rintro e w4 ⟨rfl, b4⟩); (have d4 := bel' d3 b4); (have x40 := kc7 d4 e0); (have x41 := kc7 d4 e1); (have x42 := kc7 d4 e2); (have x43 := kc7 d4 e3); (have x44 := kc7 d4 e4); (have x45 := kc7 d4 e5))
    | (go_at_call 33; (refine (G1 _ (bel' pr d2.drew)).mono ?_); (rintro e w3 ⟨rfl, b3⟩); (have d3 := bel' d2 (undrew b3)); (have x30 := kc7 d3 e0); (have x31 := kc7 d3 e1); (have x32 := kc7 d3 e2); (have x33 := kc7 d3 e3); (have x34 := kc7 d3 e4); (have x35 := kc7 d3 e5))
    | fail)
  go_wp2_with fail
  go_ret
  exact ⟨rfl, bel' pr d4⟩
set_option maxRecDepth 100000 in
set_option maxHeartbeats 3200000 in
theorem qcmp_hi (g1 g2 : Bool) (p1 p2 p3 p4 : Option Addr) (m1 c1 m2 c2 m3 c3 m4 c4 : Nat) (z1 z2 : Int) (hne : (z1 != z2) = true) (hz : ¬ z1 < z2) (w : World) (G1 : ∀ x, Below w.heap.size w x → Calls Tryz.prog 33 #[.agg #[.bool g1, .slice p1 m1 c1, .slice p2 m2 c2]] x fun e w' => e = .returned (.int .i64 z1) ∧ Below x.heap.size x w') (G2 : ∀ x, Below w.heap.size w x → Calls Tryz.prog 33 #[.agg #[.bool g2, .slice p3 m3 c3, .slice p4 m4 c4]] x fun e w' => e = .returned (.int .i64 z2) ∧ Below x.heap.size x w') : Calls Tryz.prog 45 #[.agg #[.bool g1, .slice p1 m1 c1, .slice p2 m2 c2], .agg #[.bool g2, .slice p3 m3 c3, .slice p4 m4 c4]] w fun e w' => e = .returned (.int .i64 (1)) ∧ Below w.heap.size w w' := by
  have KA := (Blk.new w #[.bool g1, .slice p1 m1 c1, .slice p2 m2 c2] 66).alloc (.cells #[.bool g2, .slice p3 m3 c3, .slice p4 m4 c4] 66)
  have KB := Blk.new (w.alloc (.cells #[.bool g1, .slice p1 m1 c1, .slice p2 m2 c2] 66)) #[.bool g2, .slice p3 m3 c3, .slice p4 m4 c4] 66
  have pr : Below w.heap.size w ((w.alloc (.cells #[.bool g1, .slice p1 m1 c1, .slice p2 m2 c2] 66)).alloc (.cells #[.bool g2, .slice p3 m3 c3, .slice p4 m4 c4] 66)) := ((Below.refl _ _).alloc (Nat.le_refl _) _).alloc (by simp) _
  simp only [World.size_alloc] at KB
  go_enter Tryz.func45, Tryz.ntmps45
  go_wp2_with fail
  generalize ((w.alloc (.cells #[.bool g1, .slice p1 m1 c1, .slice p2 m2 c2] 66)).alloc (.cells #[.bool g2, .slice p3 m3 c3, .slice p4 m4 c4] 66)) = W at *
  have e0 := KA.at 0
  have e1 := KA.at 1
  have e2 := KA.at 2
  have e3 := KB.at 0
  have e4 := KB.at 1
  have e5 := KB.at 2
  simp at e0 e1 e2 e3 e4 e5
  have d0 : Below W.heap.size W W := Below.refl _ _
  go_region_held3 (fun x => x.cell? ⟨w.heap.size, 0, none⟩ = some (.bool g1) ∧ x.cell? ⟨w.heap.size, 1, none⟩ = some (.slice p1 m1 c1) ∧ x.cell? ⟨w.heap.size, 2, none⟩ = some (.slice p2 m2 c2) ∧ x.cell? ⟨w.heap.size + 1, 0, none⟩ = some (.bool g2) ∧ x.cell? ⟨w.heap.size + 1, 1, none⟩ = some (.slice p3 m3 c3) ∧ x.cell? ⟨w.heap.size + 1, 2, none⟩ = some (.slice p4 m4 c4)) (first | exact ⟨x20, x21, x22, x23, x24, x25⟩ | exact ⟨x10, x11, x12, x13, x14, x15⟩ | go_keep) (first
    | (go_at_call 33; (have mk := d1); (refine (G2 _ (bel' pr d1)).mono ?_); (rintro e w2 ⟨rfl, b2⟩); (have d2 := bel' d1 b2); (have x20 := kc7 d2 e0); (have x21 := kc7 d2 e1); (have x22 := kc7 d2 e2); (have x23 := kc7 d2 e3); (have x24 := kc7 d2 e4); (have x25 := kc7 d2 e5))
    | (go_at_call 33; (refine (G1 _ (bel' pr d0.drew)).mono ?_); (rintro e w1 ⟨rfl, b1⟩); (have d1 := bel' d0 (undrew b1)); (have x10 := kc7 d1 e0); (have x11 := kc7 d1 e1); (have x12 := kc7 d1 e2); (have x13 := kc7 d1 e3); (have x14 := kc7 d1 e4); (have x15 := kc7 d1 e5))
    | fail)
  go_wp2_with fail
  go_region_held3 (fun x => x.cell? ⟨w.heap.size, 0, none⟩ = some (.bool g1) ∧ x.cell? ⟨w.heap.size, 1, none⟩ = some (.slice p1 m1 c1) ∧ x.cell? ⟨w.heap.size, 2, none⟩ = some (.slice p2 m2 c2) ∧ x.cell? ⟨w.heap.size + 1, 0, none⟩ = some (.bool g2) ∧ x.cell? ⟨w.heap.size + 1, 1, none⟩ = some (.slice p3 m3 c3) ∧ x.cell? ⟨w.heap.size + 1, 2, none⟩ = some (.slice p4 m4 c4)) (first | exact ⟨x40, x41, x42, x43, x44, x45⟩ | exact ⟨x30, x31, x32, x33, x34, x35⟩ | go_keep) (first
    | (go_at_call 33; (have mk := d3); (refine (G2 _ (bel' pr d3)).mono ?_); (rintro e w4 ⟨rfl, b4⟩); (have d4 := bel' d3 b4); (have x40 := kc7 d4 e0); (have x41 := kc7 d4 e1); (have x42 := kc7 d4 e2); (have x43 := kc7 d4 e3); (have x44 := kc7 d4 e4); (have x45 := kc7 d4 e5))
    | (go_at_call 33; (refine (G1 _ (bel' pr d2.drew)).mono ?_); (rintro e w3 ⟨rfl, b3⟩); (have d3 := bel' d2 (undrew b3)); (have x30 := kc7 d3 e0); (have x31 := kc7 d3 e1); (have x32 := kc7 d3 e2); (have x33 := kc7 d3 e3); (have x34 := kc7 d3 e4); (have x35 := kc7 d3 e5))
    | fail)
  go_wp2_with fail
  go_ret
  exact ⟨rfl, bel' pr d4⟩
set_option maxRecDepth 100000 in
set_option maxHeartbeats 3200000 in
theorem qcmp_pos (g2 : Bool) (p1 p2 p3 p4 : Option Addr) (m1 c1 m2 c2 m3 c3 m4 c4 : Nat) (z1 z2 U V k : Int) (hne : (z1 != z2) = false) (w : World) (G1 : ∀ x, Below w.heap.size w x → Calls Tryz.prog 33 #[.agg #[.bool false, .slice p1 m1 c1, .slice p2 m2 c2]] x fun e w' => e = .returned (.int .i64 z1) ∧ Below x.heap.size x w') (G2 : ∀ x, Below w.heap.size w x → Calls Tryz.prog 33 #[.agg #[.bool g2, .slice p3 m3 c3, .slice p4 m4 c4]] x fun e w' => e = .returned (.int .i64 z2) ∧ Below x.heap.size x w') (M1 : ∀ x, Below w.heap.size w x → Calls Tryz.prog 71 #[.slice p1 m1 c1, .slice p4 m4 c4] x fun e w' => ∃ a l c, e = .returned (.slice a l c) ∧ Nl w' a l c U ∧ Below x.heap.size x w') (M2 : ∀ x, Below w.heap.size w x → Calls Tryz.prog 71 #[.slice p3 m3 c3, .slice p2 m2 c2] x fun e w' => ∃ a l c, e = .returned (.slice a l c) ∧ Nl w' a l c V ∧ Below x.heap.size x w') (CM : ∀ x a l c a' l' c', Nl x a l c U → Nl x a' l' c' V → Calls Tryz.prog 38 #[.slice a l c, .slice a' l' c'] x fun e w' => e = .returned (.int .i64 k) ∧ Below x.heap.size x w') : Calls Tryz.prog 45 #[.agg #[.bool false, .slice p1 m1 c1, .slice p2 m2 c2], .agg #[.bool g2, .slice p3 m3 c3, .slice p4 m4 c4]] w fun e w' => e = .returned (.int .i64 k) ∧ Below w.heap.size w w' := by
  have KA := (Blk.new w #[.bool false, .slice p1 m1 c1, .slice p2 m2 c2] 66).alloc (.cells #[.bool g2, .slice p3 m3 c3, .slice p4 m4 c4] 66)
  have KB := Blk.new (w.alloc (.cells #[.bool false, .slice p1 m1 c1, .slice p2 m2 c2] 66)) #[.bool g2, .slice p3 m3 c3, .slice p4 m4 c4] 66
  have pr : Below w.heap.size w ((w.alloc (.cells #[.bool false, .slice p1 m1 c1, .slice p2 m2 c2] 66)).alloc (.cells #[.bool g2, .slice p3 m3 c3, .slice p4 m4 c4] 66)) := ((Below.refl _ _).alloc (Nat.le_refl _) _).alloc (by simp) _
  simp only [World.size_alloc] at KB
  go_enter Tryz.func45, Tryz.ntmps45
  go_wp2_with fail
  generalize ((w.alloc (.cells #[.bool false, .slice p1 m1 c1, .slice p2 m2 c2] 66)).alloc (.cells #[.bool g2, .slice p3 m3 c3, .slice p4 m4 c4] 66)) = W at *
  have e0 := KA.at 0
  have e1 := KA.at 1
  have e2 := KA.at 2
  have e3 := KB.at 0
  have e4 := KB.at 1
  have e5 := KB.at 2
  simp at e0 e1 e2 e3 e4 e5
  have d0 : Below W.heap.size W W := Below.refl _ _
  go_region_held3 (fun x => x.cell? ⟨w.heap.size, 0, none⟩ = some (.bool false) ∧ x.cell? ⟨w.heap.size, 1, none⟩ = some (.slice p1 m1 c1) ∧ x.cell? ⟨w.heap.size, 2, none⟩ = some (.slice p2 m2 c2) ∧ x.cell? ⟨w.heap.size + 1, 0, none⟩ = some (.bool g2) ∧ x.cell? ⟨w.heap.size + 1, 1, none⟩ = some (.slice p3 m3 c3) ∧ x.cell? ⟨w.heap.size + 1, 2, none⟩ = some (.slice p4 m4 c4)) (first | exact ⟨x20, x21, x22, x23, x24, x25⟩ | exact ⟨x10, x11, x12, x13, x14, x15⟩ | go_keep) (first
    | (go_at_call 33; (have mk := d1); (refine (G2 _ (bel' pr d1)).mono ?_); (rintro e w2 ⟨rfl, b2⟩); (have d2 := bel' d1 b2); (have x20 := kc7 d2 e0); (have x21 := kc7 d2 e1); (have x22 := kc7 d2 e2); (have x23 := kc7 d2 e3); (have x24 := kc7 d2 e4); (have x25 := kc7 d2 e5))
    | (go_at_call 33; (refine (G1 _ (bel' pr d0.drew)).mono ?_); (rintro e w1 ⟨rfl, b1⟩); (have d1 := bel' d0 (undrew b1)); (have x10 := kc7 d1 e0); (have x11 := kc7 d1 e1); (have x12 := kc7 d1 e2); (have x13 := kc7 d1 e3); (have x14 := kc7 d1 e4); (have x15 := kc7 d1 e5))
    | fail)
  go_wp2_with fail
  go_region_held3 (fun x => x.cell? ⟨w.heap.size, 0, none⟩ = some (.bool false) ∧ x.cell? ⟨w.heap.size, 1, none⟩ = some (.slice p1 m1 c1) ∧ x.cell? ⟨w.heap.size, 2, none⟩ = some (.slice p2 m2 c2) ∧ x.cell? ⟨w.heap.size + 1, 0, none⟩ = some (.bool g2) ∧ x.cell? ⟨w.heap.size + 1, 1, none⟩ = some (.slice p3 m3 c3) ∧ x.cell? ⟨w.heap.size + 1, 2, none⟩ = some (.slice p4 m4 c4)) (first | exact ⟨x70, x71, x72, x73, x74, x75⟩ | exact ⟨x60, x61, x62, x63, x64, x65⟩ | exact ⟨x50, x51, x52, x53, x54, x55⟩ | go_keep) (first
    | (go_at_call 38; (have mk := d6); (refine (CM _ _ _ _ _ _ _ (n1.grow b6) n2).mono ?_); (rintro e w7 ⟨rfl, b7⟩); (have d7 := bel' d6 b7); (have x70 := kc7 d7 e0); (have x71 := kc7 d7 e1); (have x72 := kc7 d7 e2); (have x73 := kc7 d7 e3); (have x74 := kc7 d7 e4); (have x75 := kc7 d7 e5))
    | (go_at_call 71; (have mk := d5); (refine (M2 _ (bel' pr d5)).mono ?_); (rintro e w6 ⟨a2, l2, k2, rfl, n2, b6⟩); (have d6 := bel' d5 b6); (have x60 := kc7 d6 e0); (have x61 := kc7 d6 e1); (have x62 := kc7 d6 e2); (have x63 := kc7 d6 e3); (have x64 := kc7 d6 e4); (have x65 := kc7 d6 e5))
    | (go_at_call 71; (refine (M1 _ (bel' pr d2.drew)).mono ?_); (rintro e w5 ⟨a1, l1, k1, rfl, n1, b5⟩); (have d5 := bel' d2 (undrew b5)); (have x50 := kc7 d5 e0); (have x51 := kc7 d5 e1); (have x52 := kc7 d5 e2); (have x53 := kc7 d5 e3); (have x54 := kc7 d5 e4); (have x55 := kc7 d5 e5))
    | fail)
  go_wp2_with fail
  go_ret
  exact ⟨rfl, bel' pr d7⟩
set_option maxRecDepth 100000 in
set_option maxHeartbeats 3200000 in
theorem qcmp_neg (g2 : Bool) (p1 p2 p3 p4 : Option Addr) (m1 c1 m2 c2 m3 c3 m4 c4 : Nat) (z1 z2 U V k : Int) (hne : (z1 != z2) = false) (z9 : Int) (hz9 : IntKind.i64.wrap (-k) = z9) (w : World) (G1 : ∀ x, Below w.heap.size w x → Calls Tryz.prog 33 #[.agg #[.bool true, .slice p1 m1 c1, .slice p2 m2 c2]] x fun e w' => e = .returned (.int .i64 z1) ∧ Below x.heap.size x w') (G2 : ∀ x, Below w.heap.size w x → Calls Tryz.prog 33 #[.agg #[.bool g2, .slice p3 m3 c3, .slice p4 m4 c4]] x fun e w' => e = .returned (.int .i64 z2) ∧ Below x.heap.size x w') (M1 : ∀ x, Below w.heap.size w x → Calls Tryz.prog 71 #[.slice p1 m1 c1, .slice p4 m4 c4] x fun e w' => ∃ a l c, e = .returned (.slice a l c) ∧ Nl w' a l c U ∧ Below x.heap.size x w') (M2 : ∀ x, Below w.heap.size w x → Calls Tryz.prog 71 #[.slice p3 m3 c3, .slice p2 m2 c2] x fun e w' => ∃ a l c, e = .returned (.slice a l c) ∧ Nl w' a l c V ∧ Below x.heap.size x w') (CM : ∀ x a l c a' l' c', Nl x a l c U → Nl x a' l' c' V → Calls Tryz.prog 38 #[.slice a l c, .slice a' l' c'] x fun e w' => e = .returned (.int .i64 k) ∧ Below x.heap.size x w') : Calls Tryz.prog 45 #[.agg #[.bool true, .slice p1 m1 c1, .slice p2 m2 c2], .agg #[.bool g2, .slice p3 m3 c3, .slice p4 m4 c4]] w fun e w' => e = .returned (.int .i64 z9) ∧ Below w.heap.size w w' := by
  have KA := (Blk.new w #[.bool true, .slice p1 m1 c1, .slice p2 m2 c2] 66).alloc (.cells #[.bool g2, .slice p3 m3 c3, .slice p4 m4 c4] 66)
  have KB := Blk.new (w.alloc (.cells #[.bool true, .slice p1 m1 c1, .slice p2 m2 c2] 66)) #[.bool g2, .slice p3 m3 c3, .slice p4 m4 c4] 66
  have pr : Below w.heap.size w ((w.alloc (.cells #[.bool true, .slice p1 m1 c1, .slice p2 m2 c2] 66)).alloc (.cells #[.bool g2, .slice p3 m3 c3, .slice p4 m4 c4] 66)) := ((Below.refl _ _).alloc (Nat.le_refl _) _).alloc (by simp) _
  simp only [World.size_alloc] at KB
  go_enter Tryz.func45, Tryz.ntmps45
  go_wp2_with fail
  generalize ((w.alloc (.cells #[.bool true, .slice p1 m1 c1, .slice p2 m2 c2] 66)).alloc (.cells #[.bool g2, .slice p3 m3 c3, .slice p4 m4 c4] 66)) = W at *
  have e0 := KA.at 0
  have e1 := KA.at 1
  have e2 := KA.at 2
  have e3 := KB.at 0
  have e4 := KB.at 1
  have e5 := KB.at 2
  simp at e0 e1 e2 e3 e4 e5
  have d0 : Below W.heap.size W W := Below.refl _ _
  go_region_held3 (fun x => x.cell? ⟨w.heap.size, 0, none⟩ = some (.bool true) ∧ x.cell? ⟨w.heap.size, 1, none⟩ = some (.slice p1 m1 c1) ∧ x.cell? ⟨w.heap.size, 2, none⟩ = some (.slice p2 m2 c2) ∧ x.cell? ⟨w.heap.size + 1, 0, none⟩ = some (.bool g2) ∧ x.cell? ⟨w.heap.size + 1, 1, none⟩ = some (.slice p3 m3 c3) ∧ x.cell? ⟨w.heap.size + 1, 2, none⟩ = some (.slice p4 m4 c4)) (first | exact ⟨x20, x21, x22, x23, x24, x25⟩ | exact ⟨x10, x11, x12, x13, x14, x15⟩ | go_keep) (first
    | (go_at_call 33; (have mk := d1); (refine (G2 _ (bel' pr d1)).mono ?_); (rintro e w2 ⟨rfl, b2⟩); (have d2 := bel' d1 b2); (have x20 := kc7 d2 e0); (have x21 := kc7 d2 e1); (have x22 := kc7 d2 e2); (have x23 := kc7 d2 e3); (have x24 := kc7 d2 e4); (have x25 := kc7 d2 e5))
    | (go_at_call 33; (refine (G1 _ (bel' pr d0.drew)).mono ?_); (rintro e w1 ⟨rfl, b1⟩); (have d1 := bel' d0 (undrew b1)); (have x10 := kc7 d1 e0); (have x11 := kc7 d1 e1); (have x12 := kc7 d1 e2); (have x13 := kc7 d1 e3); (have x14 := kc7 d1 e4); (have x15 := kc7 d1 e5))
    | fail)
  go_wp2_with fail
  go_region_held3 (fun x => x.cell? ⟨w.heap.size, 0, none⟩ = some (.bool true) ∧ x.cell? ⟨w.heap.size, 1, none⟩ = some (.slice p1 m1 c1) ∧ x.cell? ⟨w.heap.size, 2, none⟩ = some (.slice p2 m2 c2) ∧ x.cell? ⟨w.heap.size + 1, 0, none⟩ = some (.bool g2) ∧ x.cell? ⟨w.heap.size + 1, 1, none⟩ = some (.slice p3 m3 c3) ∧ x.cell? ⟨w.heap.size + 1, 2, none⟩ = some (.slice p4 m4 c4)) (first | exact ⟨x70, x71, x72, x73, x74, x75⟩ | exact ⟨x60, x61, x62, x63, x64, x65⟩ | exact ⟨x50, x51, x52, x53, x54, x55⟩ | go_keep) (first
    | (go_at_call 38; (have mk := d6); (refine (CM _ _ _ _ _ _ _ (n1.grow b6) n2).mono ?_); (rintro e w7 ⟨rfl, b7⟩); (have d7 := bel' d6 b7); (have x70 := kc7 d7 e0); (have x71 := kc7 d7 e1); (have x72 := kc7 d7 e2); (have x73 := kc7 d7 e3); (have x74 := kc7 d7 e4); (have x75 := kc7 d7 e5))
    | (go_at_call 71; (have mk := d5); (refine (M2 _ (bel' pr d5)).mono ?_); (rintro e w6 ⟨a2, l2, k2, rfl, n2, b6⟩); (have d6 := bel' d5 b6); (have x60 := kc7 d6 e0); (have x61 := kc7 d6 e1); (have x62 := kc7 d6 e2); (have x63 := kc7 d6 e3); (have x64 := kc7 d6 e4); (have x65 := kc7 d6 e5))
    | (go_at_call 71; (refine (M1 _ (bel' pr d2.drew)).mono ?_); (rintro e w5 ⟨a1, l1, k1, rfl, n1, b5⟩); (have d5 := bel' d2 (undrew b5)); (have x50 := kc7 d5 e0); (have x51 := kc7 d5 e1); (have x52 := kc7 d5 e2); (have x53 := kc7 d5 e3); (have x54 := kc7 d5 e4); (have x55 := kc7 d5 e5))
    | fail)
  go_wp2_with fail
  go_ret
  exact ⟨rfl, bel' pr d7⟩
theorem neg_mul_of7 {a b : Int} (ha : a < 0) (hb : 0 < b) : a * b < 0 := by
  have := Int.mul_lt_mul_of_pos_right ha hb; omega
theorem sgn_lt7 {r s : Rat} (h : L.sgn r < L.sgn s) : r < s := by
  rw [Rat.lt_iff]
  have dr := L.den_pos' r
  have ds := L.den_pos' s
  unfold L.sgn at h
  have k : (r.num < 0 ∧ 0 ≤ s.num) ∨ (r.num = 0 ∧ 0 < s.num) := by
    by_cases r0 : r.num = 0 <;> by_cases s0 : s.num = 0 <;> by_cases r1 : r.num < 0 <;> by_cases s1 : s.num < 0 <;> simp only [r0, s0, r1, s1, if_true, if_false] at h <;> omega
  rcases k with ⟨a, b⟩ | ⟨a, b⟩
  · have x := neg_mul_of7 a ds
    have y := Int.mul_nonneg b (Int.le_of_lt dr)
    omega
  · rw [a, Int.zero_mul]; exact Int.mul_pos b dr
theorem cmpR_eq7 (r s : Rat) : (if r < s then -1 else if s < r then 1 else 0 : Int) = L.cmp3 (r.num * s.den) (s.num * r.den) := by
  unfold L.cmp3
  simp only [Rat.lt_iff]
theorem cmp3_neg (x y : Int) : -L.cmp3 (-x) (-y) = L.cmp3 x y := by
  unfold L.cmp3
  by_cases k : x < y
  · rw [if_neg (show ¬ -x < -y by omega), if_pos (show -y < -x by omega), if_pos k]
  · by_cases k2 : y < x
    · rw [if_pos (show -x < -y by omega), if_neg k, if_pos k2]; rfl
    · rw [if_neg (show ¬ -x < -y by omega), if_neg (show ¬ -y < -x by omega), if_neg k, if_neg k2]; rfl
theorem wrap_cmp3 (x y : Int) : IntKind.i64.wrap (-L.cmp3 x y) = -L.cmp3 x y := by
  have : L.cmp3 x y = -1 ∨ L.cmp3 x y = 0 ∨ L.cmp3 x y = 1 := by unfold L.cmp3; split <;> (first | omega | (split <;> omega))
  rcases this with h | h | h <;> rw [h] <;> rfl
theorem QCmp_s (a b : Value) (r s : Rat) (K : Nat) (w : World) (ha : L.IsQ w a r) (hb : L.IsQ w b s) (hr : L.QS r K) (hs : L.QS s K) (hK : K ≤ 1000000000) : Calls Tryz.prog 45 #[a, b] w fun e w' => e = .returned (.int .i64 (if r < s then -1 else if s < r then 1 else 0)) ∧ Below w.heap.size w w' := by
  have G1 := fun x (h : Below w.heap.size w x) => L.Sign_q a r x (ha.grow h)
  have G2 := fun x (h : Below w.heap.size w x) => L.Sign_q b s x (hb.grow h)
  obtain ⟨p1, m1, c1, p2, m2, c2, rfl, n1, n2, _⟩ := nl_isq ha
  obtain ⟨p3, m3, c3, p4, m4, c4, rfl, n3, n4, _⟩ := nl_isq hb
  by_cases e : L.sgn r = L.sgn s
  · have ne : (L.sgn r != L.sgn s) = false := by rw [e]; simp
    rw [cmpR_eq7]
    by_cases g : r.num < 0
    · rw [decide_eq_true g] at G1 ⊢
      have q1 : r.num * s.den = -((r.num.natAbs : Int) * s.den) := by rw [← Int.neg_mul]; congr 1; omega
      have g2 : s.num < 0 := by
        unfold L.sgn at e
        by_cases s0 : s.num = 0 <;> by_cases s1 : s.num < 0 <;> simp only [s0, s1, g, show ¬ r.num = 0 by omega, if_true, if_false] at e <;> omega
      have q2 : s.num * r.den = -((s.num.natAbs : Int) * r.den) := by rw [← Int.neg_mul]; congr 1; omega
      rw [q1, q2, ← cmp3_neg, Int.neg_neg, Int.neg_neg, decide_eq_true g2] at *
      exact qcmp_neg _ p1 p2 p3 p4 m1 c1 m2 c2 m3 c3 m4 c4 _ _ _ _ _ ne _ (wrap_cmp3 _ _) w G1 G2 (fun x b => mul_nl (n1.grow b) (n4.grow b) hr.1 hs.2 hK) (fun x b => mul_nl (n3.grow b) (n2.grow b) hs.1 hr.2 hK) (fun x a l c a' l' c' h h' => cmp_nl h h' (lt_pp (by omega) hr.1 (by omega) hs.2) (by omega))
    · rw [decide_eq_false g] at G1 ⊢
      have g2 : ¬ s.num < 0 := by
        intro k
        unfold L.sgn at e
        by_cases r0 : r.num = 0 <;> simp only [r0, k, g, show ¬ s.num = 0 by omega, if_true, if_false] at e <;> omega
      have q1 : r.num * s.den = (r.num.natAbs : Int) * s.den := by congr 1; omega
      have q2 : s.num * r.den = (s.num.natAbs : Int) * r.den := by congr 1; omega
      rw [q1, q2]
      exact qcmp_pos _ p1 p2 p3 p4 m1 c1 m2 c2 m3 c3 m4 c4 _ _ _ _ _ ne w G1 G2 (fun x b => mul_nl (n1.grow b) (n4.grow b) hr.1 hs.2 hK) (fun x b => mul_nl (n3.grow b) (n2.grow b) hs.1 hr.2 hK) (fun x a l c a' l' c' h h' => cmp_nl h h' (lt_pp (by omega) hr.1 (by omega) hs.2) (by omega))
  · have ne : (L.sgn r != L.sgn s) = true := by rw [bne_iff_ne]; exact e
    by_cases l : L.sgn r < L.sgn s
    · rw [if_pos (sgn_lt7 l)]
      exact qcmp_lo _ _ p1 p2 p3 p4 m1 c1 m2 c2 m3 c3 m4 c4 _ _ ne l w G1 G2
    · have h := sgn_lt7 (show L.sgn s < L.sgn r by omega)
      rw [if_neg (Rat.not_lt.2 (Rat.le_of_lt h)), if_pos h]
      exact qcmp_hi _ _ p1 p2 p3 p4 m1 c1 m2 c2 m3 c3 m4 c4 _ _ ne l w G1 G2
end Go.Proofs.YtfalncbcomlelaaGreatDoor.Mo

namespace Go.Proofs.YtfalncbcomlelaaGreatDoor.Mo
open Go.RowKit Fu Tn Go.Lib Dc

theorem tn_tl' : ∀ m : Nat, Tn.pw m ≤ Tl.pw (3 * m)
  | 0 => by decide
  | m + 1 => by
    have ih := tn_tl' m
    have p := Tn.pw_pos m
    rw [show 3 * (m + 1) = 3 * m + 1 + 1 + 1 by omega]
    simp only [Tn.pw, Tl.pw]
    omega
theorem qs_of {r : Rat} {m : Nat} (h : PS r m) : L.QS r (3 * m) := by
  have := tn_tl' m
  have h1 := h.1
  have h2 := h.2
  exact ⟨by omega, by omega⟩
theorem qs_k {r : Rat} {m K : Nat} (h : PS r m) (hK : 3 * m = K) : L.QS r K := hK ▸ qs_of h
theorem short_words' {N : Nat} (h : (decDigits N).length ≤ 4096) : (N : Int) < Tn.pw 256 := by
  have := num_pw (s := sB (decDigits N)) (dec_nat N) (by rw [sB_size]; exact h)
  rwa [sB_list, dec_num] at this
/-- What is right is a number as it is written. -/
theorem good_ok {n d : ByteArray} (h : goodE n d = 0) (hn : n.size ≤ 9223372036854775807) : ∃ r : Rat, (.agg #[.string n, .string d] : Value) = wrt r ∧ Rdy r ∧ PS r 256 ∧ ∀ x, Calls Tryz.prog 27 #[.agg #[.string n, .string d]] x (Qf r x) := by
  obtain ⟨r, e, _, _, l1, l2⟩ := good_wrt h
  refine ⟨r, e, ⟨l1, l2⟩, ⟨short_words' l1, short_words' l2⟩, fun x => ?_⟩
  unfold wrt at e
  simp only [Value.agg.injEq, Array.mk.injEq, List.cons.injEq, Value.string.injEq, and_true] at e
  obtain ⟨e1, e2⟩ := e
  refine qf_of ((In_q (r := r) x hn ?_ ?_ ?_ ?_ ?_ ?_ ?_).mono ?_)
  · rw [e1, sg_neg]
  · rw [e1, sg_rest, sB_list, dec_num]
  · rw [e2, sB_list, dec_num]
  · rw [e1, sg_rest, sB_size]; exact l1
  · rw [e2, sB_size]; exact l2
  · rw [e1, sg_rest]; exact dec_nat _
  · rw [e2]; exact dec_nat _
  · rintro e w' ⟨v, rfl, hq, _, b⟩
    exact ⟨v, rfl, hq, b⟩
theorem bne_z {c : Int} (h : c ≠ 0) : (c != 0) = true := by simpa using h
/-- One of both is not right. -/
theorem two_bad (n d m k : ByteArray) (hn : n.size ≤ 9223372036854775807) (hd : d.size ≤ 9223372036854775807) (hm : m.size ≤ 9223372036854775807) (hk : k.size ≤ 9223372036854775807) (h : goodE n d ≠ 0 ∨ goodE m k ≠ 0) : ∃ c : Int, c ≠ 0 ∧ (∀ x, Calls Tryz.prog 39 #[.agg #[.string n, .string d], .agg #[.string m, .string k]] x fun e w' => e = .returned (.tuple #[.agg #[.bool false, .slice none 0 0, .slice none 0 0], .agg #[.bool false, .slice none 0 0, .slice none 0 0], .int .i64 c]) ∧ Below x.heap.size x w') ∧ (∀ x, Calls Tryz.prog 26 #[.agg #[.string n, .string d], .agg #[.string m, .string k]] x fun e w' => e = .returned (.int .i64 c) ∧ Below x.heap.size x w') := by
  by_cases h1 : goodE n d = 0
  · have h2 : goodE m k ≠ 0 := by
      rcases h with h | h
      · exact absurd h1 h
      · exact h
    refine ⟨goodE m k, h2, fun x => ?_, fun x => ?_⟩
    · exact readTwo_e2 n d m k _ _ x (bne_z h2) (fun y _ => read_ok h1 hn hd y) (fun y _ => read_no h2 hm hk y)
    · exact two_k n d m k _ x (fun y _ => by have := Good_any n d y hn hd; rwa [h1] at this) (fun y _ => Good_any m k y hm hk)
  · refine ⟨goodE n d, h1, fun x => ?_, fun x => ?_⟩
    · exact readTwo_e1 n d m k _ x (bne_z h1) (fun y _ => read_no h1 hn hd y)
    · exact two_e n d m k _ x (bne_z h1) (fun y _ => Good_any n d y hn hd)
theorem two_good {n d m k : ByteArray} (hn : n.size ≤ 9223372036854775807) (hd : d.size ≤ 9223372036854775807) (hm : m.size ≤ 9223372036854775807) (hk : k.size ≤ 9223372036854775807) (h1 : goodE n d = 0) (h2 : goodE m k = 0) (x : World) : Calls Tryz.prog 26 #[.agg #[.string n, .string d], .agg #[.string m, .string k]] x fun e w' => e = .returned (.int .i64 0) ∧ Below x.heap.size x w' := by
  have := two_k n d m k (goodE m k) x (fun y _ => by have := Good_any n d y hn hd; rwa [h1] at this) (fun y _ => Good_any m k y hm hk)
  rwa [h2] at this
theorem ok256 : MulOK 256 256 := by unfold MulOK; omega
theorem both_Add (n d m k : ByteArray) (w : World) (hn : n.size ≤ 9223372036854775807) (hd : d.size ≤ 9223372036854775807) (hm : m.size ≤ 9223372036854775807) (hk : k.size ≤ 9223372036854775807) (G : Gw w) : ∃ (u v : ByteArray) (e : Int), (∀ x, Below w.heap.size w x → Calls Tryz.prog 11 #[.agg #[.string n, .string d], .agg #[.string m, .string k]] x fun e' w' => e' = .returned (.tuple #[.agg #[.string u, .string v], .int .i64 e]) ∧ Below x.heap.size x w') ∧ (∀ x, Below w.heap.size w x → Calls Tryz.prog 7 #[.int .i64 2, .agg #[.string n, .string d], .agg #[.string m, .string k]] x fun e' w' => e' = .returned (.tuple #[.agg #[.string u, .string v], .int .i64 e]) ∧ Below x.heap.size x w') := by
  by_cases h : goodE n d ≠ 0 ∨ goodE m k ≠ 0
  · obtain ⟨c, hc, H1, H2⟩ := two_bad n d m k hn hd hm hk h
    exact ⟨⟨#[]⟩, ⟨#[]⟩, c, fun x _ => Add_err n d m k c x (bne_z hc) (fun y _ => H1 y), fun x _ => Reckon_e n d m k 2 c x (by decide) (bne_z hc) (fun y _ => H2 y)⟩
  · have h1 : goodE n d = 0 := Classical.not_not.1 (fun z => h (Or.inl z))
    have h2 : goodE m k = 0 := Classical.not_not.1 (fun z => h (Or.inr z))
    obtain ⟨r, e1, r1, h3, I1⟩ := good_ok h1 hn
    obtain ⟨s, e2, r2, h4, I2⟩ := good_ok h2 hm
    have ps : PS (r + s) 513 := ((h3.add h4).mono (by omega))
    refine ⟨wn (r + s), wd (r + s), (wrA (r + s)).2, fun x b => ?_, fun x b => ?_⟩
    · rw [e1, e2]
      exact Add_r r1 r2 h3 h4 ok256 (by omega) x (G.grow b)
    · exact Reckon_Add n d m k r s (r + s) _ _ _ x (fun y _ => two_good hn hd hm hk h1 h2 y) (fun y _ => I1 y) (fun y _ => I2 y) (fun y v1 v2 h h' => qf_of (L.QAdd_any v1 v2 r s 768 y h h' (qs_k h3 (by decide)) (qs_k h4 (by decide)) (by decide))) (fun y v1 h => L.Out_any v1 (r + s) 1539 y h (qs_k ps (by decide)) (by decide))
theorem both_Sub (n d m k : ByteArray) (w : World) (hn : n.size ≤ 9223372036854775807) (hd : d.size ≤ 9223372036854775807) (hm : m.size ≤ 9223372036854775807) (hk : k.size ≤ 9223372036854775807) (G : Gw w) : ∃ (u v : ByteArray) (e : Int), (∀ x, Below w.heap.size w x → Calls Tryz.prog 12 #[.agg #[.string n, .string d], .agg #[.string m, .string k]] x fun e' w' => e' = .returned (.tuple #[.agg #[.string u, .string v], .int .i64 e]) ∧ Below x.heap.size x w') ∧ (∀ x, Below w.heap.size w x → Calls Tryz.prog 7 #[.int .i64 3, .agg #[.string n, .string d], .agg #[.string m, .string k]] x fun e' w' => e' = .returned (.tuple #[.agg #[.string u, .string v], .int .i64 e]) ∧ Below x.heap.size x w') := by
  by_cases h : goodE n d ≠ 0 ∨ goodE m k ≠ 0
  · obtain ⟨c, hc, H1, H2⟩ := two_bad n d m k hn hd hm hk h
    exact ⟨⟨#[]⟩, ⟨#[]⟩, c, fun x _ => Sub_err n d m k c x (bne_z hc) (fun y _ => H1 y), fun x _ => Reckon_e n d m k 3 c x (by decide) (bne_z hc) (fun y _ => H2 y)⟩
  · have h1 : goodE n d = 0 := Classical.not_not.1 (fun z => h (Or.inl z))
    have h2 : goodE m k = 0 := Classical.not_not.1 (fun z => h (Or.inr z))
    obtain ⟨r, e1, r1, h3, I1⟩ := good_ok h1 hn
    obtain ⟨s, e2, r2, h4, I2⟩ := good_ok h2 hm
    have ps : PS (r - s) 513 := (by rw [Rat.sub_eq_add_neg]; exact (h3.add h4.neg).mono (by omega))
    refine ⟨wn (r - s), wd (r - s), (wrA (r - s)).2, fun x b => ?_, fun x b => ?_⟩
    · rw [e1, e2]
      exact Sub_r r1 r2 h3 h4 ok256 (by omega) x (G.grow b)
    · exact Reckon_Sub n d m k r s (r - s) _ _ _ x (fun y _ => two_good hn hd hm hk h1 h2 y) (fun y _ => I1 y) (fun y _ => I2 y) (fun y v1 v2 h h' => QSub_q v1 v2 r s 768 y h h' (qs_k h3 (by decide)) (qs_k h4 (by decide)) (by decide)) (fun y v1 h => L.Out_any v1 (r - s) 1539 y h (qs_k ps (by decide)) (by decide))
theorem both_Mul (n d m k : ByteArray) (w : World) (hn : n.size ≤ 9223372036854775807) (hd : d.size ≤ 9223372036854775807) (hm : m.size ≤ 9223372036854775807) (hk : k.size ≤ 9223372036854775807) (G : Gw w) : ∃ (u v : ByteArray) (e : Int), (∀ x, Below w.heap.size w x → Calls Tryz.prog 13 #[.agg #[.string n, .string d], .agg #[.string m, .string k]] x fun e' w' => e' = .returned (.tuple #[.agg #[.string u, .string v], .int .i64 e]) ∧ Below x.heap.size x w') ∧ (∀ x, Below w.heap.size w x → Calls Tryz.prog 7 #[.int .i64 4, .agg #[.string n, .string d], .agg #[.string m, .string k]] x fun e' w' => e' = .returned (.tuple #[.agg #[.string u, .string v], .int .i64 e]) ∧ Below x.heap.size x w') := by
  by_cases h : goodE n d ≠ 0 ∨ goodE m k ≠ 0
  · obtain ⟨c, hc, H1, H2⟩ := two_bad n d m k hn hd hm hk h
    exact ⟨⟨#[]⟩, ⟨#[]⟩, c, fun x _ => Mul_err n d m k c x (bne_z hc) (fun y _ => H1 y), fun x _ => Reckon_e n d m k 4 c x (by decide) (bne_z hc) (fun y _ => H2 y)⟩
  · have h1 : goodE n d = 0 := Classical.not_not.1 (fun z => h (Or.inl z))
    have h2 : goodE m k = 0 := Classical.not_not.1 (fun z => h (Or.inr z))
    obtain ⟨r, e1, r1, h3, I1⟩ := good_ok h1 hn
    obtain ⟨s, e2, r2, h4, I2⟩ := good_ok h2 hm
    have ps : PS (r * s) 512 := ((h3.mul h4).mono (by omega))
    refine ⟨wn (r * s), wd (r * s), (wrA (r * s)).2, fun x b => ?_, fun x b => ?_⟩
    · rw [e1, e2]
      exact Mul_r r1 r2 h3 h4 ok256 (by omega) x (G.grow b)
    · exact Reckon_Mul n d m k r s (r * s) _ _ _ x (fun y _ => two_good hn hd hm hk h1 h2 y) (fun y _ => I1 y) (fun y _ => I2 y) (fun y v1 v2 h h' => QMul_s v1 v2 r s 768 y h h' (qs_k h3 (by decide)) (qs_k h4 (by decide)) (by decide)) (fun y v1 h => L.Out_any v1 (r * s) 1536 y h (qs_k ps (by decide)) (by decide))
theorem both_Div (n d m k : ByteArray) (w : World) (hn : n.size ≤ 9223372036854775807) (hd : d.size ≤ 9223372036854775807) (hm : m.size ≤ 9223372036854775807) (hk : k.size ≤ 9223372036854775807) (G : Gw w) : ∃ (u v : ByteArray) (e : Int), (∀ x, Below w.heap.size w x → Calls Tryz.prog 14 #[.agg #[.string n, .string d], .agg #[.string m, .string k]] x fun e' w' => e' = .returned (.tuple #[.agg #[.string u, .string v], .int .i64 e]) ∧ Below x.heap.size x w') ∧ (∀ x, Below w.heap.size w x → Calls Tryz.prog 7 #[.int .i64 5, .agg #[.string n, .string d], .agg #[.string m, .string k]] x fun e' w' => e' = .returned (.tuple #[.agg #[.string u, .string v], .int .i64 e]) ∧ Below x.heap.size x w') := by
  by_cases h : goodE n d ≠ 0 ∨ goodE m k ≠ 0
  · obtain ⟨c, hc, H1, H2⟩ := two_bad n d m k hn hd hm hk h
    exact ⟨⟨#[]⟩, ⟨#[]⟩, c, fun x _ => Div_err n d m k c x (bne_z hc) (fun y _ => H1 y), fun x _ => Reckon_e n d m k 5 c x (by decide) (bne_z hc) (fun y _ => H2 y)⟩
  · have h1 : goodE n d = 0 := Classical.not_not.1 (fun z => h (Or.inl z))
    have h2 : goodE m k = 0 := Classical.not_not.1 (fun z => h (Or.inr z))
    obtain ⟨r, e1, r1, h3, I1⟩ := good_ok h1 hn
    obtain ⟨s, e2, r2, h4, I2⟩ := good_ok h2 hm
    have TW := fun y => two_good hn hd hm hk h1 h2 y
    by_cases h0 : s = 0
    · refine ⟨⟨#[]⟩, ⟨#[]⟩, 4, fun x b => ?_, fun x b => ?_⟩
      · rw [e1, e2, h0]
        exact Div_r0 r1 x
      · exact Reckon_div0 n d m k r s x (fun y _ => TW y) (fun y _ => I1 y) (fun y _ => I2 y) (fun y v1 h => by have := L.Sign_q v1 s y h; rwa [show L.sgn s = 0 by rw [h0]; decide +kernel] at this)
    · have ps : PS (r / s) 512 := by rw [Rat.div_def]; exact (h3.mul (h4.inv h0)).mono (by omega)
      have sn : (L.sgn s == 0) = false := by
        have n0 : s.num ≠ 0 := fun z => h0 (Rat.num_eq_zero.1 z)
        unfold L.sgn
        rw [if_neg n0]
        split <;> decide
      refine ⟨wn (r / s), wd (r / s), (wrA (r / s)).2, fun x b => ?_, fun x b => ?_⟩
      · rw [e1, e2]
        exact Div_r r1 r2 h3 h4 ok256 (by omega) h0 x (G.grow b)
      · exact Reckon_Div n d m k r s (r / s) _ _ _ (L.sgn s) x sn (fun y _ => TW y) (fun y _ => I1 y) (fun y _ => I2 y) (fun y v1 h => L.Sign_q v1 s y h) (fun y v1 v2 h h' => QDiv_s v1 v2 r s 768 y h h' (qs_k h3 (by decide)) (qs_k h4 (by decide)) (by decide) h0) (fun y v1 h => L.Out_any v1 (r / s) 1536 y h (qs_k ps (by decide)) (by decide))
theorem both_Neg (n d m k : ByteArray) (w : World) (hn : n.size ≤ 9223372036854775807) (hd : d.size ≤ 9223372036854775807) (hm : m.size ≤ 9223372036854775807) (hk : k.size ≤ 9223372036854775807) (G : Gw w) : ∃ (u v : ByteArray) (e : Int), (∀ x, Below w.heap.size w x → Calls Tryz.prog 6 #[.agg #[.string n, .string d]] x fun e' w' => e' = .returned (.tuple #[.agg #[.string u, .string v], .int .i64 e]) ∧ Below x.heap.size x w') ∧ (∀ x, Below w.heap.size w x → Calls Tryz.prog 7 #[.int .i64 1, .agg #[.string n, .string d], .agg #[.string m, .string k]] x fun e' w' => e' = .returned (.tuple #[.agg #[.string u, .string v], .int .i64 e]) ∧ Below x.heap.size x w') := by
  have TW : ∃ c0 : Int, ∀ x, Calls Tryz.prog 26 #[.agg #[.string n, .string d], .agg #[.string m, .string k]] x fun e w' => e = .returned (.int .i64 c0) ∧ Below x.heap.size x w' := by
    by_cases h : goodE n d ≠ 0 ∨ goodE m k ≠ 0
    · obtain ⟨c, _, _, H2⟩ := two_bad n d m k hn hd hm hk h
      exact ⟨c, H2⟩
    · exact ⟨0, fun x => two_good hn hd hm hk (Classical.not_not.1 (fun z => h (Or.inl z))) (Classical.not_not.1 (fun z => h (Or.inr z))) x⟩
  obtain ⟨c0, TW⟩ := TW
  by_cases h1 : goodE n d = 0
  · obtain ⟨r, e1, r1, h3, I1⟩ := good_ok h1 hn
    refine ⟨wn (-r), wd (-r), (wrA (-r)).2, fun x b => ?_, fun x b => ?_⟩
    · rw [e1]
      exact Neg_r r1 h3 (by omega) x (G.grow b)
    · exact Reckon_neg n d m k c0 r (-r) _ _ _ x (fun y _ => TW y) (fun y _ => by have := Good_any n d y hn hd; rwa [h1] at this) (fun y _ => I1 y) (fun y v1 h => Minus_q v1 r y h) (fun y v1 h => L.Out_any v1 (-r) 768 y h (qs_k h3.neg (by decide)) (by decide))
  · exact ⟨⟨#[]⟩, ⟨#[]⟩, goodE n d, fun x _ => Neg_err n d _ x (bne_z h1) (fun y _ => read_no h1 hn hd y), fun x _ => Reckon_e1 n d m k c0 _ x (bne_z h1) (fun y _ => TW y) (fun y _ => Good_any n d y hn hd)⟩
theorem sgn_same (r : Rat) : L.sgn r = psg r := by
  unfold L.sgn psg
  by_cases a : r.num = 0
  · rw [if_pos a, if_neg (by omega), if_pos a]
  · rw [if_neg a]
    by_cases b : r.num < 0
    · rw [if_pos b, if_pos b]
    · rw [if_neg b, if_neg b, if_neg a]
theorem both_Cmp (n d m k : ByteArray) (w : World) (hn : n.size ≤ 9223372036854775807) (hd : d.size ≤ 9223372036854775807) (hm : m.size ≤ 9223372036854775807) (hk : k.size ≤ 9223372036854775807) : ∃ z e : Int, (∀ x, Below w.heap.size w x → Calls Tryz.prog 15 #[.agg #[.string n, .string d], .agg #[.string m, .string k]] x fun e' w' => e' = .returned (.tuple #[.int .i64 z, .int .i64 e]) ∧ Below x.heap.size x w') ∧ (∀ x, Below w.heap.size w x → Calls Tryz.prog 16 #[.agg #[.string n, .string d], .agg #[.string m, .string k]] x fun e' w' => e' = .returned (.tuple #[.int .i64 z, .int .i64 e]) ∧ Below x.heap.size x w') := by
  by_cases h : goodE n d ≠ 0 ∨ goodE m k ≠ 0
  · obtain ⟨c, hc, H1, H2⟩ := two_bad n d m k hn hd hm hk h
    exact ⟨0, c, fun x _ => Cmp_err n d m k c x (bne_z hc) (fun y _ => H1 y), fun x _ => RCmp_e n d m k c x (bne_z hc) (fun y _ => H2 y)⟩
  · have h1 : goodE n d = 0 := Classical.not_not.1 (fun z => h (Or.inl z))
    have h2 : goodE m k = 0 := Classical.not_not.1 (fun z => h (Or.inr z))
    obtain ⟨r, e1, r1, h3, I1⟩ := good_ok h1 hn
    obtain ⟨s, e2, r2, h4, I2⟩ := good_ok h2 hm
    refine ⟨pcm r s, 0, fun x b => ?_, fun x b => ?_⟩
    · rw [e1, e2]
      refine Cmp_raw _ _ _ _ _ _ _ _ _ _ _ x (fun y _ => readTwo_p r s y r1.1 r1.2 r2.1 r2.2) ?_
      intro y a l c a' l' c' k1 k2 k3 k4
      exact FCmp_p _ _ r s 256 y ⟨_, _, _, _, _, _, rfl, k1, k2⟩ ⟨_, _, _, _, _, _, rfl, k3, k4⟩ h3 h4 (by decide)
    · exact RCmp_k n d m k r s _ x (fun y _ => two_good hn hd hm hk h1 h2 y) (fun y _ => I1 y) (fun y _ => I2 y) (fun y v1 v2 h h' => QCmp_s v1 v2 r s 768 y h h' (qs_k h3 (by decide)) (qs_k h4 (by decide)) (by decide))
theorem both_Sign (n d : ByteArray) (w : World) (hn : n.size ≤ 9223372036854775807) (hd : d.size ≤ 9223372036854775807) : ∃ z e : Int, (∀ x, Below w.heap.size w x → Calls Tryz.prog 17 #[.agg #[.string n, .string d]] x fun e' w' => e' = .returned (.tuple #[.int .i64 z, .int .i64 e]) ∧ Below x.heap.size x w') ∧ (∀ x, Below w.heap.size w x → Calls Tryz.prog 18 #[.agg #[.string n, .string d]] x fun e' w' => e' = .returned (.tuple #[.int .i64 z, .int .i64 e]) ∧ Below x.heap.size x w') := by
  by_cases h1 : goodE n d = 0
  · obtain ⟨r, e1, r1, h3, I1⟩ := good_ok h1 hn
    refine ⟨psg r, 0, fun x b => ?_, fun x b => ?_⟩
    · rw [e1]
      exact Sign_r r1 x
    · exact RSign_k n d r _ x (fun y _ => by have := Good_any n d y hn hd; rwa [h1] at this) (fun y _ => I1 y) (fun y v1 h => by have := L.Sign_q v1 r y h; rwa [sgn_same] at this)
  · exact ⟨0, goodE n d, fun x _ => Sign_err n d _ x (bne_z h1) (fun y _ => read_no h1 hn hd y), fun x _ => RSign_e n d _ x (bne_z h1) (fun y _ => Good_any n d y hn hd)⟩
end Go.Proofs.YtfalncbcomlelaaGreatDoor.Mo
