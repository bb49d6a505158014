import Derived.Test.YtebilgnmnambnaaGreatDoorPart42
import Derived.Test.YtebilgnmnambnaaGreatDoorPart43
import Derived.Test.YtebilgnmnambnaaGreatDoorPart10

namespace Go.Proofs.YtebilgnmnambnaaGreatDoor.Mo
open Go.RowKit Fu Tn Go.Lib Wt Ip

theorem isq_parts {x : World} {g : Bool} {a a' : Option Addr} {l c l' c' : Nat} {r : Rat} (h : L.IsQ x (.agg #[.bool g, .slice a l c, .slice a' l' c']) r) : Nl x a l c (r.num.natAbs : Int) ∧ Nl x a' l' c' (r.den : Int) := by
  obtain ⟨b, k, e, b', k', e', h1, h2, h3, _⟩ := nl_isq h
  injection h1 with h1
  injection h1 with h1
  simp only [List.cons.injEq, Value.bool.injEq, Value.slice.injEq, and_true] at h1
  obtain ⟨_, ⟨rfl, rfl, rfl⟩, rfl, rfl, rfl⟩ := h1
  exact ⟨h2, h3⟩
set_option maxRecDepth 100000 in
set_option maxHeartbeats 12800000 in
theorem RPow_err (n d : ByteArray) (k c : Int) (w : World) (hc : (c != 0) = true) (GD : ∀ x, Below w.heap.size w x → Calls Tryz.prog 51 #[.agg #[.string n, .string d]] x fun e w' => e = .returned (.int .i64 c) ∧ Below x.heap.size x w') : Calls Tryz.prog 11 #[.agg #[.string n, .string d], .int .i64 k] w fun e w' => e = .returned (.tuple #[.agg #[.string ⟨#[]⟩, .string ⟨#[]⟩], .int .i64 c]) ∧ Below w.heap.size w w' := by
  have KA := ((Blk.new w #[.string n, .string d] 23).alloc (.cells #[.string ⟨#[]⟩, .string ⟨#[]⟩] 23))
  have KR := (Blk.new (w.alloc (.cells #[.string n, .string d] 23)) #[.string ⟨#[]⟩, .string ⟨#[]⟩] 23)
  have pr : Below w.heap.size w ((w.alloc (.cells #[.string n, .string d] 23)).alloc (.cells #[.string ⟨#[]⟩, .string ⟨#[]⟩] 23)) := (((Below.refl _ _).alloc (by simp; try omega) _).alloc (by simp; try omega) _)
  simp only [World.size_alloc] at KR
  go_enter Tryz.func11, Tryz.ntmps11
  go_wp2_with (first
    | (go_at_call 51; (refine (GD _ pr).mono ?_); (rintro e w1 ⟨rfl, b1⟩); (have p1 := bel' pr b1); (have KA1 := KA.below b1 KA.lt); (have ha0 := KA1.at 0); (have ha1 := KA1.at 1); (simp at ha0 ha1); (have K1 := KR.below b1 KR.lt); (have z0 := K1.at 0); (have z1 := K1.at 1); (have y0 := K1.free 0); (have y1 := K1.free 1); (simp at z0 z1))
    | fail)
  have KE := bput (bput K1 0 (.string ⟨#[]⟩)) 1 (.string ⟨#[]⟩)
  have bE := (p1.setCell (p := ⟨w.heap.size + 1, 0, none⟩) (show w.heap.size ≤ w.heap.size + 1 by omega) (.string ⟨#[]⟩)).setCell (p := ⟨w.heap.size + 1, 1, none⟩) (show w.heap.size ≤ w.heap.size + 1 by omega) (.string ⟨#[]⟩)
  have q0 := KE.at 0
  have q1 := KE.at 1
  simp at q0 q1
  exact bodyPost_ret (v := .tuple #[.agg #[.string ⟨#[]⟩, .string ⟨#[]⟩], .int .i64 c]) (by simp [results, Tryz.results11, go_sem, q0, q1]) rfl ⟨rfl, bE⟩
set_option maxRecDepth 100000 in
set_option maxHeartbeats 12800000 in
theorem RPow_range1 (n d : ByteArray) (k : Int) (w : World) (h : k < -4096) (GD : ∀ x, Below w.heap.size w x → Calls Tryz.prog 51 #[.agg #[.string n, .string d]] x fun e w' => e = .returned (.int .i64 0) ∧ Below x.heap.size x w') : Calls Tryz.prog 11 #[.agg #[.string n, .string d], .int .i64 k] w fun e w' => e = .returned (.tuple #[.agg #[.string ⟨#[]⟩, .string ⟨#[]⟩], .int .i64 1]) ∧ Below w.heap.size w w' := by
  have KA := ((Blk.new w #[.string n, .string d] 23).alloc (.cells #[.string ⟨#[]⟩, .string ⟨#[]⟩] 23))
  have KR := (Blk.new (w.alloc (.cells #[.string n, .string d] 23)) #[.string ⟨#[]⟩, .string ⟨#[]⟩] 23)
  have pr : Below w.heap.size w ((w.alloc (.cells #[.string n, .string d] 23)).alloc (.cells #[.string ⟨#[]⟩, .string ⟨#[]⟩] 23)) := (((Below.refl _ _).alloc (by simp; try omega) _).alloc (by simp; try omega) _)
  simp only [World.size_alloc] at KR
  have d1 : decide (k < -4096) = true := decide_eq_true h
  go_enter Tryz.func11, Tryz.ntmps11
  go_wp2_with (first
    | (go_at_call 51; (refine (GD _ pr).mono ?_); (rintro e w1 ⟨rfl, b1⟩); (have p1 := bel' pr b1); (have KA1 := KA.below b1 KA.lt); (have ha0 := KA1.at 0); (have ha1 := KA1.at 1); (simp at ha0 ha1); (have K1 := KR.below b1 KR.lt); (have z0 := K1.at 0); (have z1 := K1.at 1); (have y0 := K1.free 0); (have y1 := K1.free 1); (simp at z0 z1))
    | fail)
  have KE := bput (bput K1 0 (.string ⟨#[]⟩)) 1 (.string ⟨#[]⟩)
  have bE := (p1.setCell (p := ⟨w.heap.size + 1, 0, none⟩) (show w.heap.size ≤ w.heap.size + 1 by omega) (.string ⟨#[]⟩)).setCell (p := ⟨w.heap.size + 1, 1, none⟩) (show w.heap.size ≤ w.heap.size + 1 by omega) (.string ⟨#[]⟩)
  have q0 := KE.at 0
  have q1 := KE.at 1
  simp at q0 q1
  exact bodyPost_ret (v := .tuple #[.agg #[.string ⟨#[]⟩, .string ⟨#[]⟩], .int .i64 1]) (by simp [results, Tryz.results11, go_sem, q0, q1]) rfl ⟨rfl, bE⟩
set_option maxRecDepth 100000 in
set_option maxHeartbeats 12800000 in
theorem RPow_range2 (n d : ByteArray) (k : Int) (w : World) (h : 4096 < k) (GD : ∀ x, Below w.heap.size w x → Calls Tryz.prog 51 #[.agg #[.string n, .string d]] x fun e w' => e = .returned (.int .i64 0) ∧ Below x.heap.size x w') : Calls Tryz.prog 11 #[.agg #[.string n, .string d], .int .i64 k] w fun e w' => e = .returned (.tuple #[.agg #[.string ⟨#[]⟩, .string ⟨#[]⟩], .int .i64 1]) ∧ Below w.heap.size w w' := by
  have KA := ((Blk.new w #[.string n, .string d] 23).alloc (.cells #[.string ⟨#[]⟩, .string ⟨#[]⟩] 23))
  have KR := (Blk.new (w.alloc (.cells #[.string n, .string d] 23)) #[.string ⟨#[]⟩, .string ⟨#[]⟩] 23)
  have pr : Below w.heap.size w ((w.alloc (.cells #[.string n, .string d] 23)).alloc (.cells #[.string ⟨#[]⟩, .string ⟨#[]⟩] 23)) := (((Below.refl _ _).alloc (by simp; try omega) _).alloc (by simp; try omega) _)
  simp only [World.size_alloc] at KR
  have d1 : decide (k < -4096) = false := decide_eq_false (by omega)
  have d2 : decide (4096 < k) = true := decide_eq_true h
  go_enter Tryz.func11, Tryz.ntmps11
  go_wp2_with (first
    | (go_at_call 51; (refine (GD _ pr).mono ?_); (rintro e w1 ⟨rfl, b1⟩); (have p1 := bel' pr b1); (have KA1 := KA.below b1 KA.lt); (have ha0 := KA1.at 0); (have ha1 := KA1.at 1); (simp at ha0 ha1); (have K1 := KR.below b1 KR.lt); (have z0 := K1.at 0); (have z1 := K1.at 1); (have y0 := K1.free 0); (have y1 := K1.free 1); (simp at z0 z1))
    | fail)
  have KE := bput (bput K1 0 (.string ⟨#[]⟩)) 1 (.string ⟨#[]⟩)
  have bE := (p1.setCell (p := ⟨w.heap.size + 1, 0, none⟩) (show w.heap.size ≤ w.heap.size + 1 by omega) (.string ⟨#[]⟩)).setCell (p := ⟨w.heap.size + 1, 1, none⟩) (show w.heap.size ≤ w.heap.size + 1 by omega) (.string ⟨#[]⟩)
  have q0 := KE.at 0
  have q1 := KE.at 1
  simp at q0 q1
  exact bodyPost_ret (v := .tuple #[.agg #[.string ⟨#[]⟩, .string ⟨#[]⟩], .int .i64 1]) (by simp [results, Tryz.results11, go_sem, q0, q1]) rfl ⟨rfl, bE⟩
set_option maxRecDepth 100000 in
set_option maxHeartbeats 12800000 in
theorem RPow_nought (n d : ByteArray) (k : Int) (r : Rat) (w : World) (h1 : -4096 ≤ k) (h : k < 0) (GD : ∀ x, Below w.heap.size w x → Calls Tryz.prog 51 #[.agg #[.string n, .string d]] x fun e w' => e = .returned (.int .i64 0) ∧ Below x.heap.size x w') (IN : ∀ x, Below w.heap.size w x → Calls Tryz.prog 52 #[.agg #[.string n, .string d]] x (Qf r x)) (SG : ∀ x v, L.IsQ x v r → Calls Tryz.prog 53 #[v] x fun e w' => e = .returned (.int .i64 0) ∧ Below x.heap.size x w') : Calls Tryz.prog 11 #[.agg #[.string n, .string d], .int .i64 k] w fun e w' => e = .returned (.tuple #[.agg #[.string ⟨#[]⟩, .string ⟨#[]⟩], .int .i64 4]) ∧ Below w.heap.size w w' := by
  have KA := ((Blk.new w #[.string n, .string d] 23).alloc (.cells #[.string ⟨#[]⟩, .string ⟨#[]⟩] 23))
  have KR := (Blk.new (w.alloc (.cells #[.string n, .string d] 23)) #[.string ⟨#[]⟩, .string ⟨#[]⟩] 23)
  have pr : Below w.heap.size w ((w.alloc (.cells #[.string n, .string d] 23)).alloc (.cells #[.string ⟨#[]⟩, .string ⟨#[]⟩] 23)) := (((Below.refl _ _).alloc (by simp; try omega) _).alloc (by simp; try omega) _)
  simp only [World.size_alloc] at KR
  have d1 : decide (k < -4096) = false := decide_eq_false (by omega)
  have d2 : decide (4096 < k) = false := decide_eq_false (by omega)
  have d3 : decide (k < 0) = true := decide_eq_true h
  go_enter Tryz.func11, Tryz.ntmps11
  go_wp2_with (first
    | (go_at_call 53; (have mk := t2); (refine (SG _ _ t2).mono ?_); (rintro e w3 ⟨rfl, b3⟩); (have p3 := bel' p2 b3); (have t3 := t2.grow b3); (have KF3 := KF.grow b3); (have f0 := KF3.c0); (have f1 := KF3.c1); (have f2 := KF3.c2); (have g0 := KF3.f0); (have g1 := KF3.f1); (have g2 := KF3.f2); (have K3 := K2.below b3 K2.lt); (have z0 := K3.at 0); (have z1 := K3.at 1); (have y0 := K3.free 0); (have y1 := K3.free 1); (simp at z0 z1))
    | (go_at_call 52; (refine (IN _ p1).mono ?_); (rintro e w2 ⟨g, a, l, c, a', l', c', rfl, t1, b2⟩); (have al2 := (Below.refl w2.heap.size w2).alloc (Nat.le_refl _) (.cells #[.bool g, .slice a l c, .slice a' l' c'] 56)); (have bb2 := bel' b2 al2); (have p2 := bel' p1 bb2); (have KF := Rb.new w2 (.bool g) (.slice a l c) (.slice a' l' c') 56); (have t2 := t1.grow al2); (have f0 := KF.c0); (have f1 := KF.c1); (have f2 := KF.c2); (have g0 := KF.f0); (have g1 := KF.f1); (have g2 := KF.f2); (have K2 := K1.below bb2 K1.lt); (have z0 := K2.at 0); (have z1 := K2.at 1); (have y0 := K2.free 0); (have y1 := K2.free 1); (simp at z0 z1))
    | (go_at_call 51; (refine (GD _ pr).mono ?_); (rintro e w1 ⟨rfl, b1⟩); (have p1 := bel' pr b1); (have KA1 := KA.below b1 KA.lt); (have ha0 := KA1.at 0); (have ha1 := KA1.at 1); (simp at ha0 ha1); (have K1 := KR.below b1 KR.lt); (have z0 := K1.at 0); (have z1 := K1.at 1); (have y0 := K1.free 0); (have y1 := K1.free 1); (simp at z0 z1))
    | fail)
  have KE := bput (bput K3 0 (.string ⟨#[]⟩)) 1 (.string ⟨#[]⟩)
  have bE := (p3.setCell (p := ⟨w.heap.size + 1, 0, none⟩) (show w.heap.size ≤ w.heap.size + 1 by omega) (.string ⟨#[]⟩)).setCell (p := ⟨w.heap.size + 1, 1, none⟩) (show w.heap.size ≤ w.heap.size + 1 by omega) (.string ⟨#[]⟩)
  have q0 := KE.at 0
  have q1 := KE.at 1
  simp at q0 q1
  exact bodyPost_ret (v := .tuple #[.agg #[.string ⟨#[]⟩, .string ⟨#[]⟩], .int .i64 4]) (by simp [results, Tryz.results11, go_sem, q0, q1]) rfl ⟨rfl, bE⟩
set_option maxRecDepth 100000 in
set_option maxHeartbeats 12800000 in
theorem RPow_up_l1 (n d : ByteArray) (k m : Int) (r : Rat) (s1 : ByteArray) (D1 P1 : Int) (w : World) (h1 : -4096 ≤ k) (h2 : k ≤ 4096) (hm : k = m) (m0 : 0 < m) (GD : ∀ x, Below w.heap.size w x → Calls Tryz.prog 51 #[.agg #[.string n, .string d]] x fun e w' => e = .returned (.int .i64 0) ∧ Below x.heap.size x w') (IN : ∀ x, Below w.heap.size w x → Calls Tryz.prog 52 #[.agg #[.string n, .string d]] x (Qf r x)) (TX1 : ∀ x a l c, Nl x a l c ((r).num.natAbs : Int) → Calls Tryz.prog 55 #[.slice a l c] x fun e w' => e = .returned (.string s1) ∧ Below x.heap.size x w') (E1 : IntKind.i64.wrap ((s1.size : Int) - 1) = D1) (M1 : IntKind.i64.wrap (D1 * m) = P1) (G1 : decide (4096 < P1) = true) : Calls Tryz.prog 11 #[.agg #[.string n, .string d], .int .i64 k] w fun e w' => e = .returned (.tuple #[.agg #[.string ⟨#[]⟩, .string ⟨#[]⟩], .int .i64 3]) ∧ Below w.heap.size w w' := by
  subst hm
  have KA := ((Blk.new w #[.string n, .string d] 23).alloc (.cells #[.string ⟨#[]⟩, .string ⟨#[]⟩] 23))
  have KR := (Blk.new (w.alloc (.cells #[.string n, .string d] 23)) #[.string ⟨#[]⟩, .string ⟨#[]⟩] 23)
  have pr : Below w.heap.size w ((w.alloc (.cells #[.string n, .string d] 23)).alloc (.cells #[.string ⟨#[]⟩, .string ⟨#[]⟩] 23)) := (((Below.refl _ _).alloc (by simp; try omega) _).alloc (by simp; try omega) _)
  simp only [World.size_alloc] at KR
  have d1 : decide (k < -4096) = false := decide_eq_false (by omega)
  have d2 : decide (4096 < k) = false := decide_eq_false (by omega)
  have d3 : decide (k < 0) = false := decide_eq_false (by omega)
  have d4 : decide (0 < k) = true := decide_eq_true m0
  go_enter Tryz.func11, Tryz.ntmps11
  go_wp2_with (first
    | (go_at_call 55; (have mk := t2); (refine (TX1 _ _ _ _ (isq_parts t2).1).mono ?_); (rintro e w6 ⟨rfl, b6⟩); (have p6 := bel' p2 b6); (have t6 := t2.grow b6); (have KF6 := KF.grow b6); (have f0 := KF6.c0); (have f1 := KF6.c1); (have f2 := KF6.c2); (have g0 := KF6.f0); (have g1 := KF6.f1); (have g2 := KF6.f2); (have K6 := K2.below b6 K2.lt); (have z0 := K6.at 0); (have z1 := K6.at 1); (have y0 := K6.free 0); (have y1 := K6.free 1); (simp at z0 z1))
    | (go_at_call 52; (refine (IN _ p1).mono ?_); (rintro e w2 ⟨g, a, l, c, a', l', c', rfl, t1, b2⟩); (have al2 := (Below.refl w2.heap.size w2).alloc (Nat.le_refl _) (.cells #[.bool g, .slice a l c, .slice a' l' c'] 56)); (have bb2 := bel' b2 al2); (have p2 := bel' p1 bb2); (have KF := Rb.new w2 (.bool g) (.slice a l c) (.slice a' l' c') 56); (have t2 := t1.grow al2); (have f0 := KF.c0); (have f1 := KF.c1); (have f2 := KF.c2); (have g0 := KF.f0); (have g1 := KF.f1); (have g2 := KF.f2); (have K2 := K1.below bb2 K1.lt); (have z0 := K2.at 0); (have z1 := K2.at 1); (have y0 := K2.free 0); (have y1 := K2.free 1); (simp at z0 z1))
    | (go_at_call 51; (refine (GD _ pr).mono ?_); (rintro e w1 ⟨rfl, b1⟩); (have p1 := bel' pr b1); (have KA1 := KA.below b1 KA.lt); (have ha0 := KA1.at 0); (have ha1 := KA1.at 1); (simp at ha0 ha1); (have K1 := KR.below b1 KR.lt); (have z0 := K1.at 0); (have z1 := K1.at 1); (have y0 := K1.free 0); (have y1 := K1.free 1); (simp at z0 z1))
    | fail)
  have KE := bput (bput K6 0 (.string ⟨#[]⟩)) 1 (.string ⟨#[]⟩)
  have bE := (p6.setCell (p := ⟨w.heap.size + 1, 0, none⟩) (show w.heap.size ≤ w.heap.size + 1 by omega) (.string ⟨#[]⟩)).setCell (p := ⟨w.heap.size + 1, 1, none⟩) (show w.heap.size ≤ w.heap.size + 1 by omega) (.string ⟨#[]⟩)
  have q0 := KE.at 0
  have q1 := KE.at 1
  simp at q0 q1
  exact bodyPost_ret (v := .tuple #[.agg #[.string ⟨#[]⟩, .string ⟨#[]⟩], .int .i64 3]) (by simp [results, Tryz.results11, go_sem, q0, q1]) rfl ⟨rfl, bE⟩
set_option maxRecDepth 100000 in
set_option maxHeartbeats 12800000 in
theorem RPow_up_l2 (n d : ByteArray) (k m : Int) (r : Rat) (s1 : ByteArray) (D1 P1 : Int) (s2 : ByteArray) (D2 P2 : Int) (w : World) (h1 : -4096 ≤ k) (h2 : k ≤ 4096) (hm : k = m) (m0 : 0 < m) (GD : ∀ x, Below w.heap.size w x → Calls Tryz.prog 51 #[.agg #[.string n, .string d]] x fun e w' => e = .returned (.int .i64 0) ∧ Below x.heap.size x w') (IN : ∀ x, Below w.heap.size w x → Calls Tryz.prog 52 #[.agg #[.string n, .string d]] x (Qf r x)) (TX1 : ∀ x a l c, Nl x a l c ((r).num.natAbs : Int) → Calls Tryz.prog 55 #[.slice a l c] x fun e w' => e = .returned (.string s1) ∧ Below x.heap.size x w') (E1 : IntKind.i64.wrap ((s1.size : Int) - 1) = D1) (M1 : IntKind.i64.wrap (D1 * m) = P1) (G1 : decide (4096 < P1) = false) (TX2 : ∀ x a l c, Nl x a l c ((r).den : Int) → Calls Tryz.prog 55 #[.slice a l c] x fun e w' => e = .returned (.string s2) ∧ Below x.heap.size x w') (E2 : IntKind.i64.wrap ((s2.size : Int) - 1) = D2) (M2 : IntKind.i64.wrap (D2 * m) = P2) (G2 : decide (4096 < P2) = true) : Calls Tryz.prog 11 #[.agg #[.string n, .string d], .int .i64 k] w fun e w' => e = .returned (.tuple #[.agg #[.string ⟨#[]⟩, .string ⟨#[]⟩], .int .i64 3]) ∧ Below w.heap.size w w' := by
  subst hm
  have KA := ((Blk.new w #[.string n, .string d] 23).alloc (.cells #[.string ⟨#[]⟩, .string ⟨#[]⟩] 23))
  have KR := (Blk.new (w.alloc (.cells #[.string n, .string d] 23)) #[.string ⟨#[]⟩, .string ⟨#[]⟩] 23)
  have pr : Below w.heap.size w ((w.alloc (.cells #[.string n, .string d] 23)).alloc (.cells #[.string ⟨#[]⟩, .string ⟨#[]⟩] 23)) := (((Below.refl _ _).alloc (by simp; try omega) _).alloc (by simp; try omega) _)
  simp only [World.size_alloc] at KR
  have d1 : decide (k < -4096) = false := decide_eq_false (by omega)
  have d2 : decide (4096 < k) = false := decide_eq_false (by omega)
  have d3 : decide (k < 0) = false := decide_eq_false (by omega)
  have d4 : decide (0 < k) = true := decide_eq_true m0
  go_enter Tryz.func11, Tryz.ntmps11
  go_wp2_with (first
    | (go_at_call 55; (have mk := t6); (refine (TX2 _ _ _ _ (isq_parts t6).2).mono ?_); (rintro e w7 ⟨rfl, b7⟩); (have p7 := bel' p6 b7); (have t7 := t6.grow b7); (have KF7 := KF6.grow b7); (have f0 := KF7.c0); (have f1 := KF7.c1); (have f2 := KF7.c2); (have g0 := KF7.f0); (have g1 := KF7.f1); (have g2 := KF7.f2); (have K7 := K6.below b7 K6.lt); (have z0 := K7.at 0); (have z1 := K7.at 1); (have y0 := K7.free 0); (have y1 := K7.free 1); (simp at z0 z1))
    | (go_at_call 55; (have mk := t2); (refine (TX1 _ _ _ _ (isq_parts t2).1).mono ?_); (rintro e w6 ⟨rfl, b6⟩); (have p6 := bel' p2 b6); (have t6 := t2.grow b6); (have KF6 := KF.grow b6); (have f0 := KF6.c0); (have f1 := KF6.c1); (have f2 := KF6.c2); (have g0 := KF6.f0); (have g1 := KF6.f1); (have g2 := KF6.f2); (have K6 := K2.below b6 K2.lt); (have z0 := K6.at 0); (have z1 := K6.at 1); (have y0 := K6.free 0); (have y1 := K6.free 1); (simp at z0 z1))
    | (go_at_call 52; (refine (IN _ p1).mono ?_); (rintro e w2 ⟨g, a, l, c, a', l', c', rfl, t1, b2⟩); (have al2 := (Below.refl w2.heap.size w2).alloc (Nat.le_refl _) (.cells #[.bool g, .slice a l c, .slice a' l' c'] 56)); (have bb2 := bel' b2 al2); (have p2 := bel' p1 bb2); (have KF := Rb.new w2 (.bool g) (.slice a l c) (.slice a' l' c') 56); (have t2 := t1.grow al2); (have f0 := KF.c0); (have f1 := KF.c1); (have f2 := KF.c2); (have g0 := KF.f0); (have g1 := KF.f1); (have g2 := KF.f2); (have K2 := K1.below bb2 K1.lt); (have z0 := K2.at 0); (have z1 := K2.at 1); (have y0 := K2.free 0); (have y1 := K2.free 1); (simp at z0 z1))
    | (go_at_call 51; (refine (GD _ pr).mono ?_); (rintro e w1 ⟨rfl, b1⟩); (have p1 := bel' pr b1); (have KA1 := KA.below b1 KA.lt); (have ha0 := KA1.at 0); (have ha1 := KA1.at 1); (simp at ha0 ha1); (have K1 := KR.below b1 KR.lt); (have z0 := K1.at 0); (have z1 := K1.at 1); (have y0 := K1.free 0); (have y1 := K1.free 1); (simp at z0 z1))
    | fail)
  have KE := bput (bput K7 0 (.string ⟨#[]⟩)) 1 (.string ⟨#[]⟩)
  have bE := (p7.setCell (p := ⟨w.heap.size + 1, 0, none⟩) (show w.heap.size ≤ w.heap.size + 1 by omega) (.string ⟨#[]⟩)).setCell (p := ⟨w.heap.size + 1, 1, none⟩) (show w.heap.size ≤ w.heap.size + 1 by omega) (.string ⟨#[]⟩)
  have q0 := KE.at 0
  have q1 := KE.at 1
  simp at q0 q1
  exact bodyPost_ret (v := .tuple #[.agg #[.string ⟨#[]⟩, .string ⟨#[]⟩], .int .i64 3]) (by simp [results, Tryz.results11, go_sem, q0, q1]) rfl ⟨rfl, bE⟩
set_option maxRecDepth 100000 in
set_option maxHeartbeats 12800000 in
theorem RPow_up_ok (n d : ByteArray) (k m : Int) (r : Rat) (t : Rat) (u v : ByteArray) (er : Int) (s1 : ByteArray) (D1 P1 : Int) (s2 : ByteArray) (D2 P2 : Int) (w : World) (h1 : -4096 ≤ k) (h2 : k ≤ 4096) (hm : k = m) (m0 : 0 < m) (GD : ∀ x, Below w.heap.size w x → Calls Tryz.prog 51 #[.agg #[.string n, .string d]] x fun e w' => e = .returned (.int .i64 0) ∧ Below x.heap.size x w') (IN : ∀ x, Below w.heap.size w x → Calls Tryz.prog 52 #[.agg #[.string n, .string d]] x (Qf r x)) (TX1 : ∀ x a l c, Nl x a l c ((r).num.natAbs : Int) → Calls Tryz.prog 55 #[.slice a l c] x fun e w' => e = .returned (.string s1) ∧ Below x.heap.size x w') (E1 : IntKind.i64.wrap ((s1.size : Int) - 1) = D1) (M1 : IntKind.i64.wrap (D1 * m) = P1) (G1 : decide (4096 < P1) = false) (TX2 : ∀ x a l c, Nl x a l c ((r).den : Int) → Calls Tryz.prog 55 #[.slice a l c] x fun e w' => e = .returned (.string s2) ∧ Below x.heap.size x w') (E2 : IntKind.i64.wrap ((s2.size : Int) - 1) = D2) (M2 : IntKind.i64.wrap (D2 * m) = P2) (G2 : decide (4096 < P2) = false) (PO : ∀ x v, L.IsQ x v (r) → Calls Tryz.prog 56 #[v, .int .i64 m] x (Qf t x)) (OU : ∀ x y, L.IsQ x y t → Calls Tryz.prog 46 #[y] x fun e w' => e = .returned (.tuple #[.agg #[.string u, .string v], .int .i64 er]) ∧ Below x.heap.size x w') : Calls Tryz.prog 11 #[.agg #[.string n, .string d], .int .i64 k] w fun e w' => e = .returned (.tuple #[.agg #[.string u, .string v], .int .i64 er]) ∧ Below w.heap.size w w' := by
  subst hm
  have KA := ((Blk.new w #[.string n, .string d] 23).alloc (.cells #[.string ⟨#[]⟩, .string ⟨#[]⟩] 23))
  have KR := (Blk.new (w.alloc (.cells #[.string n, .string d] 23)) #[.string ⟨#[]⟩, .string ⟨#[]⟩] 23)
  have pr : Below w.heap.size w ((w.alloc (.cells #[.string n, .string d] 23)).alloc (.cells #[.string ⟨#[]⟩, .string ⟨#[]⟩] 23)) := (((Below.refl _ _).alloc (by simp; try omega) _).alloc (by simp; try omega) _)
  simp only [World.size_alloc] at KR
  have d1 : decide (k < -4096) = false := decide_eq_false (by omega)
  have d2 : decide (4096 < k) = false := decide_eq_false (by omega)
  have d3 : decide (k < 0) = false := decide_eq_false (by omega)
  have d4 : decide (0 < k) = true := decide_eq_true m0
  go_enter Tryz.func11, Tryz.ntmps11
  go_wp2_with (first
    | (go_at_call 46; (have mk := t8); (refine (OU _ _ t8).mono ?_); (rintro e w9 ⟨rfl, b9⟩); (have p9 := bel' p8 b9); (have K9 := K8.below b9 K8.lt); (have z0 := K9.at 0); (have z1 := K9.at 1); (have y0 := K9.free 0); (have y1 := K9.free 1); (simp at z0 z1))
    | (go_at_call 56; (have mk := t7); (refine (PO _ _ t7).mono ?_); (rintro e w8 ⟨g8, a8, l8, c8, a8', l8', c8', rfl, t8, b8⟩); (have p8 := bel' p7 b8); (have K8 := K7.below b8 K7.lt); (have z0 := K8.at 0); (have z1 := K8.at 1); (have y0 := K8.free 0); (have y1 := K8.free 1); (simp at z0 z1))
    | (go_at_call 55; (have mk := t6); (refine (TX2 _ _ _ _ (isq_parts t6).2).mono ?_); (rintro e w7 ⟨rfl, b7⟩); (have p7 := bel' p6 b7); (have t7 := t6.grow b7); (have KF7 := KF6.grow b7); (have f0 := KF7.c0); (have f1 := KF7.c1); (have f2 := KF7.c2); (have g0 := KF7.f0); (have g1 := KF7.f1); (have g2 := KF7.f2); (have K7 := K6.below b7 K6.lt); (have z0 := K7.at 0); (have z1 := K7.at 1); (have y0 := K7.free 0); (have y1 := K7.free 1); (simp at z0 z1))
    | (go_at_call 55; (have mk := t2); (refine (TX1 _ _ _ _ (isq_parts t2).1).mono ?_); (rintro e w6 ⟨rfl, b6⟩); (have p6 := bel' p2 b6); (have t6 := t2.grow b6); (have KF6 := KF.grow b6); (have f0 := KF6.c0); (have f1 := KF6.c1); (have f2 := KF6.c2); (have g0 := KF6.f0); (have g1 := KF6.f1); (have g2 := KF6.f2); (have K6 := K2.below b6 K2.lt); (have z0 := K6.at 0); (have z1 := K6.at 1); (have y0 := K6.free 0); (have y1 := K6.free 1); (simp at z0 z1))
    | (go_at_call 52; (refine (IN _ p1).mono ?_); (rintro e w2 ⟨g, a, l, c, a', l', c', rfl, t1, b2⟩); (have al2 := (Below.refl w2.heap.size w2).alloc (Nat.le_refl _) (.cells #[.bool g, .slice a l c, .slice a' l' c'] 56)); (have bb2 := bel' b2 al2); (have p2 := bel' p1 bb2); (have KF := Rb.new w2 (.bool g) (.slice a l c) (.slice a' l' c') 56); (have t2 := t1.grow al2); (have f0 := KF.c0); (have f1 := KF.c1); (have f2 := KF.c2); (have g0 := KF.f0); (have g1 := KF.f1); (have g2 := KF.f2); (have K2 := K1.below bb2 K1.lt); (have z0 := K2.at 0); (have z1 := K2.at 1); (have y0 := K2.free 0); (have y1 := K2.free 1); (simp at z0 z1))
    | (go_at_call 51; (refine (GD _ pr).mono ?_); (rintro e w1 ⟨rfl, b1⟩); (have p1 := bel' pr b1); (have KA1 := KA.below b1 KA.lt); (have ha0 := KA1.at 0); (have ha1 := KA1.at 1); (simp at ha0 ha1); (have K1 := KR.below b1 KR.lt); (have z0 := K1.at 0); (have z1 := K1.at 1); (have y0 := K1.free 0); (have y1 := K1.free 1); (simp at z0 z1))
    | fail)
  have KE := bput (bput K9 0 (.string u)) 1 (.string v)
  have bE := (p9.setCell (p := ⟨w.heap.size + 1, 0, none⟩) (show w.heap.size ≤ w.heap.size + 1 by omega) (.string u)).setCell (p := ⟨w.heap.size + 1, 1, none⟩) (show w.heap.size ≤ w.heap.size + 1 by omega) (.string v)
  have q0 := KE.at 0
  have q1 := KE.at 1
  simp at q0 q1
  exact bodyPost_ret (v := .tuple #[.agg #[.string u, .string v], .int .i64 er]) (by simp [results, Tryz.results11, go_sem, q0, q1]) rfl ⟨rfl, bE⟩
set_option maxRecDepth 100000 in
set_option maxHeartbeats 12800000 in
theorem RPow_up_nil (n d : ByteArray) (k m : Int) (r : Rat) (t : Rat) (u v : ByteArray) (er : Int) (w : World) (h1 : -4096 ≤ k) (h2 : k ≤ 4096) (hm : k = m) (m0 : m = 0) (GD : ∀ x, Below w.heap.size w x → Calls Tryz.prog 51 #[.agg #[.string n, .string d]] x fun e w' => e = .returned (.int .i64 0) ∧ Below x.heap.size x w') (IN : ∀ x, Below w.heap.size w x → Calls Tryz.prog 52 #[.agg #[.string n, .string d]] x (Qf r x)) (PO : ∀ x v, L.IsQ x v (r) → Calls Tryz.prog 56 #[v, .int .i64 m] x (Qf t x)) (OU : ∀ x y, L.IsQ x y t → Calls Tryz.prog 46 #[y] x fun e w' => e = .returned (.tuple #[.agg #[.string u, .string v], .int .i64 er]) ∧ Below x.heap.size x w') : Calls Tryz.prog 11 #[.agg #[.string n, .string d], .int .i64 k] w fun e w' => e = .returned (.tuple #[.agg #[.string u, .string v], .int .i64 er]) ∧ Below w.heap.size w w' := by
  subst hm
  have KA := ((Blk.new w #[.string n, .string d] 23).alloc (.cells #[.string ⟨#[]⟩, .string ⟨#[]⟩] 23))
  have KR := (Blk.new (w.alloc (.cells #[.string n, .string d] 23)) #[.string ⟨#[]⟩, .string ⟨#[]⟩] 23)
  have pr : Below w.heap.size w ((w.alloc (.cells #[.string n, .string d] 23)).alloc (.cells #[.string ⟨#[]⟩, .string ⟨#[]⟩] 23)) := (((Below.refl _ _).alloc (by simp; try omega) _).alloc (by simp; try omega) _)
  simp only [World.size_alloc] at KR
  have d1 : decide (k < -4096) = false := decide_eq_false (by omega)
  have d2 : decide (4096 < k) = false := decide_eq_false (by omega)
  have d3 : decide (k < 0) = false := decide_eq_false (by omega)
  have d4 : decide (0 < k) = false := decide_eq_false (by omega)
  subst m0
  go_enter Tryz.func11, Tryz.ntmps11
  go_wp2_with (first
    | (go_at_call 46; (have mk := t8); (refine (OU _ _ t8).mono ?_); (rintro e w9 ⟨rfl, b9⟩); (have p9 := bel' p8 b9); (have K9 := K8.below b9 K8.lt); (have z0 := K9.at 0); (have z1 := K9.at 1); (have y0 := K9.free 0); (have y1 := K9.free 1); (simp at z0 z1))
    | (go_at_call 56; (have mk := t2); (refine (PO _ _ t2).mono ?_); (rintro e w8 ⟨g8, a8, l8, c8, a8', l8', c8', rfl, t8, b8⟩); (have p8 := bel' p2 b8); (have K8 := K2.below b8 K2.lt); (have z0 := K8.at 0); (have z1 := K8.at 1); (have y0 := K8.free 0); (have y1 := K8.free 1); (simp at z0 z1))
    | (go_at_call 52; (refine (IN _ p1).mono ?_); (rintro e w2 ⟨g, a, l, c, a', l', c', rfl, t1, b2⟩); (have al2 := (Below.refl w2.heap.size w2).alloc (Nat.le_refl _) (.cells #[.bool g, .slice a l c, .slice a' l' c'] 56)); (have bb2 := bel' b2 al2); (have p2 := bel' p1 bb2); (have KF := Rb.new w2 (.bool g) (.slice a l c) (.slice a' l' c') 56); (have t2 := t1.grow al2); (have f0 := KF.c0); (have f1 := KF.c1); (have f2 := KF.c2); (have g0 := KF.f0); (have g1 := KF.f1); (have g2 := KF.f2); (have K2 := K1.below bb2 K1.lt); (have z0 := K2.at 0); (have z1 := K2.at 1); (have y0 := K2.free 0); (have y1 := K2.free 1); (simp at z0 z1))
    | (go_at_call 51; (refine (GD _ pr).mono ?_); (rintro e w1 ⟨rfl, b1⟩); (have p1 := bel' pr b1); (have KA1 := KA.below b1 KA.lt); (have ha0 := KA1.at 0); (have ha1 := KA1.at 1); (simp at ha0 ha1); (have K1 := KR.below b1 KR.lt); (have z0 := K1.at 0); (have z1 := K1.at 1); (have y0 := K1.free 0); (have y1 := K1.free 1); (simp at z0 z1))
    | fail)
  have KE := bput (bput K9 0 (.string u)) 1 (.string v)
  have bE := (p9.setCell (p := ⟨w.heap.size + 1, 0, none⟩) (show w.heap.size ≤ w.heap.size + 1 by omega) (.string u)).setCell (p := ⟨w.heap.size + 1, 1, none⟩) (show w.heap.size ≤ w.heap.size + 1 by omega) (.string v)
  have q0 := KE.at 0
  have q1 := KE.at 1
  simp at q0 q1
  exact bodyPost_ret (v := .tuple #[.agg #[.string u, .string v], .int .i64 er]) (by simp [results, Tryz.results11, go_sem, q0, q1]) rfl ⟨rfl, bE⟩
set_option maxRecDepth 100000 in
set_option maxHeartbeats 12800000 in
theorem RPow_dn_l1 (n d : ByteArray) (k m : Int) (r o : Rat) (s1 : ByteArray) (D1 P1 : Int) (w : World) (h1 : -4096 ≤ k) (h2 : k ≤ 4096) (h : k < 0) (hm : IntKind.i64.wrap (-k) = m) (m0 : 0 < m) (z : Int) (hz : (z == 0) = false) (SG : ∀ x v, L.IsQ x v r → Calls Tryz.prog 53 #[v] x fun e w' => e = .returned (.int .i64 z) ∧ Below x.heap.size x w') (OF : ∀ x, Calls Tryz.prog 36 #[.int .i64 1] x (Qf o x)) (DV : ∀ x v1 v2, L.IsQ x v1 o → L.IsQ x v2 r → Calls Tryz.prog 54 #[v1, v2] x (Qf r⁻¹ x)) (GD : ∀ x, Below w.heap.size w x → Calls Tryz.prog 51 #[.agg #[.string n, .string d]] x fun e w' => e = .returned (.int .i64 0) ∧ Below x.heap.size x w') (IN : ∀ x, Below w.heap.size w x → Calls Tryz.prog 52 #[.agg #[.string n, .string d]] x (Qf r x)) (TX1 : ∀ x a l c, Nl x a l c ((r⁻¹).num.natAbs : Int) → Calls Tryz.prog 55 #[.slice a l c] x fun e w' => e = .returned (.string s1) ∧ Below x.heap.size x w') (E1 : IntKind.i64.wrap ((s1.size : Int) - 1) = D1) (M1 : IntKind.i64.wrap (D1 * m) = P1) (G1 : decide (4096 < P1) = true) : Calls Tryz.prog 11 #[.agg #[.string n, .string d], .int .i64 k] w fun e w' => e = .returned (.tuple #[.agg #[.string ⟨#[]⟩, .string ⟨#[]⟩], .int .i64 3]) ∧ Below w.heap.size w w' := by
  have KA := ((Blk.new w #[.string n, .string d] 23).alloc (.cells #[.string ⟨#[]⟩, .string ⟨#[]⟩] 23))
  have KR := (Blk.new (w.alloc (.cells #[.string n, .string d] 23)) #[.string ⟨#[]⟩, .string ⟨#[]⟩] 23)
  have pr : Below w.heap.size w ((w.alloc (.cells #[.string n, .string d] 23)).alloc (.cells #[.string ⟨#[]⟩, .string ⟨#[]⟩] 23)) := (((Below.refl _ _).alloc (by simp; try omega) _).alloc (by simp; try omega) _)
  simp only [World.size_alloc] at KR
  have d1 : decide (k < -4096) = false := decide_eq_false (by omega)
  have d2 : decide (4096 < k) = false := decide_eq_false (by omega)
  have d3 : decide (k < 0) = true := decide_eq_true h
  have d4 : decide (0 < m) = true := decide_eq_true m0
  go_enter Tryz.func11, Tryz.ntmps11
  go_wp2_with (first
    | (go_at_call 53; (have mk := t2); (refine (SG _ _ t2).mono ?_); (rintro e w3 ⟨rfl, b3⟩); (have p3 := bel' p2 b3); (have t3 := t2.grow b3); (have KF3 := KF.grow b3); (have f0 := KF3.c0); (have f1 := KF3.c1); (have f2 := KF3.c2); (have g0 := KF3.f0); (have g1 := KF3.f1); (have g2 := KF3.f2); (have K3 := K2.below b3 K2.lt); (have z0 := K3.at 0); (have z1 := K3.at 1); (have y0 := K3.free 0); (have y1 := K3.free 1); (simp at z0 z1))
    | (go_at_call 52; (refine (IN _ p1).mono ?_); (rintro e w2 ⟨g, a, l, c, a', l', c', rfl, t1, b2⟩); (have al2 := (Below.refl w2.heap.size w2).alloc (Nat.le_refl _) (.cells #[.bool g, .slice a l c, .slice a' l' c'] 56)); (have bb2 := bel' b2 al2); (have p2 := bel' p1 bb2); (have KF := Rb.new w2 (.bool g) (.slice a l c) (.slice a' l' c') 56); (have t2 := t1.grow al2); (have f0 := KF.c0); (have f1 := KF.c1); (have f2 := KF.c2); (have g0 := KF.f0); (have g1 := KF.f1); (have g2 := KF.f2); (have K2 := K1.below bb2 K1.lt); (have z0 := K2.at 0); (have z1 := K2.at 1); (have y0 := K2.free 0); (have y1 := K2.free 1); (simp at z0 z1))
    | (go_at_call 51; (refine (GD _ pr).mono ?_); (rintro e w1 ⟨rfl, b1⟩); (have p1 := bel' pr b1); (have KA1 := KA.below b1 KA.lt); (have ha0 := KA1.at 0); (have ha1 := KA1.at 1); (simp at ha0 ha1); (have K1 := KR.below b1 KR.lt); (have z0 := K1.at 0); (have z1 := K1.at 1); (have y0 := K1.free 0); (have y1 := K1.free 1); (simp at z0 z1))
    | fail)
  have LF : Hid (w.heap.size + 1 < w2.heap.size) := Nat.lt_of_lt_of_le K1.lt b2.size
  generalize w2.heap.size = F at *
  go_cut [] (fun wc => ∃ (g5 : Bool) (a5 a5' : Option Addr) (l5 c5 l5' c5' : Nat), Rb wc F (.bool g5) (.slice a5 l5 c5) (.slice a5' l5' c5') ∧ L.IsQ wc (.agg #[.bool g5, .slice a5 l5 c5, .slice a5' l5' c5']) r⁻¹ ∧ Blk wc (w.heap.size + 1) #[.string ⟨#[]⟩, .string ⟨#[]⟩] 23 ∧ Below w.heap.size w wc)
  case first =>
    have dw := (Below.refl w3.heap.size w3).drew
    go_region_with (first
      | (go_at_call 54; (have mk := t4); (refine (DV _ _ _ t4 (t3.grow d4)).mono ?_); (rintro e w5 ⟨g5, a5, l5, c5, a5', l5', c5', rfl, t5, b5⟩); (have d5 := bel' d4 b5); (have KF5 := KF3.grow d5); (have f0 := KF5.c0); (have f1 := KF5.c1); (have f2 := KF5.c2); (have g0 := KF5.f0); (have g1 := KF5.f1); (have g2 := KF5.f2))
      | (go_at_call 36; (refine (OF _).mono ?_); (rintro e w4 ⟨g4, a4, l4, c4, a4', l4', c4', rfl, t4, b4⟩); (have d4 := undrew b4); (have KF4 := KF3.grow d4); (have e0 := KF4.c0); (have e1 := KF4.c1); (have e2 := KF4.c2))
      | fail)
    all_goals
      have tE := qput (x := .bool g5) (y := .slice a5 l5 c5) (z := .slice a5' l5' c5') t5 KF5
      have KE := KF5.sets (.bool g5) (.slice a5 l5 c5) (.slice a5' l5' c5')
      have nF : F ≠ w.heap.size + 1 := by have := LF.out; omega
      have K5 := K3.below d5 K3.lt
      have K6 := bskp (bskp (bskp K5 nF 0 (.bool g5)) nF 1 (.slice a5 l5 c5)) nF 2 (.slice a5' l5' c5')
      have pE := (((bel' p3 d5).setCell (p := ⟨F, 0, none⟩) (show w.heap.size ≤ F by have := LF.out; omega) (.bool g5)).setCell (p := ⟨F, 1, none⟩) (show w.heap.size ≤ F by have := LF.out; omega) (.slice a5 l5 c5)).setCell (p := ⟨F, 2, none⟩) (show w.heap.size ≤ F by have := LF.out; omega) (.slice a5' l5' c5')
      go_wp2_with fail
      go_meet
      case rel => exact ⟨g5, a5, a5', l5, c5, l5', c5', KE, tE, K6, pE⟩
  case rest =>
    rename World => W5
    clear KF t2 p2 K2 KF3 t3 p3 K3 f0 f1 f2 g0 g1 g2 z0 z1 y0 y1
    obtain ⟨g, a, a', l, c, l', c', KF, t2, K2, p2⟩ := hcut
    have f0 := KF.c0
    have f1 := KF.c1
    have f2 := KF.c2
    have z0 := K2.at 0
    have z1 := K2.at 1
    have y0 := K2.free 0
    have y1 := K2.free 1
    simp at z0 z1
    go_wp2_with (first
      | (go_at_call 55; (have mk := t2); (refine (TX1 _ _ _ _ (isq_parts t2).1).mono ?_); (rintro e w6 ⟨rfl, b6⟩); (have p6 := bel' p2 b6); (have t6 := t2.grow b6); (have KF6 := KF.grow b6); (have f0 := KF6.c0); (have f1 := KF6.c1); (have f2 := KF6.c2); (have g0 := KF6.f0); (have g1 := KF6.f1); (have g2 := KF6.f2); (have K6 := K2.below b6 K2.lt); (have z0 := K6.at 0); (have z1 := K6.at 1); (have y0 := K6.free 0); (have y1 := K6.free 1); (simp at z0 z1))
      | fail)
    have KE := bput (bput K6 0 (.string ⟨#[]⟩)) 1 (.string ⟨#[]⟩)
    have bE := (p6.setCell (p := ⟨w.heap.size + 1, 0, none⟩) (show w.heap.size ≤ w.heap.size + 1 by omega) (.string ⟨#[]⟩)).setCell (p := ⟨w.heap.size + 1, 1, none⟩) (show w.heap.size ≤ w.heap.size + 1 by omega) (.string ⟨#[]⟩)
    have q0 := KE.at 0
    have q1 := KE.at 1
    simp at q0 q1
    exact bodyPost_ret (v := .tuple #[.agg #[.string ⟨#[]⟩, .string ⟨#[]⟩], .int .i64 3]) (by simp [results, Tryz.results11, go_sem, q0, q1]) rfl ⟨rfl, bE⟩
set_option maxRecDepth 100000 in
set_option maxHeartbeats 12800000 in
theorem RPow_dn_l2 (n d : ByteArray) (k m : Int) (r o : Rat) (s1 : ByteArray) (D1 P1 : Int) (s2 : ByteArray) (D2 P2 : Int) (w : World) (h1 : -4096 ≤ k) (h2 : k ≤ 4096) (h : k < 0) (hm : IntKind.i64.wrap (-k) = m) (m0 : 0 < m) (z : Int) (hz : (z == 0) = false) (SG : ∀ x v, L.IsQ x v r → Calls Tryz.prog 53 #[v] x fun e w' => e = .returned (.int .i64 z) ∧ Below x.heap.size x w') (OF : ∀ x, Calls Tryz.prog 36 #[.int .i64 1] x (Qf o x)) (DV : ∀ x v1 v2, L.IsQ x v1 o → L.IsQ x v2 r → Calls Tryz.prog 54 #[v1, v2] x (Qf r⁻¹ x)) (GD : ∀ x, Below w.heap.size w x → Calls Tryz.prog 51 #[.agg #[.string n, .string d]] x fun e w' => e = .returned (.int .i64 0) ∧ Below x.heap.size x w') (IN : ∀ x, Below w.heap.size w x → Calls Tryz.prog 52 #[.agg #[.string n, .string d]] x (Qf r x)) (TX1 : ∀ x a l c, Nl x a l c ((r⁻¹).num.natAbs : Int) → Calls Tryz.prog 55 #[.slice a l c] x fun e w' => e = .returned (.string s1) ∧ Below x.heap.size x w') (E1 : IntKind.i64.wrap ((s1.size : Int) - 1) = D1) (M1 : IntKind.i64.wrap (D1 * m) = P1) (G1 : decide (4096 < P1) = false) (TX2 : ∀ x a l c, Nl x a l c ((r⁻¹).den : Int) → Calls Tryz.prog 55 #[.slice a l c] x fun e w' => e = .returned (.string s2) ∧ Below x.heap.size x w') (E2 : IntKind.i64.wrap ((s2.size : Int) - 1) = D2) (M2 : IntKind.i64.wrap (D2 * m) = P2) (G2 : decide (4096 < P2) = true) : Calls Tryz.prog 11 #[.agg #[.string n, .string d], .int .i64 k] w fun e w' => e = .returned (.tuple #[.agg #[.string ⟨#[]⟩, .string ⟨#[]⟩], .int .i64 3]) ∧ Below w.heap.size w w' := by
  have KA := ((Blk.new w #[.string n, .string d] 23).alloc (.cells #[.string ⟨#[]⟩, .string ⟨#[]⟩] 23))
  have KR := (Blk.new (w.alloc (.cells #[.string n, .string d] 23)) #[.string ⟨#[]⟩, .string ⟨#[]⟩] 23)
  have pr : Below w.heap.size w ((w.alloc (.cells #[.string n, .string d] 23)).alloc (.cells #[.string ⟨#[]⟩, .string ⟨#[]⟩] 23)) := (((Below.refl _ _).alloc (by simp; try omega) _).alloc (by simp; try omega) _)
  simp only [World.size_alloc] at KR
  have d1 : decide (k < -4096) = false := decide_eq_false (by omega)
  have d2 : decide (4096 < k) = false := decide_eq_false (by omega)
  have d3 : decide (k < 0) = true := decide_eq_true h
  have d4 : decide (0 < m) = true := decide_eq_true m0
  go_enter Tryz.func11, Tryz.ntmps11
  go_wp2_with (first
    | (go_at_call 53; (have mk := t2); (refine (SG _ _ t2).mono ?_); (rintro e w3 ⟨rfl, b3⟩); (have p3 := bel' p2 b3); (have t3 := t2.grow b3); (have KF3 := KF.grow b3); (have f0 := KF3.c0); (have f1 := KF3.c1); (have f2 := KF3.c2); (have g0 := KF3.f0); (have g1 := KF3.f1); (have g2 := KF3.f2); (have K3 := K2.below b3 K2.lt); (have z0 := K3.at 0); (have z1 := K3.at 1); (have y0 := K3.free 0); (have y1 := K3.free 1); (simp at z0 z1))
    | (go_at_call 52; (refine (IN _ p1).mono ?_); (rintro e w2 ⟨g, a, l, c, a', l', c', rfl, t1, b2⟩); (have al2 := (Below.refl w2.heap.size w2).alloc (Nat.le_refl _) (.cells #[.bool g, .slice a l c, .slice a' l' c'] 56)); (have bb2 := bel' b2 al2); (have p2 := bel' p1 bb2); (have KF := Rb.new w2 (.bool g) (.slice a l c) (.slice a' l' c') 56); (have t2 := t1.grow al2); (have f0 := KF.c0); (have f1 := KF.c1); (have f2 := KF.c2); (have g0 := KF.f0); (have g1 := KF.f1); (have g2 := KF.f2); (have K2 := K1.below bb2 K1.lt); (have z0 := K2.at 0); (have z1 := K2.at 1); (have y0 := K2.free 0); (have y1 := K2.free 1); (simp at z0 z1))
    | (go_at_call 51; (refine (GD _ pr).mono ?_); (rintro e w1 ⟨rfl, b1⟩); (have p1 := bel' pr b1); (have KA1 := KA.below b1 KA.lt); (have ha0 := KA1.at 0); (have ha1 := KA1.at 1); (simp at ha0 ha1); (have K1 := KR.below b1 KR.lt); (have z0 := K1.at 0); (have z1 := K1.at 1); (have y0 := K1.free 0); (have y1 := K1.free 1); (simp at z0 z1))
    | fail)
  have LF : Hid (w.heap.size + 1 < w2.heap.size) := Nat.lt_of_lt_of_le K1.lt b2.size
  generalize w2.heap.size = F at *
  go_cut [] (fun wc => ∃ (g5 : Bool) (a5 a5' : Option Addr) (l5 c5 l5' c5' : Nat), Rb wc F (.bool g5) (.slice a5 l5 c5) (.slice a5' l5' c5') ∧ L.IsQ wc (.agg #[.bool g5, .slice a5 l5 c5, .slice a5' l5' c5']) r⁻¹ ∧ Blk wc (w.heap.size + 1) #[.string ⟨#[]⟩, .string ⟨#[]⟩] 23 ∧ Below w.heap.size w wc)
  case first =>
    have dw := (Below.refl w3.heap.size w3).drew
    go_region_with (first
      | (go_at_call 54; (have mk := t4); (refine (DV _ _ _ t4 (t3.grow d4)).mono ?_); (rintro e w5 ⟨g5, a5, l5, c5, a5', l5', c5', rfl, t5, b5⟩); (have d5 := bel' d4 b5); (have KF5 := KF3.grow d5); (have f0 := KF5.c0); (have f1 := KF5.c1); (have f2 := KF5.c2); (have g0 := KF5.f0); (have g1 := KF5.f1); (have g2 := KF5.f2))
      | (go_at_call 36; (refine (OF _).mono ?_); (rintro e w4 ⟨g4, a4, l4, c4, a4', l4', c4', rfl, t4, b4⟩); (have d4 := undrew b4); (have KF4 := KF3.grow d4); (have e0 := KF4.c0); (have e1 := KF4.c1); (have e2 := KF4.c2))
      | fail)
    all_goals
      have tE := qput (x := .bool g5) (y := .slice a5 l5 c5) (z := .slice a5' l5' c5') t5 KF5
      have KE := KF5.sets (.bool g5) (.slice a5 l5 c5) (.slice a5' l5' c5')
      have nF : F ≠ w.heap.size + 1 := by have := LF.out; omega
      have K5 := K3.below d5 K3.lt
      have K6 := bskp (bskp (bskp K5 nF 0 (.bool g5)) nF 1 (.slice a5 l5 c5)) nF 2 (.slice a5' l5' c5')
      have pE := (((bel' p3 d5).setCell (p := ⟨F, 0, none⟩) (show w.heap.size ≤ F by have := LF.out; omega) (.bool g5)).setCell (p := ⟨F, 1, none⟩) (show w.heap.size ≤ F by have := LF.out; omega) (.slice a5 l5 c5)).setCell (p := ⟨F, 2, none⟩) (show w.heap.size ≤ F by have := LF.out; omega) (.slice a5' l5' c5')
      go_wp2_with fail
      go_meet
      case rel => exact ⟨g5, a5, a5', l5, c5, l5', c5', KE, tE, K6, pE⟩
  case rest =>
    rename World => W5
    clear KF t2 p2 K2 KF3 t3 p3 K3 f0 f1 f2 g0 g1 g2 z0 z1 y0 y1
    obtain ⟨g, a, a', l, c, l', c', KF, t2, K2, p2⟩ := hcut
    have f0 := KF.c0
    have f1 := KF.c1
    have f2 := KF.c2
    have z0 := K2.at 0
    have z1 := K2.at 1
    have y0 := K2.free 0
    have y1 := K2.free 1
    simp at z0 z1
    go_wp2_with (first
      | (go_at_call 55; (have mk := t6); (refine (TX2 _ _ _ _ (isq_parts t6).2).mono ?_); (rintro e w7 ⟨rfl, b7⟩); (have p7 := bel' p6 b7); (have t7 := t6.grow b7); (have KF7 := KF6.grow b7); (have f0 := KF7.c0); (have f1 := KF7.c1); (have f2 := KF7.c2); (have g0 := KF7.f0); (have g1 := KF7.f1); (have g2 := KF7.f2); (have K7 := K6.below b7 K6.lt); (have z0 := K7.at 0); (have z1 := K7.at 1); (have y0 := K7.free 0); (have y1 := K7.free 1); (simp at z0 z1))
      | (go_at_call 55; (have mk := t2); (refine (TX1 _ _ _ _ (isq_parts t2).1).mono ?_); (rintro e w6 ⟨rfl, b6⟩); (have p6 := bel' p2 b6); (have t6 := t2.grow b6); (have KF6 := KF.grow b6); (have f0 := KF6.c0); (have f1 := KF6.c1); (have f2 := KF6.c2); (have g0 := KF6.f0); (have g1 := KF6.f1); (have g2 := KF6.f2); (have K6 := K2.below b6 K2.lt); (have z0 := K6.at 0); (have z1 := K6.at 1); (have y0 := K6.free 0); (have y1 := K6.free 1); (simp at z0 z1))
      | fail)
    have KE := bput (bput K7 0 (.string ⟨#[]⟩)) 1 (.string ⟨#[]⟩)
    have bE := (p7.setCell (p := ⟨w.heap.size + 1, 0, none⟩) (show w.heap.size ≤ w.heap.size + 1 by omega) (.string ⟨#[]⟩)).setCell (p := ⟨w.heap.size + 1, 1, none⟩) (show w.heap.size ≤ w.heap.size + 1 by omega) (.string ⟨#[]⟩)
    have q0 := KE.at 0
    have q1 := KE.at 1
    simp at q0 q1
    exact bodyPost_ret (v := .tuple #[.agg #[.string ⟨#[]⟩, .string ⟨#[]⟩], .int .i64 3]) (by simp [results, Tryz.results11, go_sem, q0, q1]) rfl ⟨rfl, bE⟩
set_option maxRecDepth 100000 in
set_option maxHeartbeats 12800000 in
theorem RPow_dn_ok (n d : ByteArray) (k m : Int) (r o : Rat) (t : Rat) (u v : ByteArray) (er : Int) (s1 : ByteArray) (D1 P1 : Int) (s2 : ByteArray) (D2 P2 : Int) (w : World) (h1 : -4096 ≤ k) (h2 : k ≤ 4096) (h : k < 0) (hm : IntKind.i64.wrap (-k) = m) (m0 : 0 < m) (z : Int) (hz : (z == 0) = false) (SG : ∀ x v, L.IsQ x v r → Calls Tryz.prog 53 #[v] x fun e w' => e = .returned (.int .i64 z) ∧ Below x.heap.size x w') (OF : ∀ x, Calls Tryz.prog 36 #[.int .i64 1] x (Qf o x)) (DV : ∀ x v1 v2, L.IsQ x v1 o → L.IsQ x v2 r → Calls Tryz.prog 54 #[v1, v2] x (Qf r⁻¹ x)) (GD : ∀ x, Below w.heap.size w x → Calls Tryz.prog 51 #[.agg #[.string n, .string d]] x fun e w' => e = .returned (.int .i64 0) ∧ Below x.heap.size x w') (IN : ∀ x, Below w.heap.size w x → Calls Tryz.prog 52 #[.agg #[.string n, .string d]] x (Qf r x)) (TX1 : ∀ x a l c, Nl x a l c ((r⁻¹).num.natAbs : Int) → Calls Tryz.prog 55 #[.slice a l c] x fun e w' => e = .returned (.string s1) ∧ Below x.heap.size x w') (E1 : IntKind.i64.wrap ((s1.size : Int) - 1) = D1) (M1 : IntKind.i64.wrap (D1 * m) = P1) (G1 : decide (4096 < P1) = false) (TX2 : ∀ x a l c, Nl x a l c ((r⁻¹).den : Int) → Calls Tryz.prog 55 #[.slice a l c] x fun e w' => e = .returned (.string s2) ∧ Below x.heap.size x w') (E2 : IntKind.i64.wrap ((s2.size : Int) - 1) = D2) (M2 : IntKind.i64.wrap (D2 * m) = P2) (G2 : decide (4096 < P2) = false) (PO : ∀ x v, L.IsQ x v (r⁻¹) → Calls Tryz.prog 56 #[v, .int .i64 m] x (Qf t x)) (OU : ∀ x y, L.IsQ x y t → Calls Tryz.prog 46 #[y] x fun e w' => e = .returned (.tuple #[.agg #[.string u, .string v], .int .i64 er]) ∧ Below x.heap.size x w') : Calls Tryz.prog 11 #[.agg #[.string n, .string d], .int .i64 k] w fun e w' => e = .returned (.tuple #[.agg #[.string u, .string v], .int .i64 er]) ∧ Below w.heap.size w w' := by
  have KA := ((Blk.new w #[.string n, .string d] 23).alloc (.cells #[.string ⟨#[]⟩, .string ⟨#[]⟩] 23))
  have KR := (Blk.new (w.alloc (.cells #[.string n, .string d] 23)) #[.string ⟨#[]⟩, .string ⟨#[]⟩] 23)
  have pr : Below w.heap.size w ((w.alloc (.cells #[.string n, .string d] 23)).alloc (.cells #[.string ⟨#[]⟩, .string ⟨#[]⟩] 23)) := (((Below.refl _ _).alloc (by simp; try omega) _).alloc (by simp; try omega) _)
  simp only [World.size_alloc] at KR
  have d1 : decide (k < -4096) = false := decide_eq_false (by omega)
  have d2 : decide (4096 < k) = false := decide_eq_false (by omega)
  have d3 : decide (k < 0) = true := decide_eq_true h
  have d4 : decide (0 < m) = true := decide_eq_true m0
  go_enter Tryz.func11, Tryz.ntmps11
  go_wp2_with (first
    | (go_at_call 53; (have mk := t2); (refine (SG _ _ t2).mono ?_); (rintro e w3 ⟨rfl, b3⟩); (have p3 := bel' p2 b3); (have t3 := t2.grow b3); (have KF3 := KF.grow b3); (have f0 := KF3.c0); (have f1 := KF3.c1); (have f2 := KF3.c2); (have g0 := KF3.f0); (have g1 := KF3.f1); (have g2 := KF3.f2); (have K3 := K2.below b3 K2.lt); (have z0 := K3.at 0); (have z1 := K3.at 1); (have y0 := K3.free 0); (have y1 := K3.free 1); (simp at z0 z1))
    | (go_at_call 52; (refine (IN _ p1).mono ?_); (rintro e w2 ⟨g, a, l, c, a', l', c', rfl, t1, b2⟩); (have al2 := (Below.refl w2.heap.size w2).alloc (Nat.le_refl _) (.cells #[.bool g, .slice a l c, .slice a' l' c'] 56)); (have bb2 := bel' b2 al2); (have p2 := bel' p1 bb2); (have KF := Rb.new w2 (.bool g) (.slice a l c) (.slice a' l' c') 56); (have t2 := t1.grow al2); (have f0 := KF.c0); (have f1 := KF.c1); (have f2 := KF.c2); (have g0 := KF.f0); (have g1 := KF.f1); (have g2 := KF.f2); (have K2 := K1.below bb2 K1.lt); (have z0 := K2.at 0); (have z1 := K2.at 1); (have y0 := K2.free 0); (have y1 := K2.free 1); (simp at z0 z1))
    | (go_at_call 51; (refine (GD _ pr).mono ?_); (rintro e w1 ⟨rfl, b1⟩); (have p1 := bel' pr b1); (have KA1 := KA.below b1 KA.lt); (have ha0 := KA1.at 0); (have ha1 := KA1.at 1); (simp at ha0 ha1); (have K1 := KR.below b1 KR.lt); (have z0 := K1.at 0); (have z1 := K1.at 1); (have y0 := K1.free 0); (have y1 := K1.free 1); (simp at z0 z1))
    | fail)
  have LF : Hid (w.heap.size + 1 < w2.heap.size) := Nat.lt_of_lt_of_le K1.lt b2.size
  generalize w2.heap.size = F at *
  go_cut [] (fun wc => ∃ (g5 : Bool) (a5 a5' : Option Addr) (l5 c5 l5' c5' : Nat), Rb wc F (.bool g5) (.slice a5 l5 c5) (.slice a5' l5' c5') ∧ L.IsQ wc (.agg #[.bool g5, .slice a5 l5 c5, .slice a5' l5' c5']) r⁻¹ ∧ Blk wc (w.heap.size + 1) #[.string ⟨#[]⟩, .string ⟨#[]⟩] 23 ∧ Below w.heap.size w wc)
  case first =>
    have dw := (Below.refl w3.heap.size w3).drew
    go_region_with (first
      | (go_at_call 54; (have mk := t4); (refine (DV _ _ _ t4 (t3.grow d4)).mono ?_); (rintro e w5 ⟨g5, a5, l5, c5, a5', l5', c5', rfl, t5, b5⟩); (have d5 := bel' d4 b5); (have KF5 := KF3.grow d5); (have f0 := KF5.c0); (have f1 := KF5.c1); (have f2 := KF5.c2); (have g0 := KF5.f0); (have g1 := KF5.f1); (have g2 := KF5.f2))
      | (go_at_call 36; (refine (OF _).mono ?_); (rintro e w4 ⟨g4, a4, l4, c4, a4', l4', c4', rfl, t4, b4⟩); (have d4 := undrew b4); (have KF4 := KF3.grow d4); (have e0 := KF4.c0); (have e1 := KF4.c1); (have e2 := KF4.c2))
      | fail)
    all_goals
      have tE := qput (x := .bool g5) (y := .slice a5 l5 c5) (z := .slice a5' l5' c5') t5 KF5
      have KE := KF5.sets (.bool g5) (.slice a5 l5 c5) (.slice a5' l5' c5')
      have nF : F ≠ w.heap.size + 1 := by have := LF.out; omega
      have K5 := K3.below d5 K3.lt
      have K6 := bskp (bskp (bskp K5 nF 0 (.bool g5)) nF 1 (.slice a5 l5 c5)) nF 2 (.slice a5' l5' c5')
      have pE := (((bel' p3 d5).setCell (p := ⟨F, 0, none⟩) (show w.heap.size ≤ F by have := LF.out; omega) (.bool g5)).setCell (p := ⟨F, 1, none⟩) (show w.heap.size ≤ F by have := LF.out; omega) (.slice a5 l5 c5)).setCell (p := ⟨F, 2, none⟩) (show w.heap.size ≤ F by have := LF.out; omega) (.slice a5' l5' c5')
      go_wp2_with fail
      go_meet
      case rel => exact ⟨g5, a5, a5', l5, c5, l5', c5', KE, tE, K6, pE⟩
  case rest =>
    rename World => W5
    clear KF t2 p2 K2 KF3 t3 p3 K3 f0 f1 f2 g0 g1 g2 z0 z1 y0 y1
    obtain ⟨g, a, a', l, c, l', c', KF, t2, K2, p2⟩ := hcut
    have f0 := KF.c0
    have f1 := KF.c1
    have f2 := KF.c2
    have z0 := K2.at 0
    have z1 := K2.at 1
    have y0 := K2.free 0
    have y1 := K2.free 1
    simp at z0 z1
    go_wp2_with (first
      | (go_at_call 46; (have mk := t8); (refine (OU _ _ t8).mono ?_); (rintro e w9 ⟨rfl, b9⟩); (have p9 := bel' p8 b9); (have K9 := K8.below b9 K8.lt); (have z0 := K9.at 0); (have z1 := K9.at 1); (have y0 := K9.free 0); (have y1 := K9.free 1); (simp at z0 z1))
      | (go_at_call 56; (have mk := t7); (refine (PO _ _ t7).mono ?_); (rintro e w8 ⟨g8, a8, l8, c8, a8', l8', c8', rfl, t8, b8⟩); (have p8 := bel' p7 b8); (have K8 := K7.below b8 K7.lt); (have z0 := K8.at 0); (have z1 := K8.at 1); (have y0 := K8.free 0); (have y1 := K8.free 1); (simp at z0 z1))
      | (go_at_call 55; (have mk := t6); (refine (TX2 _ _ _ _ (isq_parts t6).2).mono ?_); (rintro e w7 ⟨rfl, b7⟩); (have p7 := bel' p6 b7); (have t7 := t6.grow b7); (have KF7 := KF6.grow b7); (have f0 := KF7.c0); (have f1 := KF7.c1); (have f2 := KF7.c2); (have g0 := KF7.f0); (have g1 := KF7.f1); (have g2 := KF7.f2); (have K7 := K6.below b7 K6.lt); (have z0 := K7.at 0); (have z1 := K7.at 1); (have y0 := K7.free 0); (have y1 := K7.free 1); (simp at z0 z1))
      | (go_at_call 55; (have mk := t2); (refine (TX1 _ _ _ _ (isq_parts t2).1).mono ?_); (rintro e w6 ⟨rfl, b6⟩); (have p6 := bel' p2 b6); (have t6 := t2.grow b6); (have KF6 := KF.grow b6); (have f0 := KF6.c0); (have f1 := KF6.c1); (have f2 := KF6.c2); (have g0 := KF6.f0); (have g1 := KF6.f1); (have g2 := KF6.f2); (have K6 := K2.below b6 K2.lt); (have z0 := K6.at 0); (have z1 := K6.at 1); (have y0 := K6.free 0); (have y1 := K6.free 1); (simp at z0 z1))
      | fail)
    have KE := bput (bput K9 0 (.string u)) 1 (.string v)
    have bE := (p9.setCell (p := ⟨w.heap.size + 1, 0, none⟩) (show w.heap.size ≤ w.heap.size + 1 by omega) (.string u)).setCell (p := ⟨w.heap.size + 1, 1, none⟩) (show w.heap.size ≤ w.heap.size + 1 by omega) (.string v)
    have q0 := KE.at 0
    have q1 := KE.at 1
    simp at q0 q1
    exact bodyPost_ret (v := .tuple #[.agg #[.string u, .string v], .int .i64 er]) (by simp [results, Tryz.results11, go_sem, q0, q1]) rfl ⟨rfl, bE⟩
end Go.Proofs.YtebilgnmnambnaaGreatDoor.Mo
