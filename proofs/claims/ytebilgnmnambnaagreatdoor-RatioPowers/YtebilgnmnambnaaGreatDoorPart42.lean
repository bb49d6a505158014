import Derived.Test.YtebilgnmnambnaaGreatDoorPart41

namespace Go.Proofs.YtebilgnmnambnaaGreatDoor.Mo
open Go.RowKit Fu Tn Go.Lib Wt Ip

theorem pf_parts {x : World} {g : Bool} {a a' : Option Addr} {l c l' c' : Nat} {r : Rat} (h : PF x (.agg #[.bool g, .slice a l c, .slice a' l' c']) r) : g = decide (r.num < 0) ∧ Nn x a l c (r.num.natAbs : Int) ∧ Nn x a' l' c' (r.den : Int) := by
  obtain ⟨b, k, e, b', k', e', h1, h2, h3⟩ := h
  injection h1 with h1
  injection h1 with h1
  simp only [List.cons.injEq, Value.bool.injEq, Value.slice.injEq, and_true] at h1
  obtain ⟨rfl, ⟨rfl, rfl, rfl⟩, rfl, rfl, rfl⟩ := h1
  exact ⟨rfl, h2, h3⟩
set_option maxRecDepth 100000 in
set_option maxHeartbeats 6400000 in
theorem Pow_err (n d : ByteArray) (k c : Int) (w : World) (hc : (c != 0) = true) (C1 : ∀ x, Below w.heap.size w x → Calls Tryz.prog 47 #[.agg #[.string n, .string d]] x fun e w' => e = .returned (.tuple #[.agg #[.bool false, .slice none 0 0, .slice none 0 0], .int .i64 c]) ∧ Below x.heap.size x w') : Calls Tryz.prog 10 #[.agg #[.string n, .string d], .int .i64 k] w fun e w' => e = .returned (.tuple #[.agg #[.string ⟨#[]⟩, .string ⟨#[]⟩], .int .i64 c]) ∧ Below w.heap.size w w' := by
  have KA := ((Blk.new w #[.string n, .string d] 23).alloc (.cells #[.string ⟨#[]⟩, .string ⟨#[]⟩] 23))
  have KR := (Blk.new (w.alloc (.cells #[.string n, .string d] 23)) #[.string ⟨#[]⟩, .string ⟨#[]⟩] 23)
  have pr : Below w.heap.size w ((w.alloc (.cells #[.string n, .string d] 23)).alloc (.cells #[.string ⟨#[]⟩, .string ⟨#[]⟩] 23)) := (((Below.refl _ _).alloc (by simp; try omega) _).alloc (by simp; try omega) _)
  simp only [World.size_alloc] at KR
  go_enter Tryz.func10, Tryz.ntmps10
  go_wp2_with (first
    | (go_at_call 47; (refine (C1 _ pr).mono ?_); (rintro e w1 ⟨rfl, b1⟩); (have al1 := (Below.refl w1.heap.size w1).alloc (Nat.le_refl _) (.cells #[.bool false, .slice none 0 0, .slice none 0 0] 67)); (have bb1 := bel' b1 al1); (have p1 := bel' pr bb1); (have K1 := KR.below bb1 KR.lt); (have z0 := K1.at 0); (have z1 := K1.at 1); (have y0 := K1.free 0); (have y1 := K1.free 1); (simp at z0 z1))
    | fail)
  have KE := bput (bput K1 0 (.string ⟨#[]⟩)) 1 (.string ⟨#[]⟩)
  have bE := (p1.setCell (p := ⟨w.heap.size + 1, 0, none⟩) (show w.heap.size ≤ w.heap.size + 1 by omega) (.string ⟨#[]⟩)).setCell (p := ⟨w.heap.size + 1, 1, none⟩) (show w.heap.size ≤ w.heap.size + 1 by omega) (.string ⟨#[]⟩)
  have q0 := KE.at 0
  have q1 := KE.at 1
  simp at q0 q1
  exact bodyPost_ret (v := .tuple #[.agg #[.string ⟨#[]⟩, .string ⟨#[]⟩], .int .i64 c]) (by simp [results, Tryz.results10, go_sem, q0, q1]) rfl ⟨rfl, bE⟩
set_option maxRecDepth 100000 in
set_option maxHeartbeats 6400000 in
theorem Pow_range1 (n d : ByteArray) (k : Int) (r : Rat) (w : World) (h : k < -4096) (RE : ∀ x, Below w.heap.size w x → Calls Tryz.prog 47 #[.agg #[.string n, .string d]] x fun e w' => ∃ g a l c a' l' c', e = .returned (.tuple #[.agg #[.bool g, .slice a l c, .slice a' l' c'], .int .i64 0]) ∧ PF w' (.agg #[.bool g, .slice a l c, .slice a' l' c']) r ∧ Below x.heap.size x w') : Calls Tryz.prog 10 #[.agg #[.string n, .string d], .int .i64 k] w fun e w' => e = .returned (.tuple #[.agg #[.string ⟨#[]⟩, .string ⟨#[]⟩], .int .i64 1]) ∧ Below w.heap.size w w' := by
  have KA := ((Blk.new w #[.string n, .string d] 23).alloc (.cells #[.string ⟨#[]⟩, .string ⟨#[]⟩] 23))
  have KR := (Blk.new (w.alloc (.cells #[.string n, .string d] 23)) #[.string ⟨#[]⟩, .string ⟨#[]⟩] 23)
  have pr : Below w.heap.size w ((w.alloc (.cells #[.string n, .string d] 23)).alloc (.cells #[.string ⟨#[]⟩, .string ⟨#[]⟩] 23)) := (((Below.refl _ _).alloc (by simp; try omega) _).alloc (by simp; try omega) _)
  simp only [World.size_alloc] at KR
  have d1 : decide (k < -4096) = true := decide_eq_true h
  go_enter Tryz.func10, Tryz.ntmps10
  go_wp2_with (first
    | (go_at_call 47; (refine (RE _ pr).mono ?_); (rintro e w1 ⟨g, a, l, c, a', l', c', rfl, t1, b1⟩); (have al1 := (Below.refl w1.heap.size w1).alloc (Nat.le_refl _) (.cells #[.bool g, .slice a l c, .slice a' l' c'] 67)); (have bb1 := bel' b1 al1); (have p1 := bel' pr bb1); (have KF := Rb.new w1 (.bool g) (.slice a l c) (.slice a' l' c') 67); (have f0 := KF.c0); (have f1 := KF.c1); (have f2 := KF.c2); (have g0 := KF.f0); (have g1 := KF.f1); (have g2 := KF.f2); (have t2 := t1.grow al1); (have K1 := KR.below bb1 KR.lt); (have z0 := K1.at 0); (have z1 := K1.at 1); (have y0 := K1.free 0); (have y1 := K1.free 1); (simp at z0 z1))
    | fail)
  have KE := bput (bput K1 0 (.string ⟨#[]⟩)) 1 (.string ⟨#[]⟩)
  have bE := (p1.setCell (p := ⟨w.heap.size + 1, 0, none⟩) (show w.heap.size ≤ w.heap.size + 1 by omega) (.string ⟨#[]⟩)).setCell (p := ⟨w.heap.size + 1, 1, none⟩) (show w.heap.size ≤ w.heap.size + 1 by omega) (.string ⟨#[]⟩)
  have q0 := KE.at 0
  have q1 := KE.at 1
  simp at q0 q1
  exact bodyPost_ret (v := .tuple #[.agg #[.string ⟨#[]⟩, .string ⟨#[]⟩], .int .i64 1]) (by simp [results, Tryz.results10, go_sem, q0, q1]) rfl ⟨rfl, bE⟩
set_option maxRecDepth 100000 in
set_option maxHeartbeats 6400000 in
theorem Pow_range2 (n d : ByteArray) (k : Int) (r : Rat) (w : World) (h : 4096 < k) (RE : ∀ x, Below w.heap.size w x → Calls Tryz.prog 47 #[.agg #[.string n, .string d]] x fun e w' => ∃ g a l c a' l' c', e = .returned (.tuple #[.agg #[.bool g, .slice a l c, .slice a' l' c'], .int .i64 0]) ∧ PF w' (.agg #[.bool g, .slice a l c, .slice a' l' c']) r ∧ Below x.heap.size x w') : Calls Tryz.prog 10 #[.agg #[.string n, .string d], .int .i64 k] w fun e w' => e = .returned (.tuple #[.agg #[.string ⟨#[]⟩, .string ⟨#[]⟩], .int .i64 1]) ∧ Below w.heap.size w w' := by
  have KA := ((Blk.new w #[.string n, .string d] 23).alloc (.cells #[.string ⟨#[]⟩, .string ⟨#[]⟩] 23))
  have KR := (Blk.new (w.alloc (.cells #[.string n, .string d] 23)) #[.string ⟨#[]⟩, .string ⟨#[]⟩] 23)
  have pr : Below w.heap.size w ((w.alloc (.cells #[.string n, .string d] 23)).alloc (.cells #[.string ⟨#[]⟩, .string ⟨#[]⟩] 23)) := (((Below.refl _ _).alloc (by simp; try omega) _).alloc (by simp; try omega) _)
  simp only [World.size_alloc] at KR
  have d1 : decide (k < -4096) = false := decide_eq_false (by omega)
  have d2 : decide (4096 < k) = true := decide_eq_true h
  go_enter Tryz.func10, Tryz.ntmps10
  go_wp2_with (first
    | (go_at_call 47; (refine (RE _ pr).mono ?_); (rintro e w1 ⟨g, a, l, c, a', l', c', rfl, t1, b1⟩); (have al1 := (Below.refl w1.heap.size w1).alloc (Nat.le_refl _) (.cells #[.bool g, .slice a l c, .slice a' l' c'] 67)); (have bb1 := bel' b1 al1); (have p1 := bel' pr bb1); (have KF := Rb.new w1 (.bool g) (.slice a l c) (.slice a' l' c') 67); (have f0 := KF.c0); (have f1 := KF.c1); (have f2 := KF.c2); (have g0 := KF.f0); (have g1 := KF.f1); (have g2 := KF.f2); (have t2 := t1.grow al1); (have K1 := KR.below bb1 KR.lt); (have z0 := K1.at 0); (have z1 := K1.at 1); (have y0 := K1.free 0); (have y1 := K1.free 1); (simp at z0 z1))
    | fail)
  have KE := bput (bput K1 0 (.string ⟨#[]⟩)) 1 (.string ⟨#[]⟩)
  have bE := (p1.setCell (p := ⟨w.heap.size + 1, 0, none⟩) (show w.heap.size ≤ w.heap.size + 1 by omega) (.string ⟨#[]⟩)).setCell (p := ⟨w.heap.size + 1, 1, none⟩) (show w.heap.size ≤ w.heap.size + 1 by omega) (.string ⟨#[]⟩)
  have q0 := KE.at 0
  have q1 := KE.at 1
  simp at q0 q1
  exact bodyPost_ret (v := .tuple #[.agg #[.string ⟨#[]⟩, .string ⟨#[]⟩], .int .i64 1]) (by simp [results, Tryz.results10, go_sem, q0, q1]) rfl ⟨rfl, bE⟩
set_option maxRecDepth 100000 in
set_option maxHeartbeats 6400000 in
theorem Pow_nought (n d : ByteArray) (k : Int) (r : Rat) (w : World) (h1 : -4096 ≤ k) (h : k < 0) (hz : Hid (decide ((r.num.natAbs : Int) = 0) = true)) (RE : ∀ x, Below w.heap.size w x → Calls Tryz.prog 47 #[.agg #[.string n, .string d]] x fun e w' => ∃ g a l c a' l' c', e = .returned (.tuple #[.agg #[.bool g, .slice a l c, .slice a' l' c'], .int .i64 0]) ∧ PF w' (.agg #[.bool g, .slice a l c, .slice a' l' c']) r ∧ Below x.heap.size x w') : Calls Tryz.prog 10 #[.agg #[.string n, .string d], .int .i64 k] w fun e w' => e = .returned (.tuple #[.agg #[.string ⟨#[]⟩, .string ⟨#[]⟩], .int .i64 4]) ∧ Below w.heap.size w w' := by
  have KA := ((Blk.new w #[.string n, .string d] 23).alloc (.cells #[.string ⟨#[]⟩, .string ⟨#[]⟩] 23))
  have KR := (Blk.new (w.alloc (.cells #[.string n, .string d] 23)) #[.string ⟨#[]⟩, .string ⟨#[]⟩] 23)
  have pr : Below w.heap.size w ((w.alloc (.cells #[.string n, .string d] 23)).alloc (.cells #[.string ⟨#[]⟩, .string ⟨#[]⟩] 23)) := (((Below.refl _ _).alloc (by simp; try omega) _).alloc (by simp; try omega) _)
  simp only [World.size_alloc] at KR
  have d1 : decide (k < -4096) = false := decide_eq_false (by omega)
  have d2 : decide (4096 < k) = false := decide_eq_false (by omega)
  go_enter Tryz.func10, Tryz.ntmps10
  go_wp2_with (first
    | (go_at_call 48; (have mk := t2); (have iz := IsZero_n (pf_parts t2).2.1); (rw [hz.out] at iz); (refine iz.mono ?_); (rintro e w2 ⟨rfl, b2⟩); (have p2 := bel' p1 b2); (have t3 := t2.grow b2); (have KF2 := KF.grow b2); (have f0 := KF2.c0); (have f1 := KF2.c1); (have f2 := KF2.c2); (have g0 := KF2.f0); (have g1 := KF2.f1); (have g2 := KF2.f2); (have K2 := K1.below b2 K1.lt); (have z0 := K2.at 0); (have z1 := K2.at 1); (have y0 := K2.free 0); (have y1 := K2.free 1); (simp at z0 z1))
    | (go_at_call 47; (refine (RE _ pr).mono ?_); (rintro e w1 ⟨g, a, l, c, a', l', c', rfl, t1, b1⟩); (have al1 := (Below.refl w1.heap.size w1).alloc (Nat.le_refl _) (.cells #[.bool g, .slice a l c, .slice a' l' c'] 67)); (have bb1 := bel' b1 al1); (have p1 := bel' pr bb1); (have KF := Rb.new w1 (.bool g) (.slice a l c) (.slice a' l' c') 67); (have f0 := KF.c0); (have f1 := KF.c1); (have f2 := KF.c2); (have g0 := KF.f0); (have g1 := KF.f1); (have g2 := KF.f2); (have t2 := t1.grow al1); (have K1 := KR.below bb1 KR.lt); (have z0 := K1.at 0); (have z1 := K1.at 1); (have y0 := K1.free 0); (have y1 := K1.free 1); (simp at z0 z1))
    | fail)
  have KE := bput (bput K2 0 (.string ⟨#[]⟩)) 1 (.string ⟨#[]⟩)
  have bE := (p2.setCell (p := ⟨w.heap.size + 1, 0, none⟩) (show w.heap.size ≤ w.heap.size + 1 by omega) (.string ⟨#[]⟩)).setCell (p := ⟨w.heap.size + 1, 1, none⟩) (show w.heap.size ≤ w.heap.size + 1 by omega) (.string ⟨#[]⟩)
  have q0 := KE.at 0
  have q1 := KE.at 1
  simp at q0 q1
  exact bodyPost_ret (v := .tuple #[.agg #[.string ⟨#[]⟩, .string ⟨#[]⟩], .int .i64 4]) (by simp [results, Tryz.results10, go_sem, q0, q1]) rfl ⟨rfl, bE⟩
theorem pf_inv {x : World} {g : Bool} {a a' : Option Addr} {l c l' c' : Nat} {r : Rat} (h : PF x (.agg #[.bool g, .slice a l c, .slice a' l' c']) r) (h0 : r ≠ 0) : PF x (.agg #[.bool g, .slice a' l' c', .slice a l c]) r⁻¹ := by
  obtain ⟨rfl, h2, h3⟩ := pf_parts h
  obtain ⟨i1, i2, i3⟩ := inv_num r h0
  exact ⟨a', l', c', a, l, c, by rw [i1], by rw [i2]; exact h3, by rw [i3]; exact h2⟩
theorem bskp {w : World} {n b : Nat} {c : Array Value} {t : TypeId} (h : Blk w n c t) (hb : b ≠ n) (i : Nat) (v : Value) : Blk (w.setCell ⟨b, i, none⟩ v) n c t := by
  have h' : w.heap[n]? = some (.cells c t (0, 0)) := h
  show (w.setCell ⟨b, i, none⟩ v).heap[n]? = _
  simp [World.setCell, Array.getElem?_modify, h', hb]
set_option maxRecDepth 100000 in
set_option maxHeartbeats 6400000 in
theorem Pow_up_l1 (n d : ByteArray) (k m : Int) (r : Rat) (w : World) (h1 : -4096 ≤ k) (h2 : k ≤ 4096) (h : 0 ≤ k) (hm : k = m) (hz : Hid (decide ((r.num.natAbs : Int) = 0) = false)) (RE : ∀ x, Below w.heap.size w x → Calls Tryz.prog 47 #[.agg #[.string n, .string d]] x fun e w' => ∃ g a l c a' l' c', e = .returned (.tuple #[.agg #[.bool g, .slice a l c, .slice a' l' c'], .int .i64 0]) ∧ PF w' (.agg #[.bool g, .slice a l c, .slice a' l' c']) r ∧ Below x.heap.size x w') (L1 : ∀ x a l c, Nn x a l c ((r).num.natAbs : Int) → Calls Tryz.prog 49 #[.agg #[.slice a l c], .int .i64 m] x fun e w' => e = .returned (.bool true) ∧ Below x.heap.size x w') : Calls Tryz.prog 10 #[.agg #[.string n, .string d], .int .i64 k] w fun e w' => e = .returned (.tuple #[.agg #[.string ⟨#[]⟩, .string ⟨#[]⟩], .int .i64 3]) ∧ Below w.heap.size w w' := by
  subst hm
  have KA := ((Blk.new w #[.string n, .string d] 23).alloc (.cells #[.string ⟨#[]⟩, .string ⟨#[]⟩] 23))
  have KR := (Blk.new (w.alloc (.cells #[.string n, .string d] 23)) #[.string ⟨#[]⟩, .string ⟨#[]⟩] 23)
  have pr : Below w.heap.size w ((w.alloc (.cells #[.string n, .string d] 23)).alloc (.cells #[.string ⟨#[]⟩, .string ⟨#[]⟩] 23)) := (((Below.refl _ _).alloc (by simp; try omega) _).alloc (by simp; try omega) _)
  simp only [World.size_alloc] at KR
  have d1 : decide (k < -4096) = false := decide_eq_false (by omega)
  have d2 : decide (4096 < k) = false := decide_eq_false (by omega)
  have d3 : decide (k < 0) = false := decide_eq_false (by omega)
  go_enter Tryz.func10, Tryz.ntmps10
  go_wp2_with (first
    | (go_at_call 49; (have mk := t3); (refine (L1 _ _ _ _ (pf_parts t3).2.1).mono ?_); (rintro e w5 ⟨rfl, b5⟩); (have p5 := bel' p2 b5); (have t5 := t3.grow b5); (have KF5 := KF2.grow b5); (have f0 := KF5.c0); (have f1 := KF5.c1); (have f2 := KF5.c2); (have g0 := KF5.f0); (have g1 := KF5.f1); (have g2 := KF5.f2); (have K5 := K2.below b5 K2.lt); (have z0 := K5.at 0); (have z1 := K5.at 1); (have y0 := K5.free 0); (have y1 := K5.free 1); (simp at z0 z1))
    | (go_at_call 48; (have mk := t2); (have iz := IsZero_n (pf_parts t2).2.1); (rw [hz.out] at iz); (refine iz.mono ?_); (rintro e w2 ⟨rfl, b2⟩); (have p2 := bel' p1 b2); (have t3 := t2.grow b2); (have KF2 := KF.grow b2); (have f0 := KF2.c0); (have f1 := KF2.c1); (have f2 := KF2.c2); (have g0 := KF2.f0); (have g1 := KF2.f1); (have g2 := KF2.f2); (have K2 := K1.below b2 K1.lt); (have z0 := K2.at 0); (have z1 := K2.at 1); (have y0 := K2.free 0); (have y1 := K2.free 1); (simp at z0 z1))
    | (go_at_call 47; (refine (RE _ pr).mono ?_); (rintro e w1 ⟨g, a, l, c, a', l', c', rfl, t1, b1⟩); (have al1 := (Below.refl w1.heap.size w1).alloc (Nat.le_refl _) (.cells #[.bool g, .slice a l c, .slice a' l' c'] 67)); (have bb1 := bel' b1 al1); (have p1 := bel' pr bb1); (have KF := Rb.new w1 (.bool g) (.slice a l c) (.slice a' l' c') 67); (have f0 := KF.c0); (have f1 := KF.c1); (have f2 := KF.c2); (have g0 := KF.f0); (have g1 := KF.f1); (have g2 := KF.f2); (have t2 := t1.grow al1); (have K1 := KR.below bb1 KR.lt); (have z0 := K1.at 0); (have z1 := K1.at 1); (have y0 := K1.free 0); (have y1 := K1.free 1); (simp at z0 z1))
    | fail)
  have KE := bput (bput K5 0 (.string ⟨#[]⟩)) 1 (.string ⟨#[]⟩)
  have bE := (p5.setCell (p := ⟨w.heap.size + 1, 0, none⟩) (show w.heap.size ≤ w.heap.size + 1 by omega) (.string ⟨#[]⟩)).setCell (p := ⟨w.heap.size + 1, 1, none⟩) (show w.heap.size ≤ w.heap.size + 1 by omega) (.string ⟨#[]⟩)
  have q0 := KE.at 0
  have q1 := KE.at 1
  simp at q0 q1
  exact bodyPost_ret (v := .tuple #[.agg #[.string ⟨#[]⟩, .string ⟨#[]⟩], .int .i64 3]) (by simp [results, Tryz.results10, go_sem, q0, q1]) rfl ⟨rfl, bE⟩
set_option maxRecDepth 100000 in
set_option maxHeartbeats 6400000 in
theorem Pow_up_l2 (n d : ByteArray) (k m : Int) (r : Rat) (w : World) (h1 : -4096 ≤ k) (h2 : k ≤ 4096) (h : 0 ≤ k) (hm : k = m) (hz : Hid (decide ((r.num.natAbs : Int) = 0) = false)) (RE : ∀ x, Below w.heap.size w x → Calls Tryz.prog 47 #[.agg #[.string n, .string d]] x fun e w' => ∃ g a l c a' l' c', e = .returned (.tuple #[.agg #[.bool g, .slice a l c, .slice a' l' c'], .int .i64 0]) ∧ PF w' (.agg #[.bool g, .slice a l c, .slice a' l' c']) r ∧ Below x.heap.size x w') (L1 : ∀ x a l c, Nn x a l c ((r).num.natAbs : Int) → Calls Tryz.prog 49 #[.agg #[.slice a l c], .int .i64 m] x fun e w' => e = .returned (.bool false) ∧ Below x.heap.size x w') (L2 : ∀ x a l c, Nn x a l c ((r).den : Int) → Calls Tryz.prog 49 #[.agg #[.slice a l c], .int .i64 m] x fun e w' => e = .returned (.bool true) ∧ Below x.heap.size x w') : Calls Tryz.prog 10 #[.agg #[.string n, .string d], .int .i64 k] w fun e w' => e = .returned (.tuple #[.agg #[.string ⟨#[]⟩, .string ⟨#[]⟩], .int .i64 3]) ∧ Below w.heap.size w w' := by
  subst hm
  have KA := ((Blk.new w #[.string n, .string d] 23).alloc (.cells #[.string ⟨#[]⟩, .string ⟨#[]⟩] 23))
  have KR := (Blk.new (w.alloc (.cells #[.string n, .string d] 23)) #[.string ⟨#[]⟩, .string ⟨#[]⟩] 23)
  have pr : Below w.heap.size w ((w.alloc (.cells #[.string n, .string d] 23)).alloc (.cells #[.string ⟨#[]⟩, .string ⟨#[]⟩] 23)) := (((Below.refl _ _).alloc (by simp; try omega) _).alloc (by simp; try omega) _)
  simp only [World.size_alloc] at KR
  have d1 : decide (k < -4096) = false := decide_eq_false (by omega)
  have d2 : decide (4096 < k) = false := decide_eq_false (by omega)
  have d3 : decide (k < 0) = false := decide_eq_false (by omega)
  go_enter Tryz.func10, Tryz.ntmps10
  go_wp2_with (first
    | (go_at_call 49; (have mk := t5); (refine (L2 _ _ _ _ (pf_parts t5).2.2).mono ?_); (rintro e w6 ⟨rfl, b6⟩); (have p6 := bel' p5 b6); (have t6 := t5.grow b6); (have KF6 := KF5.grow b6); (have f0 := KF6.c0); (have f1 := KF6.c1); (have f2 := KF6.c2); (have g0 := KF6.f0); (have g1 := KF6.f1); (have g2 := KF6.f2); (have K6 := K5.below b6 K5.lt); (have z0 := K6.at 0); (have z1 := K6.at 1); (have y0 := K6.free 0); (have y1 := K6.free 1); (simp at z0 z1))
    | (go_at_call 49; (have mk := t3); (refine (L1 _ _ _ _ (pf_parts t3).2.1).mono ?_); (rintro e w5 ⟨rfl, b5⟩); (have p5 := bel' p2 b5); (have t5 := t3.grow b5); (have KF5 := KF2.grow b5); (have f0 := KF5.c0); (have f1 := KF5.c1); (have f2 := KF5.c2); (have g0 := KF5.f0); (have g1 := KF5.f1); (have g2 := KF5.f2); (have K5 := K2.below b5 K2.lt); (have z0 := K5.at 0); (have z1 := K5.at 1); (have y0 := K5.free 0); (have y1 := K5.free 1); (simp at z0 z1))
    | (go_at_call 48; (have mk := t2); (have iz := IsZero_n (pf_parts t2).2.1); (rw [hz.out] at iz); (refine iz.mono ?_); (rintro e w2 ⟨rfl, b2⟩); (have p2 := bel' p1 b2); (have t3 := t2.grow b2); (have KF2 := KF.grow b2); (have f0 := KF2.c0); (have f1 := KF2.c1); (have f2 := KF2.c2); (have g0 := KF2.f0); (have g1 := KF2.f1); (have g2 := KF2.f2); (have K2 := K1.below b2 K1.lt); (have z0 := K2.at 0); (have z1 := K2.at 1); (have y0 := K2.free 0); (have y1 := K2.free 1); (simp at z0 z1))
    | (go_at_call 47; (refine (RE _ pr).mono ?_); (rintro e w1 ⟨g, a, l, c, a', l', c', rfl, t1, b1⟩); (have al1 := (Below.refl w1.heap.size w1).alloc (Nat.le_refl _) (.cells #[.bool g, .slice a l c, .slice a' l' c'] 67)); (have bb1 := bel' b1 al1); (have p1 := bel' pr bb1); (have KF := Rb.new w1 (.bool g) (.slice a l c) (.slice a' l' c') 67); (have f0 := KF.c0); (have f1 := KF.c1); (have f2 := KF.c2); (have g0 := KF.f0); (have g1 := KF.f1); (have g2 := KF.f2); (have t2 := t1.grow al1); (have K1 := KR.below bb1 KR.lt); (have z0 := K1.at 0); (have z1 := K1.at 1); (have y0 := K1.free 0); (have y1 := K1.free 1); (simp at z0 z1))
    | fail)
  have KE := bput (bput K6 0 (.string ⟨#[]⟩)) 1 (.string ⟨#[]⟩)
  have bE := (p6.setCell (p := ⟨w.heap.size + 1, 0, none⟩) (show w.heap.size ≤ w.heap.size + 1 by omega) (.string ⟨#[]⟩)).setCell (p := ⟨w.heap.size + 1, 1, none⟩) (show w.heap.size ≤ w.heap.size + 1 by omega) (.string ⟨#[]⟩)
  have q0 := KE.at 0
  have q1 := KE.at 1
  simp at q0 q1
  exact bodyPost_ret (v := .tuple #[.agg #[.string ⟨#[]⟩, .string ⟨#[]⟩], .int .i64 3]) (by simp [results, Tryz.results10, go_sem, q0, q1]) rfl ⟨rfl, bE⟩
set_option maxRecDepth 100000 in
set_option maxHeartbeats 6400000 in
theorem Pow_up_ok (n d : ByteArray) (k m : Int) (r : Rat) (t : Rat) (u v : ByteArray) (er : Int) (w : World) (h1 : -4096 ≤ k) (h2 : k ≤ 4096) (h : 0 ≤ k) (hm : k = m) (hz : Hid (decide ((r.num.natAbs : Int) = 0) = false)) (RE : ∀ x, Below w.heap.size w x → Calls Tryz.prog 47 #[.agg #[.string n, .string d]] x fun e w' => ∃ g a l c a' l' c', e = .returned (.tuple #[.agg #[.bool g, .slice a l c, .slice a' l' c'], .int .i64 0]) ∧ PF w' (.agg #[.bool g, .slice a l c, .slice a' l' c']) r ∧ Below x.heap.size x w') (L1 : ∀ x a l c, Nn x a l c ((r).num.natAbs : Int) → Calls Tryz.prog 49 #[.agg #[.slice a l c], .int .i64 m] x fun e w' => e = .returned (.bool false) ∧ Below x.heap.size x w') (L2 : ∀ x a l c, Nn x a l c ((r).den : Int) → Calls Tryz.prog 49 #[.agg #[.slice a l c], .int .i64 m] x fun e w' => e = .returned (.bool false) ∧ Below x.heap.size x w') (PO : ∀ x v, PF x v (r) → Calls Tryz.prog 50 #[v, .int .i64 m] x (Fa t x)) (RA : ∀ x y, Below w.heap.size w x → PF x y t → Calls Tryz.prog 44 #[y] x fun e w' => e = .returned (.tuple #[.agg #[.string u, .string v], .int .i64 er]) ∧ Below x.heap.size x w') : Calls Tryz.prog 10 #[.agg #[.string n, .string d], .int .i64 k] w fun e w' => e = .returned (.tuple #[.agg #[.string u, .string v], .int .i64 er]) ∧ Below w.heap.size w w' := by
  subst hm
  have KA := ((Blk.new w #[.string n, .string d] 23).alloc (.cells #[.string ⟨#[]⟩, .string ⟨#[]⟩] 23))
  have KR := (Blk.new (w.alloc (.cells #[.string n, .string d] 23)) #[.string ⟨#[]⟩, .string ⟨#[]⟩] 23)
  have pr : Below w.heap.size w ((w.alloc (.cells #[.string n, .string d] 23)).alloc (.cells #[.string ⟨#[]⟩, .string ⟨#[]⟩] 23)) := (((Below.refl _ _).alloc (by simp; try omega) _).alloc (by simp; try omega) _)
  simp only [World.size_alloc] at KR
  have d1 : decide (k < -4096) = false := decide_eq_false (by omega)
  have d2 : decide (4096 < k) = false := decide_eq_false (by omega)
  have d3 : decide (k < 0) = false := decide_eq_false (by omega)
  go_enter Tryz.func10, Tryz.ntmps10
  go_wp2_with (first
    | (go_at_call 44; (have mk := t7); (refine (RA _ _ p7 t7).mono ?_); (rintro e w8 ⟨rfl, b8⟩); (have p8 := bel' p7 b8); (have K8 := K7.below b8 K7.lt); (have z0 := K8.at 0); (have z1 := K8.at 1); (have y0 := K8.free 0); (have y1 := K8.free 1); (simp at z0 z1))
    | (go_at_call 50; (have mk := t6); (refine (PO _ _ t6).mono ?_); (rintro e w7 ⟨g7, a7, l7, c7, a7', l7', c7', rfl, t7, b7⟩); (have p7 := bel' p6 b7); (have K7 := K6.below b7 K6.lt); (have z0 := K7.at 0); (have z1 := K7.at 1); (have y0 := K7.free 0); (have y1 := K7.free 1); (simp at z0 z1))
    | (go_at_call 49; (have mk := t5); (refine (L2 _ _ _ _ (pf_parts t5).2.2).mono ?_); (rintro e w6 ⟨rfl, b6⟩); (have p6 := bel' p5 b6); (have t6 := t5.grow b6); (have KF6 := KF5.grow b6); (have f0 := KF6.c0); (have f1 := KF6.c1); (have f2 := KF6.c2); (have g0 := KF6.f0); (have g1 := KF6.f1); (have g2 := KF6.f2); (have K6 := K5.below b6 K5.lt); (have z0 := K6.at 0); (have z1 := K6.at 1); (have y0 := K6.free 0); (have y1 := K6.free 1); (simp at z0 z1))
    | (go_at_call 49; (have mk := t3); (refine (L1 _ _ _ _ (pf_parts t3).2.1).mono ?_); (rintro e w5 ⟨rfl, b5⟩); (have p5 := bel' p2 b5); (have t5 := t3.grow b5); (have KF5 := KF2.grow b5); (have f0 := KF5.c0); (have f1 := KF5.c1); (have f2 := KF5.c2); (have g0 := KF5.f0); (have g1 := KF5.f1); (have g2 := KF5.f2); (have K5 := K2.below b5 K2.lt); (have z0 := K5.at 0); (have z1 := K5.at 1); (have y0 := K5.free 0); (have y1 := K5.free 1); (simp at z0 z1))
    | (go_at_call 48; (have mk := t2); (have iz := IsZero_n (pf_parts t2).2.1); (rw [hz.out] at iz); (refine iz.mono ?_); (rintro e w2 ⟨rfl, b2⟩); (have p2 := bel' p1 b2); (have t3 := t2.grow b2); (have KF2 := KF.grow b2); (have f0 := KF2.c0); (have f1 := KF2.c1); (have f2 := KF2.c2); (have g0 := KF2.f0); (have g1 := KF2.f1); (have g2 := KF2.f2); (have K2 := K1.below b2 K1.lt); (have z0 := K2.at 0); (have z1 := K2.at 1); (have y0 := K2.free 0); (have y1 := K2.free 1); (simp at z0 z1))
    | (go_at_call 47; (refine (RE _ pr).mono ?_); (rintro e w1 ⟨g, a, l, c, a', l', c', rfl, t1, b1⟩); (have al1 := (Below.refl w1.heap.size w1).alloc (Nat.le_refl _) (.cells #[.bool g, .slice a l c, .slice a' l' c'] 67)); (have bb1 := bel' b1 al1); (have p1 := bel' pr bb1); (have KF := Rb.new w1 (.bool g) (.slice a l c) (.slice a' l' c') 67); (have f0 := KF.c0); (have f1 := KF.c1); (have f2 := KF.c2); (have g0 := KF.f0); (have g1 := KF.f1); (have g2 := KF.f2); (have t2 := t1.grow al1); (have K1 := KR.below bb1 KR.lt); (have z0 := K1.at 0); (have z1 := K1.at 1); (have y0 := K1.free 0); (have y1 := K1.free 1); (simp at z0 z1))
    | fail)
  have KE := bput (bput K8 0 (.string u)) 1 (.string v)
  have bE := (p8.setCell (p := ⟨w.heap.size + 1, 0, none⟩) (show w.heap.size ≤ w.heap.size + 1 by omega) (.string u)).setCell (p := ⟨w.heap.size + 1, 1, none⟩) (show w.heap.size ≤ w.heap.size + 1 by omega) (.string v)
  have q0 := KE.at 0
  have q1 := KE.at 1
  simp at q0 q1
  exact bodyPost_ret (v := .tuple #[.agg #[.string u, .string v], .int .i64 er]) (by simp [results, Tryz.results10, go_sem, q0, q1]) rfl ⟨rfl, bE⟩
set_option maxRecDepth 100000 in
set_option maxHeartbeats 6400000 in
theorem Pow_dn_l1 (n d : ByteArray) (k m : Int) (r : Rat) (w : World) (h1 : -4096 ≤ k) (h2 : k ≤ 4096) (h : k < 0) (hm : IntKind.i64.wrap (-k) = m) (r0 : r ≠ 0) (hz : Hid (decide ((r.num.natAbs : Int) = 0) = false)) (RE : ∀ x, Below w.heap.size w x → Calls Tryz.prog 47 #[.agg #[.string n, .string d]] x fun e w' => ∃ g a l c a' l' c', e = .returned (.tuple #[.agg #[.bool g, .slice a l c, .slice a' l' c'], .int .i64 0]) ∧ PF w' (.agg #[.bool g, .slice a l c, .slice a' l' c']) r ∧ Below x.heap.size x w') (L1 : ∀ x a l c, Nn x a l c ((r⁻¹).num.natAbs : Int) → Calls Tryz.prog 49 #[.agg #[.slice a l c], .int .i64 m] x fun e w' => e = .returned (.bool true) ∧ Below x.heap.size x w') : Calls Tryz.prog 10 #[.agg #[.string n, .string d], .int .i64 k] w fun e w' => e = .returned (.tuple #[.agg #[.string ⟨#[]⟩, .string ⟨#[]⟩], .int .i64 3]) ∧ Below w.heap.size w w' := by
  have KA := ((Blk.new w #[.string n, .string d] 23).alloc (.cells #[.string ⟨#[]⟩, .string ⟨#[]⟩] 23))
  have KR := (Blk.new (w.alloc (.cells #[.string n, .string d] 23)) #[.string ⟨#[]⟩, .string ⟨#[]⟩] 23)
  have pr : Below w.heap.size w ((w.alloc (.cells #[.string n, .string d] 23)).alloc (.cells #[.string ⟨#[]⟩, .string ⟨#[]⟩] 23)) := (((Below.refl _ _).alloc (by simp; try omega) _).alloc (by simp; try omega) _)
  simp only [World.size_alloc] at KR
  have d1 : decide (k < -4096) = false := decide_eq_false (by omega)
  have d2 : decide (4096 < k) = false := decide_eq_false (by omega)
  have d3 : decide (k < 0) = true := decide_eq_true h
  go_enter Tryz.func10, Tryz.ntmps10
  go_wp2_with (first
    | (go_at_call 49; (have mk := t4); (refine (L1 _ _ _ _ (pf_parts t4).2.1).mono ?_); (rintro e w5 ⟨rfl, b5⟩); (have p5 := bel' p4 b5); (have t5 := t4.grow b5); (have KF5 := KF4.grow b5); (have f0 := KF5.c0); (have f1 := KF5.c1); (have f2 := KF5.c2); (have g0 := KF5.f0); (have g1 := KF5.f1); (have g2 := KF5.f2); (have K5 := K4.below b5 K4.lt); (have z0 := K5.at 0); (have z1 := K5.at 1); (have y0 := K5.free 0); (have y1 := K5.free 1); (simp at z0 z1))
    | (go_at_call 43; (have mk := t3); (refine (Inverse_any _ _ _ _ _ _ _ _).mono ?_); (rintro e w3 ⟨rfl, b3⟩); (have p3 := bel' p2 b3); (have KF3 := KF2.grow b3); (have t4 := (pf_inv (t3.grow b3) r0).putF (x := .bool g) (y := .slice a' l' c') (z := .slice a l c) KF3); (have f0 := KF3.c0); (have f1 := KF3.c1); (have f2 := KF3.c2); (have g0 := KF3.f0); (have g1 := KF3.f1); (have g2 := KF3.f2); (have KF4 := KF3.sets (.bool g) (.slice a' l' c') (.slice a l c)); (have nF : w1.heap.size ≠ w.heap.size + 1 := by have := K1.lt; have := KR.lt; have := bb1.size; have := b1.size; simp at *; omega); (have K3 := K2.below b3 K2.lt); (have K4 := bskp (bskp (bskp K3 nF 0 (.bool g)) nF 1 (.slice a' l' c')) nF 2 (.slice a l c)); (have p4 := ((p3.setCell (p := ⟨w1.heap.size, 0, none⟩) (show w.heap.size ≤ w1.heap.size by have := pr.size; have := b1.size; omega) (.bool g)).setCell (p := ⟨w1.heap.size, 1, none⟩) (show w.heap.size ≤ w1.heap.size by have := pr.size; have := b1.size; omega) (.slice a' l' c')).setCell (p := ⟨w1.heap.size, 2, none⟩) (show w.heap.size ≤ w1.heap.size by have := pr.size; have := b1.size; omega) (.slice a l c)); (have v0 := KF4.c0); (have v1 := KF4.c1); (have v2 := KF4.c2))
    | (go_at_call 48; (have mk := t2); (have iz := IsZero_n (pf_parts t2).2.1); (rw [hz.out] at iz); (refine iz.mono ?_); (rintro e w2 ⟨rfl, b2⟩); (have p2 := bel' p1 b2); (have t3 := t2.grow b2); (have KF2 := KF.grow b2); (have f0 := KF2.c0); (have f1 := KF2.c1); (have f2 := KF2.c2); (have g0 := KF2.f0); (have g1 := KF2.f1); (have g2 := KF2.f2); (have K2 := K1.below b2 K1.lt); (have z0 := K2.at 0); (have z1 := K2.at 1); (have y0 := K2.free 0); (have y1 := K2.free 1); (simp at z0 z1))
    | (go_at_call 47; (refine (RE _ pr).mono ?_); (rintro e w1 ⟨g, a, l, c, a', l', c', rfl, t1, b1⟩); (have al1 := (Below.refl w1.heap.size w1).alloc (Nat.le_refl _) (.cells #[.bool g, .slice a l c, .slice a' l' c'] 67)); (have bb1 := bel' b1 al1); (have p1 := bel' pr bb1); (have KF := Rb.new w1 (.bool g) (.slice a l c) (.slice a' l' c') 67); (have f0 := KF.c0); (have f1 := KF.c1); (have f2 := KF.c2); (have g0 := KF.f0); (have g1 := KF.f1); (have g2 := KF.f2); (have t2 := t1.grow al1); (have K1 := KR.below bb1 KR.lt); (have z0 := K1.at 0); (have z1 := K1.at 1); (have y0 := K1.free 0); (have y1 := K1.free 1); (simp at z0 z1))
    | fail)
  have KE := bput (bput K5 0 (.string ⟨#[]⟩)) 1 (.string ⟨#[]⟩)
  have bE := (p5.setCell (p := ⟨w.heap.size + 1, 0, none⟩) (show w.heap.size ≤ w.heap.size + 1 by omega) (.string ⟨#[]⟩)).setCell (p := ⟨w.heap.size + 1, 1, none⟩) (show w.heap.size ≤ w.heap.size + 1 by omega) (.string ⟨#[]⟩)
  have q0 := KE.at 0
  have q1 := KE.at 1
  simp at q0 q1
  exact bodyPost_ret (v := .tuple #[.agg #[.string ⟨#[]⟩, .string ⟨#[]⟩], .int .i64 3]) (by simp [results, Tryz.results10, go_sem, q0, q1]) rfl ⟨rfl, bE⟩
set_option maxRecDepth 100000 in
set_option maxHeartbeats 6400000 in
theorem Pow_dn_l2 (n d : ByteArray) (k m : Int) (r : Rat) (w : World) (h1 : -4096 ≤ k) (h2 : k ≤ 4096) (h : k < 0) (hm : IntKind.i64.wrap (-k) = m) (r0 : r ≠ 0) (hz : Hid (decide ((r.num.natAbs : Int) = 0) = false)) (RE : ∀ x, Below w.heap.size w x → Calls Tryz.prog 47 #[.agg #[.string n, .string d]] x fun e w' => ∃ g a l c a' l' c', e = .returned (.tuple #[.agg #[.bool g, .slice a l c, .slice a' l' c'], .int .i64 0]) ∧ PF w' (.agg #[.bool g, .slice a l c, .slice a' l' c']) r ∧ Below x.heap.size x w') (L1 : ∀ x a l c, Nn x a l c ((r⁻¹).num.natAbs : Int) → Calls Tryz.prog 49 #[.agg #[.slice a l c], .int .i64 m] x fun e w' => e = .returned (.bool false) ∧ Below x.heap.size x w') (L2 : ∀ x a l c, Nn x a l c ((r⁻¹).den : Int) → Calls Tryz.prog 49 #[.agg #[.slice a l c], .int .i64 m] x fun e w' => e = .returned (.bool true) ∧ Below x.heap.size x w') : Calls Tryz.prog 10 #[.agg #[.string n, .string d], .int .i64 k] w fun e w' => e = .returned (.tuple #[.agg #[.string ⟨#[]⟩, .string ⟨#[]⟩], .int .i64 3]) ∧ Below w.heap.size w w' := by
  have KA := ((Blk.new w #[.string n, .string d] 23).alloc (.cells #[.string ⟨#[]⟩, .string ⟨#[]⟩] 23))
  have KR := (Blk.new (w.alloc (.cells #[.string n, .string d] 23)) #[.string ⟨#[]⟩, .string ⟨#[]⟩] 23)
  have pr : Below w.heap.size w ((w.alloc (.cells #[.string n, .string d] 23)).alloc (.cells #[.string ⟨#[]⟩, .string ⟨#[]⟩] 23)) := (((Below.refl _ _).alloc (by simp; try omega) _).alloc (by simp; try omega) _)
  simp only [World.size_alloc] at KR
  have d1 : decide (k < -4096) = false := decide_eq_false (by omega)
  have d2 : decide (4096 < k) = false := decide_eq_false (by omega)
  have d3 : decide (k < 0) = true := decide_eq_true h
  go_enter Tryz.func10, Tryz.ntmps10
  go_wp2_with (first
    | (go_at_call 49; (have mk := t5); (refine (L2 _ _ _ _ (pf_parts t5).2.2).mono ?_); (rintro e w6 ⟨rfl, b6⟩); (have p6 := bel' p5 b6); (have t6 := t5.grow b6); (have KF6 := KF5.grow b6); (have f0 := KF6.c0); (have f1 := KF6.c1); (have f2 := KF6.c2); (have g0 := KF6.f0); (have g1 := KF6.f1); (have g2 := KF6.f2); (have K6 := K5.below b6 K5.lt); (have z0 := K6.at 0); (have z1 := K6.at 1); (have y0 := K6.free 0); (have y1 := K6.free 1); (simp at z0 z1))
    | (go_at_call 49; (have mk := t4); (refine (L1 _ _ _ _ (pf_parts t4).2.1).mono ?_); (rintro e w5 ⟨rfl, b5⟩); (have p5 := bel' p4 b5); (have t5 := t4.grow b5); (have KF5 := KF4.grow b5); (have f0 := KF5.c0); (have f1 := KF5.c1); (have f2 := KF5.c2); (have g0 := KF5.f0); (have g1 := KF5.f1); (have g2 := KF5.f2); (have K5 := K4.below b5 K4.lt); (have z0 := K5.at 0); (have z1 := K5.at 1); (have y0 := K5.free 0); (have y1 := K5.free 1); (simp at z0 z1))
    | (go_at_call 43; (have mk := t3); (refine (Inverse_any _ _ _ _ _ _ _ _).mono ?_); (rintro e w3 ⟨rfl, b3⟩); (have p3 := bel' p2 b3); (have KF3 := KF2.grow b3); (have t4 := (pf_inv (t3.grow b3) r0).putF (x := .bool g) (y := .slice a' l' c') (z := .slice a l c) KF3); (have f0 := KF3.c0); (have f1 := KF3.c1); (have f2 := KF3.c2); (have g0 := KF3.f0); (have g1 := KF3.f1); (have g2 := KF3.f2); (have KF4 := KF3.sets (.bool g) (.slice a' l' c') (.slice a l c)); (have nF : w1.heap.size ≠ w.heap.size + 1 := by have := K1.lt; have := KR.lt; have := bb1.size; have := b1.size; simp at *; omega); (have K3 := K2.below b3 K2.lt); (have K4 := bskp (bskp (bskp K3 nF 0 (.bool g)) nF 1 (.slice a' l' c')) nF 2 (.slice a l c)); (have p4 := ((p3.setCell (p := ⟨w1.heap.size, 0, none⟩) (show w.heap.size ≤ w1.heap.size by have := pr.size; have := b1.size; omega) (.bool g)).setCell (p := ⟨w1.heap.size, 1, none⟩) (show w.heap.size ≤ w1.heap.size by have := pr.size; have := b1.size; omega) (.slice a' l' c')).setCell (p := ⟨w1.heap.size, 2, none⟩) (show w.heap.size ≤ w1.heap.size by have := pr.size; have := b1.size; omega) (.slice a l c)); (have v0 := KF4.c0); (have v1 := KF4.c1); (have v2 := KF4.c2))
    | (go_at_call 48; (have mk := t2); (have iz := IsZero_n (pf_parts t2).2.1); (rw [hz.out] at iz); (refine iz.mono ?_); (rintro e w2 ⟨rfl, b2⟩); (have p2 := bel' p1 b2); (have t3 := t2.grow b2); (have KF2 := KF.grow b2); (have f0 := KF2.c0); (have f1 := KF2.c1); (have f2 := KF2.c2); (have g0 := KF2.f0); (have g1 := KF2.f1); (have g2 := KF2.f2); (have K2 := K1.below b2 K1.lt); (have z0 := K2.at 0); (have z1 := K2.at 1); (have y0 := K2.free 0); (have y1 := K2.free 1); (simp at z0 z1))
    | (go_at_call 47; (refine (RE _ pr).mono ?_); (rintro e w1 ⟨g, a, l, c, a', l', c', rfl, t1, b1⟩); (have al1 := (Below.refl w1.heap.size w1).alloc (Nat.le_refl _) (.cells #[.bool g, .slice a l c, .slice a' l' c'] 67)); (have bb1 := bel' b1 al1); (have p1 := bel' pr bb1); (have KF := Rb.new w1 (.bool g) (.slice a l c) (.slice a' l' c') 67); (have f0 := KF.c0); (have f1 := KF.c1); (have f2 := KF.c2); (have g0 := KF.f0); (have g1 := KF.f1); (have g2 := KF.f2); (have t2 := t1.grow al1); (have K1 := KR.below bb1 KR.lt); (have z0 := K1.at 0); (have z1 := K1.at 1); (have y0 := K1.free 0); (have y1 := K1.free 1); (simp at z0 z1))
    | fail)
  have KE := bput (bput K6 0 (.string ⟨#[]⟩)) 1 (.string ⟨#[]⟩)
  have bE := (p6.setCell (p := ⟨w.heap.size + 1, 0, none⟩) (show w.heap.size ≤ w.heap.size + 1 by omega) (.string ⟨#[]⟩)).setCell (p := ⟨w.heap.size + 1, 1, none⟩) (show w.heap.size ≤ w.heap.size + 1 by omega) (.string ⟨#[]⟩)
  have q0 := KE.at 0
  have q1 := KE.at 1
  simp at q0 q1
  exact bodyPost_ret (v := .tuple #[.agg #[.string ⟨#[]⟩, .string ⟨#[]⟩], .int .i64 3]) (by simp [results, Tryz.results10, go_sem, q0, q1]) rfl ⟨rfl, bE⟩
set_option maxRecDepth 100000 in
set_option maxHeartbeats 6400000 in
theorem Pow_dn_ok (n d : ByteArray) (k m : Int) (r : Rat) (t : Rat) (u v : ByteArray) (er : Int) (w : World) (h1 : -4096 ≤ k) (h2 : k ≤ 4096) (h : k < 0) (hm : IntKind.i64.wrap (-k) = m) (r0 : r ≠ 0) (hz : Hid (decide ((r.num.natAbs : Int) = 0) = false)) (RE : ∀ x, Below w.heap.size w x → Calls Tryz.prog 47 #[.agg #[.string n, .string d]] x fun e w' => ∃ g a l c a' l' c', e = .returned (.tuple #[.agg #[.bool g, .slice a l c, .slice a' l' c'], .int .i64 0]) ∧ PF w' (.agg #[.bool g, .slice a l c, .slice a' l' c']) r ∧ Below x.heap.size x w') (L1 : ∀ x a l c, Nn x a l c ((r⁻¹).num.natAbs : Int) → Calls Tryz.prog 49 #[.agg #[.slice a l c], .int .i64 m] x fun e w' => e = .returned (.bool false) ∧ Below x.heap.size x w') (L2 : ∀ x a l c, Nn x a l c ((r⁻¹).den : Int) → Calls Tryz.prog 49 #[.agg #[.slice a l c], .int .i64 m] x fun e w' => e = .returned (.bool false) ∧ Below x.heap.size x w') (PO : ∀ x v, PF x v (r⁻¹) → Calls Tryz.prog 50 #[v, .int .i64 m] x (Fa t x)) (RA : ∀ x y, Below w.heap.size w x → PF x y t → Calls Tryz.prog 44 #[y] x fun e w' => e = .returned (.tuple #[.agg #[.string u, .string v], .int .i64 er]) ∧ Below x.heap.size x w') : Calls Tryz.prog 10 #[.agg #[.string n, .string d], .int .i64 k] w fun e w' => e = .returned (.tuple #[.agg #[.string u, .string v], .int .i64 er]) ∧ Below w.heap.size w w' := by
  have KA := ((Blk.new w #[.string n, .string d] 23).alloc (.cells #[.string ⟨#[]⟩, .string ⟨#[]⟩] 23))
  have KR := (Blk.new (w.alloc (.cells #[.string n, .string d] 23)) #[.string ⟨#[]⟩, .string ⟨#[]⟩] 23)
  have pr : Below w.heap.size w ((w.alloc (.cells #[.string n, .string d] 23)).alloc (.cells #[.string ⟨#[]⟩, .string ⟨#[]⟩] 23)) := (((Below.refl _ _).alloc (by simp; try omega) _).alloc (by simp; try omega) _)
  simp only [World.size_alloc] at KR
  have d1 : decide (k < -4096) = false := decide_eq_false (by omega)
  have d2 : decide (4096 < k) = false := decide_eq_false (by omega)
  have d3 : decide (k < 0) = true := decide_eq_true h
  go_enter Tryz.func10, Tryz.ntmps10
  go_wp2_with (first
    | (go_at_call 44; (have mk := t7); (refine (RA _ _ p7 t7).mono ?_); (rintro e w8 ⟨rfl, b8⟩); (have p8 := bel' p7 b8); (have K8 := K7.below b8 K7.lt); (have z0 := K8.at 0); (have z1 := K8.at 1); (have y0 := K8.free 0); (have y1 := K8.free 1); (simp at z0 z1))
    | (go_at_call 50; (have mk := t6); (refine (PO _ _ t6).mono ?_); (rintro e w7 ⟨g7, a7, l7, c7, a7', l7', c7', rfl, t7, b7⟩); (have p7 := bel' p6 b7); (have K7 := K6.below b7 K6.lt); (have z0 := K7.at 0); (have z1 := K7.at 1); (have y0 := K7.free 0); (have y1 := K7.free 1); (simp at z0 z1))
    | (go_at_call 49; (have mk := t5); (refine (L2 _ _ _ _ (pf_parts t5).2.2).mono ?_); (rintro e w6 ⟨rfl, b6⟩); (have p6 := bel' p5 b6); (have t6 := t5.grow b6); (have KF6 := KF5.grow b6); (have f0 := KF6.c0); (have f1 := KF6.c1); (have f2 := KF6.c2); (have g0 := KF6.f0); (have g1 := KF6.f1); (have g2 := KF6.f2); (have K6 := K5.below b6 K5.lt); (have z0 := K6.at 0); (have z1 := K6.at 1); (have y0 := K6.free 0); (have y1 := K6.free 1); (simp at z0 z1))
    | (go_at_call 49; (have mk := t4); (refine (L1 _ _ _ _ (pf_parts t4).2.1).mono ?_); (rintro e w5 ⟨rfl, b5⟩); (have p5 := bel' p4 b5); (have t5 := t4.grow b5); (have KF5 := KF4.grow b5); (have f0 := KF5.c0); (have f1 := KF5.c1); (have f2 := KF5.c2); (have g0 := KF5.f0); (have g1 := KF5.f1); (have g2 := KF5.f2); (have K5 := K4.below b5 K4.lt); (have z0 := K5.at 0); (have z1 := K5.at 1); (have y0 := K5.free 0); (have y1 := K5.free 1); (simp at z0 z1))
    | (go_at_call 43; (have mk := t3); (refine (Inverse_any _ _ _ _ _ _ _ _).mono ?_); (rintro e w3 ⟨rfl, b3⟩); (have p3 := bel' p2 b3); (have KF3 := KF2.grow b3); (have t4 := (pf_inv (t3.grow b3) r0).putF (x := .bool g) (y := .slice a' l' c') (z := .slice a l c) KF3); (have f0 := KF3.c0); (have f1 := KF3.c1); (have f2 := KF3.c2); (have g0 := KF3.f0); (have g1 := KF3.f1); (have g2 := KF3.f2); (have KF4 := KF3.sets (.bool g) (.slice a' l' c') (.slice a l c)); (have nF : w1.heap.size ≠ w.heap.size + 1 := by have := K1.lt; have := KR.lt; have := bb1.size; have := b1.size; simp at *; omega); (have K3 := K2.below b3 K2.lt); (have K4 := bskp (bskp (bskp K3 nF 0 (.bool g)) nF 1 (.slice a' l' c')) nF 2 (.slice a l c)); (have p4 := ((p3.setCell (p := ⟨w1.heap.size, 0, none⟩) (show w.heap.size ≤ w1.heap.size by have := pr.size; have := b1.size; omega) (.bool g)).setCell (p := ⟨w1.heap.size, 1, none⟩) (show w.heap.size ≤ w1.heap.size by have := pr.size; have := b1.size; omega) (.slice a' l' c')).setCell (p := ⟨w1.heap.size, 2, none⟩) (show w.heap.size ≤ w1.heap.size by have := pr.size; have := b1.size; omega) (.slice a l c)); (have v0 := KF4.c0); (have v1 := KF4.c1); (have v2 := KF4.c2))
    | (go_at_call 48; (have mk := t2); (have iz := IsZero_n (pf_parts t2).2.1); (rw [hz.out] at iz); (refine iz.mono ?_); (rintro e w2 ⟨rfl, b2⟩); (have p2 := bel' p1 b2); (have t3 := t2.grow b2); (have KF2 := KF.grow b2); (have f0 := KF2.c0); (have f1 := KF2.c1); (have f2 := KF2.c2); (have g0 := KF2.f0); (have g1 := KF2.f1); (have g2 := KF2.f2); (have K2 := K1.below b2 K1.lt); (have z0 := K2.at 0); (have z1 := K2.at 1); (have y0 := K2.free 0); (have y1 := K2.free 1); (simp at z0 z1))
    | (go_at_call 47; (refine (RE _ pr).mono ?_); (rintro e w1 ⟨g, a, l, c, a', l', c', rfl, t1, b1⟩); (have al1 := (Below.refl w1.heap.size w1).alloc (Nat.le_refl _) (.cells #[.bool g, .slice a l c, .slice a' l' c'] 67)); (have bb1 := bel' b1 al1); (have p1 := bel' pr bb1); (have KF := Rb.new w1 (.bool g) (.slice a l c) (.slice a' l' c') 67); (have f0 := KF.c0); (have f1 := KF.c1); (have f2 := KF.c2); (have g0 := KF.f0); (have g1 := KF.f1); (have g2 := KF.f2); (have t2 := t1.grow al1); (have K1 := KR.below bb1 KR.lt); (have z0 := K1.at 0); (have z1 := K1.at 1); (have y0 := K1.free 0); (have y1 := K1.free 1); (simp at z0 z1))
    | fail)
  have KE := bput (bput K8 0 (.string u)) 1 (.string v)
  have bE := (p8.setCell (p := ⟨w.heap.size + 1, 0, none⟩) (show w.heap.size ≤ w.heap.size + 1 by omega) (.string u)).setCell (p := ⟨w.heap.size + 1, 1, none⟩) (show w.heap.size ≤ w.heap.size + 1 by omega) (.string v)
  have q0 := KE.at 0
  have q1 := KE.at 1
  simp at q0 q1
  exact bodyPost_ret (v := .tuple #[.agg #[.string u, .string v], .int .i64 er]) (by simp [results, Tryz.results10, go_sem, q0, q1]) rfl ⟨rfl, bE⟩
set_option maxRecDepth 100000 in
set_option maxHeartbeats 6400000 in
theorem Pow_upz_l1 (n d : ByteArray) (k m : Int) (r : Rat) (w : World) (h1 : -4096 ≤ k) (h2 : k ≤ 4096) (h : 0 ≤ k) (hm : k = m) (hz : Hid (decide ((r.num.natAbs : Int) = 0) = true)) (RE : ∀ x, Below w.heap.size w x → Calls Tryz.prog 47 #[.agg #[.string n, .string d]] x fun e w' => ∃ g a l c a' l' c', e = .returned (.tuple #[.agg #[.bool g, .slice a l c, .slice a' l' c'], .int .i64 0]) ∧ PF w' (.agg #[.bool g, .slice a l c, .slice a' l' c']) r ∧ Below x.heap.size x w') (L1 : ∀ x a l c, Nn x a l c ((r).num.natAbs : Int) → Calls Tryz.prog 49 #[.agg #[.slice a l c], .int .i64 m] x fun e w' => e = .returned (.bool true) ∧ Below x.heap.size x w') : Calls Tryz.prog 10 #[.agg #[.string n, .string d], .int .i64 k] w fun e w' => e = .returned (.tuple #[.agg #[.string ⟨#[]⟩, .string ⟨#[]⟩], .int .i64 3]) ∧ Below w.heap.size w w' := by
  subst hm
  have KA := ((Blk.new w #[.string n, .string d] 23).alloc (.cells #[.string ⟨#[]⟩, .string ⟨#[]⟩] 23))
  have KR := (Blk.new (w.alloc (.cells #[.string n, .string d] 23)) #[.string ⟨#[]⟩, .string ⟨#[]⟩] 23)
  have pr : Below w.heap.size w ((w.alloc (.cells #[.string n, .string d] 23)).alloc (.cells #[.string ⟨#[]⟩, .string ⟨#[]⟩] 23)) := (((Below.refl _ _).alloc (by simp; try omega) _).alloc (by simp; try omega) _)
  simp only [World.size_alloc] at KR
  have d1 : decide (k < -4096) = false := decide_eq_false (by omega)
  have d2 : decide (4096 < k) = false := decide_eq_false (by omega)
  have d3 : decide (k < 0) = false := decide_eq_false (by omega)
  go_enter Tryz.func10, Tryz.ntmps10
  go_wp2_with (first
    | (go_at_call 49; (have mk := t3); (refine (L1 _ _ _ _ (pf_parts t3).2.1).mono ?_); (rintro e w5 ⟨rfl, b5⟩); (have p5 := bel' p2 b5); (have t5 := t3.grow b5); (have KF5 := KF2.grow b5); (have f0 := KF5.c0); (have f1 := KF5.c1); (have f2 := KF5.c2); (have g0 := KF5.f0); (have g1 := KF5.f1); (have g2 := KF5.f2); (have K5 := K2.below b5 K2.lt); (have z0 := K5.at 0); (have z1 := K5.at 1); (have y0 := K5.free 0); (have y1 := K5.free 1); (simp at z0 z1))
    | (go_at_call 48; (have mk := t2); (have iz := IsZero_n (pf_parts t2).2.1); (rw [hz.out] at iz); (refine iz.mono ?_); (rintro e w2 ⟨rfl, b2⟩); (have p2 := bel' p1 b2); (have t3 := t2.grow b2); (have KF2 := KF.grow b2); (have f0 := KF2.c0); (have f1 := KF2.c1); (have f2 := KF2.c2); (have g0 := KF2.f0); (have g1 := KF2.f1); (have g2 := KF2.f2); (have K2 := K1.below b2 K1.lt); (have z0 := K2.at 0); (have z1 := K2.at 1); (have y0 := K2.free 0); (have y1 := K2.free 1); (simp at z0 z1))
    | (go_at_call 47; (refine (RE _ pr).mono ?_); (rintro e w1 ⟨g, a, l, c, a', l', c', rfl, t1, b1⟩); (have al1 := (Below.refl w1.heap.size w1).alloc (Nat.le_refl _) (.cells #[.bool g, .slice a l c, .slice a' l' c'] 67)); (have bb1 := bel' b1 al1); (have p1 := bel' pr bb1); (have KF := Rb.new w1 (.bool g) (.slice a l c) (.slice a' l' c') 67); (have f0 := KF.c0); (have f1 := KF.c1); (have f2 := KF.c2); (have g0 := KF.f0); (have g1 := KF.f1); (have g2 := KF.f2); (have t2 := t1.grow al1); (have K1 := KR.below bb1 KR.lt); (have z0 := K1.at 0); (have z1 := K1.at 1); (have y0 := K1.free 0); (have y1 := K1.free 1); (simp at z0 z1))
    | fail)
  have KE := bput (bput K5 0 (.string ⟨#[]⟩)) 1 (.string ⟨#[]⟩)
  have bE := (p5.setCell (p := ⟨w.heap.size + 1, 0, none⟩) (show w.heap.size ≤ w.heap.size + 1 by omega) (.string ⟨#[]⟩)).setCell (p := ⟨w.heap.size + 1, 1, none⟩) (show w.heap.size ≤ w.heap.size + 1 by omega) (.string ⟨#[]⟩)
  have q0 := KE.at 0
  have q1 := KE.at 1
  simp at q0 q1
  exact bodyPost_ret (v := .tuple #[.agg #[.string ⟨#[]⟩, .string ⟨#[]⟩], .int .i64 3]) (by simp [results, Tryz.results10, go_sem, q0, q1]) rfl ⟨rfl, bE⟩
set_option maxRecDepth 100000 in
set_option maxHeartbeats 6400000 in
theorem Pow_upz_l2 (n d : ByteArray) (k m : Int) (r : Rat) (w : World) (h1 : -4096 ≤ k) (h2 : k ≤ 4096) (h : 0 ≤ k) (hm : k = m) (hz : Hid (decide ((r.num.natAbs : Int) = 0) = true)) (RE : ∀ x, Below w.heap.size w x → Calls Tryz.prog 47 #[.agg #[.string n, .string d]] x fun e w' => ∃ g a l c a' l' c', e = .returned (.tuple #[.agg #[.bool g, .slice a l c, .slice a' l' c'], .int .i64 0]) ∧ PF w' (.agg #[.bool g, .slice a l c, .slice a' l' c']) r ∧ Below x.heap.size x w') (L1 : ∀ x a l c, Nn x a l c ((r).num.natAbs : Int) → Calls Tryz.prog 49 #[.agg #[.slice a l c], .int .i64 m] x fun e w' => e = .returned (.bool false) ∧ Below x.heap.size x w') (L2 : ∀ x a l c, Nn x a l c ((r).den : Int) → Calls Tryz.prog 49 #[.agg #[.slice a l c], .int .i64 m] x fun e w' => e = .returned (.bool true) ∧ Below x.heap.size x w') : Calls Tryz.prog 10 #[.agg #[.string n, .string d], .int .i64 k] w fun e w' => e = .returned (.tuple #[.agg #[.string ⟨#[]⟩, .string ⟨#[]⟩], .int .i64 3]) ∧ Below w.heap.size w w' := by
  subst hm
  have KA := ((Blk.new w #[.string n, .string d] 23).alloc (.cells #[.string ⟨#[]⟩, .string ⟨#[]⟩] 23))
  have KR := (Blk.new (w.alloc (.cells #[.string n, .string d] 23)) #[.string ⟨#[]⟩, .string ⟨#[]⟩] 23)
  have pr : Below w.heap.size w ((w.alloc (.cells #[.string n, .string d] 23)).alloc (.cells #[.string ⟨#[]⟩, .string ⟨#[]⟩] 23)) := (((Below.refl _ _).alloc (by simp; try omega) _).alloc (by simp; try omega) _)
  simp only [World.size_alloc] at KR
  have d1 : decide (k < -4096) = false := decide_eq_false (by omega)
  have d2 : decide (4096 < k) = false := decide_eq_false (by omega)
  have d3 : decide (k < 0) = false := decide_eq_false (by omega)
  go_enter Tryz.func10, Tryz.ntmps10
  go_wp2_with (first
    | (go_at_call 49; (have mk := t5); (refine (L2 _ _ _ _ (pf_parts t5).2.2).mono ?_); (rintro e w6 ⟨rfl, b6⟩); (have p6 := bel' p5 b6); (have t6 := t5.grow b6); (have KF6 := KF5.grow b6); (have f0 := KF6.c0); (have f1 := KF6.c1); (have f2 := KF6.c2); (have g0 := KF6.f0); (have g1 := KF6.f1); (have g2 := KF6.f2); (have K6 := K5.below b6 K5.lt); (have z0 := K6.at 0); (have z1 := K6.at 1); (have y0 := K6.free 0); (have y1 := K6.free 1); (simp at z0 z1))
    | (go_at_call 49; (have mk := t3); (refine (L1 _ _ _ _ (pf_parts t3).2.1).mono ?_); (rintro e w5 ⟨rfl, b5⟩); (have p5 := bel' p2 b5); (have t5 := t3.grow b5); (have KF5 := KF2.grow b5); (have f0 := KF5.c0); (have f1 := KF5.c1); (have f2 := KF5.c2); (have g0 := KF5.f0); (have g1 := KF5.f1); (have g2 := KF5.f2); (have K5 := K2.below b5 K2.lt); (have z0 := K5.at 0); (have z1 := K5.at 1); (have y0 := K5.free 0); (have y1 := K5.free 1); (simp at z0 z1))
    | (go_at_call 48; (have mk := t2); (have iz := IsZero_n (pf_parts t2).2.1); (rw [hz.out] at iz); (refine iz.mono ?_); (rintro e w2 ⟨rfl, b2⟩); (have p2 := bel' p1 b2); (have t3 := t2.grow b2); (have KF2 := KF.grow b2); (have f0 := KF2.c0); (have f1 := KF2.c1); (have f2 := KF2.c2); (have g0 := KF2.f0); (have g1 := KF2.f1); (have g2 := KF2.f2); (have K2 := K1.below b2 K1.lt); (have z0 := K2.at 0); (have z1 := K2.at 1); (have y0 := K2.free 0); (have y1 := K2.free 1); (simp at z0 z1))
    | (go_at_call 47; (refine (RE _ pr).mono ?_); (rintro e w1 ⟨g, a, l, c, a', l', c', rfl, t1, b1⟩); (have al1 := (Below.refl w1.heap.size w1).alloc (Nat.le_refl _) (.cells #[.bool g, .slice a l c, .slice a' l' c'] 67)); (have bb1 := bel' b1 al1); (have p1 := bel' pr bb1); (have KF := Rb.new w1 (.bool g) (.slice a l c) (.slice a' l' c') 67); (have f0 := KF.c0); (have f1 := KF.c1); (have f2 := KF.c2); (have g0 := KF.f0); (have g1 := KF.f1); (have g2 := KF.f2); (have t2 := t1.grow al1); (have K1 := KR.below bb1 KR.lt); (have z0 := K1.at 0); (have z1 := K1.at 1); (have y0 := K1.free 0); (have y1 := K1.free 1); (simp at z0 z1))
    | fail)
  have KE := bput (bput K6 0 (.string ⟨#[]⟩)) 1 (.string ⟨#[]⟩)
  have bE := (p6.setCell (p := ⟨w.heap.size + 1, 0, none⟩) (show w.heap.size ≤ w.heap.size + 1 by omega) (.string ⟨#[]⟩)).setCell (p := ⟨w.heap.size + 1, 1, none⟩) (show w.heap.size ≤ w.heap.size + 1 by omega) (.string ⟨#[]⟩)
  have q0 := KE.at 0
  have q1 := KE.at 1
  simp at q0 q1
  exact bodyPost_ret (v := .tuple #[.agg #[.string ⟨#[]⟩, .string ⟨#[]⟩], .int .i64 3]) (by simp [results, Tryz.results10, go_sem, q0, q1]) rfl ⟨rfl, bE⟩
set_option maxRecDepth 100000 in
set_option maxHeartbeats 6400000 in
theorem Pow_upz_ok (n d : ByteArray) (k m : Int) (r : Rat) (t : Rat) (u v : ByteArray) (er : Int) (w : World) (h1 : -4096 ≤ k) (h2 : k ≤ 4096) (h : 0 ≤ k) (hm : k = m) (hz : Hid (decide ((r.num.natAbs : Int) = 0) = true)) (RE : ∀ x, Below w.heap.size w x → Calls Tryz.prog 47 #[.agg #[.string n, .string d]] x fun e w' => ∃ g a l c a' l' c', e = .returned (.tuple #[.agg #[.bool g, .slice a l c, .slice a' l' c'], .int .i64 0]) ∧ PF w' (.agg #[.bool g, .slice a l c, .slice a' l' c']) r ∧ Below x.heap.size x w') (L1 : ∀ x a l c, Nn x a l c ((r).num.natAbs : Int) → Calls Tryz.prog 49 #[.agg #[.slice a l c], .int .i64 m] x fun e w' => e = .returned (.bool false) ∧ Below x.heap.size x w') (L2 : ∀ x a l c, Nn x a l c ((r).den : Int) → Calls Tryz.prog 49 #[.agg #[.slice a l c], .int .i64 m] x fun e w' => e = .returned (.bool false) ∧ Below x.heap.size x w') (PO : ∀ x v, PF x v (r) → Calls Tryz.prog 50 #[v, .int .i64 m] x (Fa t x)) (RA : ∀ x y, Below w.heap.size w x → PF x y t → Calls Tryz.prog 44 #[y] x fun e w' => e = .returned (.tuple #[.agg #[.string u, .string v], .int .i64 er]) ∧ Below x.heap.size x w') : Calls Tryz.prog 10 #[.agg #[.string n, .string d], .int .i64 k] w fun e w' => e = .returned (.tuple #[.agg #[.string u, .string v], .int .i64 er]) ∧ Below w.heap.size w w' := by
  subst hm
  have KA := ((Blk.new w #[.string n, .string d] 23).alloc (.cells #[.string ⟨#[]⟩, .string ⟨#[]⟩] 23))
  have KR := (Blk.new (w.alloc (.cells #[.string n, .string d] 23)) #[.string ⟨#[]⟩, .string ⟨#[]⟩] 23)
  have pr : Below w.heap.size w ((w.alloc (.cells #[.string n, .string d] 23)).alloc (.cells #[.string ⟨#[]⟩, .string ⟨#[]⟩] 23)) := (((Below.refl _ _).alloc (by simp; try omega) _).alloc (by simp; try omega) _)
  simp only [World.size_alloc] at KR
  have d1 : decide (k < -4096) = false := decide_eq_false (by omega)
  have d2 : decide (4096 < k) = false := decide_eq_false (by omega)
  have d3 : decide (k < 0) = false := decide_eq_false (by omega)
  go_enter Tryz.func10, Tryz.ntmps10
  go_wp2_with (first
    | (go_at_call 44; (have mk := t7); (refine (RA _ _ p7 t7).mono ?_); (rintro e w8 ⟨rfl, b8⟩); (have p8 := bel' p7 b8); (have K8 := K7.below b8 K7.lt); (have z0 := K8.at 0); (have z1 := K8.at 1); (have y0 := K8.free 0); (have y1 := K8.free 1); (simp at z0 z1))
    | (go_at_call 50; (have mk := t6); (refine (PO _ _ t6).mono ?_); (rintro e w7 ⟨g7, a7, l7, c7, a7', l7', c7', rfl, t7, b7⟩); (have p7 := bel' p6 b7); (have K7 := K6.below b7 K6.lt); (have z0 := K7.at 0); (have z1 := K7.at 1); (have y0 := K7.free 0); (have y1 := K7.free 1); (simp at z0 z1))
    | (go_at_call 49; (have mk := t5); (refine (L2 _ _ _ _ (pf_parts t5).2.2).mono ?_); (rintro e w6 ⟨rfl, b6⟩); (have p6 := bel' p5 b6); (have t6 := t5.grow b6); (have KF6 := KF5.grow b6); (have f0 := KF6.c0); (have f1 := KF6.c1); (have f2 := KF6.c2); (have g0 := KF6.f0); (have g1 := KF6.f1); (have g2 := KF6.f2); (have K6 := K5.below b6 K5.lt); (have z0 := K6.at 0); (have z1 := K6.at 1); (have y0 := K6.free 0); (have y1 := K6.free 1); (simp at z0 z1))
    | (go_at_call 49; (have mk := t3); (refine (L1 _ _ _ _ (pf_parts t3).2.1).mono ?_); (rintro e w5 ⟨rfl, b5⟩); (have p5 := bel' p2 b5); (have t5 := t3.grow b5); (have KF5 := KF2.grow b5); (have f0 := KF5.c0); (have f1 := KF5.c1); (have f2 := KF5.c2); (have g0 := KF5.f0); (have g1 := KF5.f1); (have g2 := KF5.f2); (have K5 := K2.below b5 K2.lt); (have z0 := K5.at 0); (have z1 := K5.at 1); (have y0 := K5.free 0); (have y1 := K5.free 1); (simp at z0 z1))
    | (go_at_call 48; (have mk := t2); (have iz := IsZero_n (pf_parts t2).2.1); (rw [hz.out] at iz); (refine iz.mono ?_); (rintro e w2 ⟨rfl, b2⟩); (have p2 := bel' p1 b2); (have t3 := t2.grow b2); (have KF2 := KF.grow b2); (have f0 := KF2.c0); (have f1 := KF2.c1); (have f2 := KF2.c2); (have g0 := KF2.f0); (have g1 := KF2.f1); (have g2 := KF2.f2); (have K2 := K1.below b2 K1.lt); (have z0 := K2.at 0); (have z1 := K2.at 1); (have y0 := K2.free 0); (have y1 := K2.free 1); (simp at z0 z1))
    | (go_at_call 47; (refine (RE _ pr).mono ?_); (rintro e w1 ⟨g, a, l, c, a', l', c', rfl, t1, b1⟩); (have al1 := (Below.refl w1.heap.size w1).alloc (Nat.le_refl _) (.cells #[.bool g, .slice a l c, .slice a' l' c'] 67)); (have bb1 := bel' b1 al1); (have p1 := bel' pr bb1); (have KF := Rb.new w1 (.bool g) (.slice a l c) (.slice a' l' c') 67); (have f0 := KF.c0); (have f1 := KF.c1); (have f2 := KF.c2); (have g0 := KF.f0); (have g1 := KF.f1); (have g2 := KF.f2); (have t2 := t1.grow al1); (have K1 := KR.below bb1 KR.lt); (have z0 := K1.at 0); (have z1 := K1.at 1); (have y0 := K1.free 0); (have y1 := K1.free 1); (simp at z0 z1))
    | fail)
  have KE := bput (bput K8 0 (.string u)) 1 (.string v)
  have bE := (p8.setCell (p := ⟨w.heap.size + 1, 0, none⟩) (show w.heap.size ≤ w.heap.size + 1 by omega) (.string u)).setCell (p := ⟨w.heap.size + 1, 1, none⟩) (show w.heap.size ≤ w.heap.size + 1 by omega) (.string v)
  have q0 := KE.at 0
  have q1 := KE.at 1
  simp at q0 q1
  exact bodyPost_ret (v := .tuple #[.agg #[.string u, .string v], .int .i64 er]) (by simp [results, Tryz.results10, go_sem, q0, q1]) rfl ⟨rfl, bE⟩
end Go.Proofs.YtebilgnmnambnaaGreatDoor.Mo

namespace Go.Proofs.YtebilgnmnambnaaGreatDoor.Mo
open Go.RowKit Fu Tn Go.Lib Wt Ip

theorem nb_lt {V m : Nat} (h : (V : Int) < pw m) : nb V ≤ 64 * m := by
  rw [pw_64] at h
  exact nb_le (Int.ofNat_lt.1 h)
set_option maxRecDepth 100000 in
set_option maxHeartbeats 1600000 in
/-- powerIsLong. -/
theorem long_n (a : Option Addr) (l c V : Nat) (n : Int) (w : World) (h : Nn w a l c (V : Int)) (hV : (V : Int) < pw 256) (n0 : 0 ≤ n) (n1 : n ≤ 4096) :
    Calls Tryz.prog 49 #[.agg #[.slice a l c], .int .i64 n] w fun e w' => e = .returned (.bool (decide (13654 < ((nb V : Int) - 1) * n))) ∧ Below w.heap.size w w' := by
  have B : ∀ x, Below w.heap.size w x → Calls Tryz.prog 111 #[.agg #[.slice a l c]] x fun e w' => e = .returned (.int .i64 (nb V)) ∧ Below x.heap.size x w' := fun x b => BitLen_n (h.grow b) hV (by decide)
  have pr : Below w.heap.size w (w.alloc (.cells #[.slice a l c] 65)) := (Below.refl _ _).alloc (Nat.le_refl _) _
  have nbb : nb V ≤ 64 * 256 := nb_lt hV
  obtain ⟨b, hb⟩ : ∃ b : Int, (nb V : Int) = b := ⟨_, rfl⟩
  rw [hb]
  simp only [hb] at B
  have b0 : 0 ≤ b := by omega
  have b1 : b ≤ 16384 := by omega
  clear hb nbb
  obtain ⟨s, hs⟩ : ∃ s, b - 1 = s := ⟨_, rfl⟩
  obtain ⟨p, hp⟩ : ∃ p, s * n = p := ⟨_, rfl⟩
  have e1 : IntKind.i64.wrap (b - 1) = s := by rw [hs]; exact wrapI _ (by omega) (by omega)
  have pb : -4096 ≤ p ∧ p ≤ 16384 * 4096 := by
    rw [← hp]
    constructor
    · have := Int.mul_le_mul_of_nonneg_right (show -1 ≤ s by omega) n0
      omega
    · exact Int.le_trans (Int.mul_le_mul_of_nonneg_right (show s ≤ 16384 by omega) n0) (Int.mul_le_mul_of_nonneg_left n1 (by decide))
  have e2 : IntKind.i64.wrap (s * n) = p := by rw [hp]; exact wrapI _ (by omega) (by omega)
  rw [hs, hp]
  clear hs hp b0 b1 n0 n1 pb
  go_enter Tryz.func49, Tryz.ntmps49
  go_wp2_with (first
    | (go_at_call 111; (refine (B _ pr).mono ?_); (rintro e w1 ⟨rfl, b1⟩); (have p1 := bel' pr b1))
    | fail)
  go_ret
  exact ⟨rfl, p1⟩
end Go.Proofs.YtebilgnmnambnaaGreatDoor.Mo
