import Derived.Test.YtiobnojcmeeikaaGreatDoorPart16

namespace Go.Proofs.YtiobnojcmeeikaaGreatDoor
open Go.RowKit Tn

theorem Blk.put {w : World} {n : Nat} {c : Array Value} {t : TypeId} (h : Blk w n c t) (i : Nat) (v : Value) : Blk (w.setCell ⟨n, i, none⟩ v) n (c.setIfInBounds i v) t := by
  have h' : w.heap[n]? = some (.cells c t (0, 0)) := h
  show (w.setCell ⟨n, i, none⟩ v).heap[n]? = _
  simp [World.setCell, Array.getElem?_modify, h']
theorem Blk.skip {w : World} {n b : Nat} {c : Array Value} {t : TypeId} (h : Blk w n c t) (hb : b ≠ n) (i : Nat) (v : Value) : Blk (w.setCell ⟨b, i, none⟩ v) n c t := by
  have h' : w.heap[n]? = some (.cells c t (0, 0)) := h
  show (w.setCell ⟨b, i, none⟩ v).heap[n]? = _
  simp [World.setCell, Array.getElem?_modify, h', hb]
/-- A variable of four cells is made. -/
theorem var4 {w3 w4 : World} {t : TypeId} {c : Array Value} (b4 : Below (w3.alloc (.cells c t)).heap.size (w3.alloc (.cells c t)) w4) :
    Below w3.heap.size w3 w4 ∧ Blk w4 w3.heap.size c t :=
  ⟨bel ((Below.refl _ _).alloc (Nat.le_refl _) _) b4, (Blk.new w3 c t).below b4 (Blk.new w3 c t).lt⟩
set_option maxRecDepth 100000 in
set_option maxHeartbeats 1600000 in
theorem Split_w_none (n d f : Int) (g : Bool) (hg : (bits .and .u64 (n / 9223372036854775808) 1 == 1) = g) (hd : bits .and .u64 (n / 4503599627370496) 2047 = d) (hf : bits .and .u64 n 4503599627370495 = f) (d1 : d = 2047) (f1 : (f != 0) = true) (w : World) :
    Calls Tryz.prog 26 #[szW, .int .u64 n] w fun e w' => e = .returned (prt 4 false 0 0) ∧ Below w.heap.size w w' := by
  go_enter Tryz.func26, Tryz.ntmps26
  go_wp2_with fail
  have K0 : Blk ((w.alloc (.cells #[.int .i64 53, .int .i64 (-1074), .int .i64 971, .int .i64 52] 36)).alloc (.cells #[.int .i64 0, .bool false, .int .u64 0, .int .i64 0] 42)) w.heap.size #[.int .i64 53, .int .i64 (-1074), .int .i64 971, .int .i64 52] 36 := (Blk.new w _ _).alloc _
  have K1 := Blk.new (w.alloc (.cells #[.int .i64 53, .int .i64 (-1074), .int .i64 971, .int .i64 52] 36)) #[.int .i64 0, .bool false, .int .u64 0, .int .i64 0] 42
  have pr : Below w.heap.size w ((w.alloc (.cells #[.int .i64 53, .int .i64 (-1074), .int .i64 971, .int .i64 52] 36)).alloc (.cells #[.int .i64 0, .bool false, .int .u64 0, .int .i64 0] 42)) := ((Below.refl _ _).alloc (Nat.le_refl _) _).alloc (by simp) _
  simp only [World.size_alloc] at K1
  generalize (w.alloc (.cells #[.int .i64 53, .int .i64 (-1074), .int .i64 971, .int .i64 52] 36)).alloc (.cells #[.int .i64 0, .bool false, .int .u64 0, .int .i64 0] 42) = W at *
  have L0 := K0.lt
  have e0 : W.cell? ⟨w.heap.size, 0, none⟩ = some (.int .i64 53) := K0.at 0
  have e1 : W.cell? ⟨w.heap.size, 1, none⟩ = some (.int .i64 (-1074)) := K0.at 1
  have e2 : W.cell? ⟨w.heap.size, 2, none⟩ = some (.int .i64 971) := K0.at 2
  have e3 : W.cell? ⟨w.heap.size, 3, none⟩ = some (.int .i64 52) := K0.at 3
  go_region_held3 (fun x => x.cell? ⟨w.heap.size, 0, none⟩ = some (.int .i64 53) ∧ x.cell? ⟨w.heap.size, 1, none⟩ = some (.int .i64 (-1074)) ∧ x.cell? ⟨w.heap.size, 2, none⟩ = some (.int .i64 971) ∧ x.cell? ⟨w.heap.size, 3, none⟩ = some (.int .i64 52)) (go_keep) (first
    | (go_at_call 25; refine (top_w _).mono ?_; rintro e w2 ⟨rfl, b2⟩; have J0 := K0.below (below_undrew b2) K0.lt; have f0 : w2.cell? ⟨w.heap.size, 0, none⟩ = some (.int .i64 53) := J0.at 0; have f1 : w2.cell? ⟨w.heap.size, 1, none⟩ = some (.int .i64 (-1074)) := J0.at 1; have f2 : w2.cell? ⟨w.heap.size, 2, none⟩ = some (.int .i64 971) := J0.at 2; have f3 : w2.cell? ⟨w.heap.size, 3, none⟩ = some (.int .i64 52) := J0.at 3)
    | fail)
  have J1 := K1.below (below_undrew b2) K1.lt
  replace pr := bel_drew pr b2
  have c0 : w2.cell? ⟨w.heap.size + 1, 0, none⟩ = some (.int .i64 0) := J1.at 0
  have c1 : w2.cell? ⟨w.heap.size + 1, 1, none⟩ = some (.bool false) := J1.at 1
  have c2 : w2.cell? ⟨w.heap.size + 1, 2, none⟩ = some (.int .u64 0) := J1.at 2
  have c3 : w2.cell? ⟨w.heap.size + 1, 3, none⟩ = some (.int .i64 0) := J1.at 3
  have z0 := J1.free 0
  have z1 := J1.free 1
  have z2 := J1.free 2
  have z3 := J1.free 3
  have l0 := J0.lt
  have l1 := J1.lt
  go_wp2_with (first
    | (go_at_call 41; refine (Neg_w n g hg _).mono ?_; rintro e w3 ⟨rfl, b3⟩; replace J0 := J0.below b3 J0.lt; replace J1 := J1.below b3 J1.lt; replace pr := bel pr b3; have l0 := J0.lt; have l1 := J1.lt; clear b3; have m0 := J0.alloc (.cells #[.int .i64 0, .bool g, .int .u64 0, .int .i64 0] 42); have e0 : (w3.alloc (.cells #[.int .i64 0, .bool g, .int .u64 0, .int .i64 0] 42)).cell? ⟨w.heap.size, 0, none⟩ = some (.int .i64 53) := m0.at 0; have e1 : (w3.alloc (.cells #[.int .i64 0, .bool g, .int .u64 0, .int .i64 0] 42)).cell? ⟨w.heap.size, 1, none⟩ = some (.int .i64 (-1074)) := m0.at 1; have e2 : (w3.alloc (.cells #[.int .i64 0, .bool g, .int .u64 0, .int .i64 0] 42)).cell? ⟨w.heap.size, 2, none⟩ = some (.int .i64 971) := m0.at 2; have e3 : (w3.alloc (.cells #[.int .i64 0, .bool g, .int .u64 0, .int .i64 0] 42)).cell? ⟨w.heap.size, 3, none⟩ = some (.int .i64 52) := m0.at 3; clear m0)
    | (go_at_call 25; refine (top_w _).mono ?_; rintro e w4 ⟨rfl, b4⟩; replace K2 := K2.below b4 K2.lt; replace J0 := J0.below b4 J0.lt; replace J1 := J1.below b4 J1.lt; replace pr := bel pr b4; clear b4; have e0 : w4.cell? ⟨w.heap.size, 0, none⟩ = some (.int .i64 53) := J0.at 0; have e1 : w4.cell? ⟨w.heap.size, 1, none⟩ = some (.int .i64 (-1074)) := J0.at 1; have e2 : w4.cell? ⟨w.heap.size, 2, none⟩ = some (.int .i64 971) := J0.at 2; have e3 : w4.cell? ⟨w.heap.size, 3, none⟩ = some (.int .i64 52) := J0.at 3; have c0 : w4.cell? ⟨w.heap.size + 1, 0, none⟩ = some (.int .i64 0) := J1.at 0; have c1 : w4.cell? ⟨w.heap.size + 1, 1, none⟩ = some (.bool false) := J1.at 1; have c2 : w4.cell? ⟨w.heap.size + 1, 2, none⟩ = some (.int .u64 0) := J1.at 2; have c3 : w4.cell? ⟨w.heap.size + 1, 3, none⟩ = some (.int .i64 0) := J1.at 3; have z0 := J1.free 0; have z1 := J1.free 1; have z2 := J1.free 2; have z3 := J1.free 3; have q0 : w4.cell? ⟨w3.heap.size, 0, none⟩ = some (.int .i64 0) := K2.at 0; have q1 : w4.cell? ⟨w3.heap.size, 1, none⟩ = some (.bool g) := K2.at 1; have q2 : w4.cell? ⟨w3.heap.size, 2, none⟩ = some (.int .u64 0) := K2.at 2; have q3 : w4.cell? ⟨w3.heap.size, 3, none⟩ = some (.int .i64 0) := K2.at 3; have y0 := K2.free 0; have y1 := K2.free 1; have y2 := K2.free 2; have y3 := K2.free 3; have n1 : w.heap.size + 1 ≠ w3.heap.size := (by omega); have n2 : w3.heap.size ≠ w.heap.size + 1 := (by omega))
    | (go_at_call 25; (refine (top_w _).mono ?_; rintro e w4 ⟨rfl, b4⟩; obtain ⟨b5, K2⟩ := var4 b4; clear b4; replace J0 := J0.below b5 J0.lt; replace J1 := J1.below b5 J1.lt; replace pr := bel pr b5; clear b5; have e0 : w4.cell? ⟨w.heap.size, 0, none⟩ = some (.int .i64 53) := J0.at 0; have e1 : w4.cell? ⟨w.heap.size, 1, none⟩ = some (.int .i64 (-1074)) := J0.at 1; have e2 : w4.cell? ⟨w.heap.size, 2, none⟩ = some (.int .i64 971) := J0.at 2; have e3 : w4.cell? ⟨w.heap.size, 3, none⟩ = some (.int .i64 52) := J0.at 3; have c0 : w4.cell? ⟨w.heap.size + 1, 0, none⟩ = some (.int .i64 0) := J1.at 0; have c1 : w4.cell? ⟨w.heap.size + 1, 1, none⟩ = some (.bool false) := J1.at 1; have c2 : w4.cell? ⟨w.heap.size + 1, 2, none⟩ = some (.int .u64 0) := J1.at 2; have c3 : w4.cell? ⟨w.heap.size + 1, 3, none⟩ = some (.int .i64 0) := J1.at 3; have z0 := J1.free 0; have z1 := J1.free 1; have z2 := J1.free 2; have z3 := J1.free 3; have q0 : w4.cell? ⟨w3.heap.size, 0, none⟩ = some (.int .i64 0) := K2.at 0; have q1 : w4.cell? ⟨w3.heap.size, 1, none⟩ = some (.bool g) := K2.at 1; have q2 : w4.cell? ⟨w3.heap.size, 2, none⟩ = some (.int .u64 0) := K2.at 2; have q3 : w4.cell? ⟨w3.heap.size, 3, none⟩ = some (.int .i64 0) := K2.at 3; have y0 := K2.free 0; have y1 := K2.free 1; have y2 := K2.free 2; have y3 := K2.free 3; have n1 : w.heap.size + 1 ≠ w3.heap.size := (by omega); have n2 : w3.heap.size ≠ w.heap.size + 1 := (by omega)))
    | fail)
  obtain ⟨F0, F1, F2, F3, FB⟩ := put4 (.int .i64 4) (.bool false) (.int .u64 0) (.int .i64 0) (J1.at 0) (J1.at 1) (J1.at 2) (J1.at 3)
  exact bodyPost_ret (v := prt 4 false 0 0) (by simp [results, Tryz.results26, go_sem, F0, F1, F2, F3]) rfl ⟨rfl, FB _ _ (by omega) pr⟩
set_option maxRecDepth 100000 in
set_option maxHeartbeats 1600000 in
theorem Split_w_inf (n d f : Int) (g : Bool) (hg : (bits .and .u64 (n / 9223372036854775808) 1 == 1) = g) (hd : bits .and .u64 (n / 4503599627370496) 2047 = d) (hf : bits .and .u64 n 4503599627370495 = f) (d1 : d = 2047) (f1 : (f != 0) = false) (w : World) :
    Calls Tryz.prog 26 #[szW, .int .u64 n] w fun e w' => e = .returned (prt 3 g 0 0) ∧ Below w.heap.size w w' := by
  go_enter Tryz.func26, Tryz.ntmps26
  go_wp2_with fail
  have K0 : Blk ((w.alloc (.cells #[.int .i64 53, .int .i64 (-1074), .int .i64 971, .int .i64 52] 36)).alloc (.cells #[.int .i64 0, .bool false, .int .u64 0, .int .i64 0] 42)) w.heap.size #[.int .i64 53, .int .i64 (-1074), .int .i64 971, .int .i64 52] 36 := (Blk.new w _ _).alloc _
  have K1 := Blk.new (w.alloc (.cells #[.int .i64 53, .int .i64 (-1074), .int .i64 971, .int .i64 52] 36)) #[.int .i64 0, .bool false, .int .u64 0, .int .i64 0] 42
  have pr : Below w.heap.size w ((w.alloc (.cells #[.int .i64 53, .int .i64 (-1074), .int .i64 971, .int .i64 52] 36)).alloc (.cells #[.int .i64 0, .bool false, .int .u64 0, .int .i64 0] 42)) := ((Below.refl _ _).alloc (Nat.le_refl _) _).alloc (by simp) _
  simp only [World.size_alloc] at K1
  generalize (w.alloc (.cells #[.int .i64 53, .int .i64 (-1074), .int .i64 971, .int .i64 52] 36)).alloc (.cells #[.int .i64 0, .bool false, .int .u64 0, .int .i64 0] 42) = W at *
  have L0 := K0.lt
  have e0 : W.cell? ⟨w.heap.size, 0, none⟩ = some (.int .i64 53) := K0.at 0
  have e1 : W.cell? ⟨w.heap.size, 1, none⟩ = some (.int .i64 (-1074)) := K0.at 1
  have e2 : W.cell? ⟨w.heap.size, 2, none⟩ = some (.int .i64 971) := K0.at 2
  have e3 : W.cell? ⟨w.heap.size, 3, none⟩ = some (.int .i64 52) := K0.at 3
  go_region_held3 (fun x => x.cell? ⟨w.heap.size, 0, none⟩ = some (.int .i64 53) ∧ x.cell? ⟨w.heap.size, 1, none⟩ = some (.int .i64 (-1074)) ∧ x.cell? ⟨w.heap.size, 2, none⟩ = some (.int .i64 971) ∧ x.cell? ⟨w.heap.size, 3, none⟩ = some (.int .i64 52)) (go_keep) (first
    | (go_at_call 25; refine (top_w _).mono ?_; rintro e w2 ⟨rfl, b2⟩; have J0 := K0.below (below_undrew b2) K0.lt; have f0 : w2.cell? ⟨w.heap.size, 0, none⟩ = some (.int .i64 53) := J0.at 0; have f1 : w2.cell? ⟨w.heap.size, 1, none⟩ = some (.int .i64 (-1074)) := J0.at 1; have f2 : w2.cell? ⟨w.heap.size, 2, none⟩ = some (.int .i64 971) := J0.at 2; have f3 : w2.cell? ⟨w.heap.size, 3, none⟩ = some (.int .i64 52) := J0.at 3)
    | fail)
  have J1 := K1.below (below_undrew b2) K1.lt
  replace pr := bel_drew pr b2
  have c0 : w2.cell? ⟨w.heap.size + 1, 0, none⟩ = some (.int .i64 0) := J1.at 0
  have c1 : w2.cell? ⟨w.heap.size + 1, 1, none⟩ = some (.bool false) := J1.at 1
  have c2 : w2.cell? ⟨w.heap.size + 1, 2, none⟩ = some (.int .u64 0) := J1.at 2
  have c3 : w2.cell? ⟨w.heap.size + 1, 3, none⟩ = some (.int .i64 0) := J1.at 3
  have z0 := J1.free 0
  have z1 := J1.free 1
  have z2 := J1.free 2
  have z3 := J1.free 3
  have l0 := J0.lt
  have l1 := J1.lt
  go_wp2_with (first
    | (go_at_call 41; refine (Neg_w n g hg _).mono ?_; rintro e w3 ⟨rfl, b3⟩; replace J0 := J0.below b3 J0.lt; replace J1 := J1.below b3 J1.lt; replace pr := bel pr b3; have l0 := J0.lt; have l1 := J1.lt; clear b3; have m0 := J0.alloc (.cells #[.int .i64 0, .bool g, .int .u64 0, .int .i64 0] 42); have e0 : (w3.alloc (.cells #[.int .i64 0, .bool g, .int .u64 0, .int .i64 0] 42)).cell? ⟨w.heap.size, 0, none⟩ = some (.int .i64 53) := m0.at 0; have e1 : (w3.alloc (.cells #[.int .i64 0, .bool g, .int .u64 0, .int .i64 0] 42)).cell? ⟨w.heap.size, 1, none⟩ = some (.int .i64 (-1074)) := m0.at 1; have e2 : (w3.alloc (.cells #[.int .i64 0, .bool g, .int .u64 0, .int .i64 0] 42)).cell? ⟨w.heap.size, 2, none⟩ = some (.int .i64 971) := m0.at 2; have e3 : (w3.alloc (.cells #[.int .i64 0, .bool g, .int .u64 0, .int .i64 0] 42)).cell? ⟨w.heap.size, 3, none⟩ = some (.int .i64 52) := m0.at 3; clear m0)
    | (go_at_call 25; refine (top_w _).mono ?_; rintro e w4 ⟨rfl, b4⟩; replace K2 := K2.below b4 K2.lt; replace J0 := J0.below b4 J0.lt; replace J1 := J1.below b4 J1.lt; replace pr := bel pr b4; clear b4; have e0 : w4.cell? ⟨w.heap.size, 0, none⟩ = some (.int .i64 53) := J0.at 0; have e1 : w4.cell? ⟨w.heap.size, 1, none⟩ = some (.int .i64 (-1074)) := J0.at 1; have e2 : w4.cell? ⟨w.heap.size, 2, none⟩ = some (.int .i64 971) := J0.at 2; have e3 : w4.cell? ⟨w.heap.size, 3, none⟩ = some (.int .i64 52) := J0.at 3; have c0 : w4.cell? ⟨w.heap.size + 1, 0, none⟩ = some (.int .i64 0) := J1.at 0; have c1 : w4.cell? ⟨w.heap.size + 1, 1, none⟩ = some (.bool false) := J1.at 1; have c2 : w4.cell? ⟨w.heap.size + 1, 2, none⟩ = some (.int .u64 0) := J1.at 2; have c3 : w4.cell? ⟨w.heap.size + 1, 3, none⟩ = some (.int .i64 0) := J1.at 3; have z0 := J1.free 0; have z1 := J1.free 1; have z2 := J1.free 2; have z3 := J1.free 3; have q0 : w4.cell? ⟨w3.heap.size, 0, none⟩ = some (.int .i64 0) := K2.at 0; have q1 : w4.cell? ⟨w3.heap.size, 1, none⟩ = some (.bool g) := K2.at 1; have q2 : w4.cell? ⟨w3.heap.size, 2, none⟩ = some (.int .u64 0) := K2.at 2; have q3 : w4.cell? ⟨w3.heap.size, 3, none⟩ = some (.int .i64 0) := K2.at 3; have y0 := K2.free 0; have y1 := K2.free 1; have y2 := K2.free 2; have y3 := K2.free 3; have n1 : w.heap.size + 1 ≠ w3.heap.size := (by omega); have n2 : w3.heap.size ≠ w.heap.size + 1 := (by omega))
    | (go_at_call 25; (refine (top_w _).mono ?_; rintro e w4 ⟨rfl, b4⟩; obtain ⟨b5, K2⟩ := var4 b4; clear b4; replace J0 := J0.below b5 J0.lt; replace J1 := J1.below b5 J1.lt; replace pr := bel pr b5; clear b5; have e0 : w4.cell? ⟨w.heap.size, 0, none⟩ = some (.int .i64 53) := J0.at 0; have e1 : w4.cell? ⟨w.heap.size, 1, none⟩ = some (.int .i64 (-1074)) := J0.at 1; have e2 : w4.cell? ⟨w.heap.size, 2, none⟩ = some (.int .i64 971) := J0.at 2; have e3 : w4.cell? ⟨w.heap.size, 3, none⟩ = some (.int .i64 52) := J0.at 3; have c0 : w4.cell? ⟨w.heap.size + 1, 0, none⟩ = some (.int .i64 0) := J1.at 0; have c1 : w4.cell? ⟨w.heap.size + 1, 1, none⟩ = some (.bool false) := J1.at 1; have c2 : w4.cell? ⟨w.heap.size + 1, 2, none⟩ = some (.int .u64 0) := J1.at 2; have c3 : w4.cell? ⟨w.heap.size + 1, 3, none⟩ = some (.int .i64 0) := J1.at 3; have z0 := J1.free 0; have z1 := J1.free 1; have z2 := J1.free 2; have z3 := J1.free 3; have q0 : w4.cell? ⟨w3.heap.size, 0, none⟩ = some (.int .i64 0) := K2.at 0; have q1 : w4.cell? ⟨w3.heap.size, 1, none⟩ = some (.bool g) := K2.at 1; have q2 : w4.cell? ⟨w3.heap.size, 2, none⟩ = some (.int .u64 0) := K2.at 2; have q3 : w4.cell? ⟨w3.heap.size, 3, none⟩ = some (.int .i64 0) := K2.at 3; have y0 := K2.free 0; have y1 := K2.free 1; have y2 := K2.free 2; have y3 := K2.free 3; have n1 : w.heap.size + 1 ≠ w3.heap.size := (by omega); have n2 : w3.heap.size ≠ w.heap.size + 1 := (by omega)))
    | fail)
  replace J1 := J1.skip n2 0 (.int .i64 3)
  replace pr := pr.setCell (p := ⟨w3.heap.size, 0, none⟩) (Nat.le_of_lt l0) (.int .i64 3)
  obtain ⟨F0, F1, F2, F3, FB⟩ := put4 (.int .i64 3) (.bool g) (.int .u64 0) (.int .i64 0) (J1.at 0) (J1.at 1) (J1.at 2) (J1.at 3)
  exact bodyPost_ret (v := prt 3 g 0 0) (by simp [results, Tryz.results26, go_sem, F0, F1, F2, F3]) rfl ⟨rfl, FB _ _ (by omega) pr⟩
set_option maxRecDepth 100000 in
set_option maxHeartbeats 1600000 in
theorem Split_w_small (n d f : Int) (g : Bool) (hg : (bits .and .u64 (n / 9223372036854775808) 1 == 1) = g) (hd : bits .and .u64 (n / 4503599627370496) 2047 = d) (hf : bits .and .u64 n 4503599627370495 = f) (d1 : d = 0) (f1 : (decide (f > 0)) = true) (w : World) :
    Calls Tryz.prog 26 #[szW, .int .u64 n] w fun e w' => e = .returned (prt 1 g f (-1074)) ∧ Below w.heap.size w w' := by
  go_enter Tryz.func26, Tryz.ntmps26
  go_wp2_with fail
  have K0 : Blk ((w.alloc (.cells #[.int .i64 53, .int .i64 (-1074), .int .i64 971, .int .i64 52] 36)).alloc (.cells #[.int .i64 0, .bool false, .int .u64 0, .int .i64 0] 42)) w.heap.size #[.int .i64 53, .int .i64 (-1074), .int .i64 971, .int .i64 52] 36 := (Blk.new w _ _).alloc _
  have K1 := Blk.new (w.alloc (.cells #[.int .i64 53, .int .i64 (-1074), .int .i64 971, .int .i64 52] 36)) #[.int .i64 0, .bool false, .int .u64 0, .int .i64 0] 42
  have pr : Below w.heap.size w ((w.alloc (.cells #[.int .i64 53, .int .i64 (-1074), .int .i64 971, .int .i64 52] 36)).alloc (.cells #[.int .i64 0, .bool false, .int .u64 0, .int .i64 0] 42)) := ((Below.refl _ _).alloc (Nat.le_refl _) _).alloc (by simp) _
  simp only [World.size_alloc] at K1
  generalize (w.alloc (.cells #[.int .i64 53, .int .i64 (-1074), .int .i64 971, .int .i64 52] 36)).alloc (.cells #[.int .i64 0, .bool false, .int .u64 0, .int .i64 0] 42) = W at *
  have L0 := K0.lt
  have e0 : W.cell? ⟨w.heap.size, 0, none⟩ = some (.int .i64 53) := K0.at 0
  have e1 : W.cell? ⟨w.heap.size, 1, none⟩ = some (.int .i64 (-1074)) := K0.at 1
  have e2 : W.cell? ⟨w.heap.size, 2, none⟩ = some (.int .i64 971) := K0.at 2
  have e3 : W.cell? ⟨w.heap.size, 3, none⟩ = some (.int .i64 52) := K0.at 3
  go_region_held3 (fun x => x.cell? ⟨w.heap.size, 0, none⟩ = some (.int .i64 53) ∧ x.cell? ⟨w.heap.size, 1, none⟩ = some (.int .i64 (-1074)) ∧ x.cell? ⟨w.heap.size, 2, none⟩ = some (.int .i64 971) ∧ x.cell? ⟨w.heap.size, 3, none⟩ = some (.int .i64 52)) (go_keep) (first
    | (go_at_call 25; refine (top_w _).mono ?_; rintro e w2 ⟨rfl, b2⟩; have J0 := K0.below (below_undrew b2) K0.lt; have f0 : w2.cell? ⟨w.heap.size, 0, none⟩ = some (.int .i64 53) := J0.at 0; have f1 : w2.cell? ⟨w.heap.size, 1, none⟩ = some (.int .i64 (-1074)) := J0.at 1; have f2 : w2.cell? ⟨w.heap.size, 2, none⟩ = some (.int .i64 971) := J0.at 2; have f3 : w2.cell? ⟨w.heap.size, 3, none⟩ = some (.int .i64 52) := J0.at 3)
    | fail)
  have J1 := K1.below (below_undrew b2) K1.lt
  replace pr := bel_drew pr b2
  have c0 : w2.cell? ⟨w.heap.size + 1, 0, none⟩ = some (.int .i64 0) := J1.at 0
  have c1 : w2.cell? ⟨w.heap.size + 1, 1, none⟩ = some (.bool false) := J1.at 1
  have c2 : w2.cell? ⟨w.heap.size + 1, 2, none⟩ = some (.int .u64 0) := J1.at 2
  have c3 : w2.cell? ⟨w.heap.size + 1, 3, none⟩ = some (.int .i64 0) := J1.at 3
  have z0 := J1.free 0
  have z1 := J1.free 1
  have z2 := J1.free 2
  have z3 := J1.free 3
  have l0 := J0.lt
  have l1 := J1.lt
  go_wp2_with (first
    | (go_at_call 41; refine (Neg_w n g hg _).mono ?_; rintro e w3 ⟨rfl, b3⟩; replace J0 := J0.below b3 J0.lt; replace J1 := J1.below b3 J1.lt; replace pr := bel pr b3; have l0 := J0.lt; have l1 := J1.lt; clear b3; have m0 := J0.alloc (.cells #[.int .i64 0, .bool g, .int .u64 0, .int .i64 0] 42); have e0 : (w3.alloc (.cells #[.int .i64 0, .bool g, .int .u64 0, .int .i64 0] 42)).cell? ⟨w.heap.size, 0, none⟩ = some (.int .i64 53) := m0.at 0; have e1 : (w3.alloc (.cells #[.int .i64 0, .bool g, .int .u64 0, .int .i64 0] 42)).cell? ⟨w.heap.size, 1, none⟩ = some (.int .i64 (-1074)) := m0.at 1; have e2 : (w3.alloc (.cells #[.int .i64 0, .bool g, .int .u64 0, .int .i64 0] 42)).cell? ⟨w.heap.size, 2, none⟩ = some (.int .i64 971) := m0.at 2; have e3 : (w3.alloc (.cells #[.int .i64 0, .bool g, .int .u64 0, .int .i64 0] 42)).cell? ⟨w.heap.size, 3, none⟩ = some (.int .i64 52) := m0.at 3; clear m0)
    | (go_at_call 25; refine (top_w _).mono ?_; rintro e w4 ⟨rfl, b4⟩; replace K2 := K2.below b4 K2.lt; replace J0 := J0.below b4 J0.lt; replace J1 := J1.below b4 J1.lt; replace pr := bel pr b4; clear b4; have e0 : w4.cell? ⟨w.heap.size, 0, none⟩ = some (.int .i64 53) := J0.at 0; have e1 : w4.cell? ⟨w.heap.size, 1, none⟩ = some (.int .i64 (-1074)) := J0.at 1; have e2 : w4.cell? ⟨w.heap.size, 2, none⟩ = some (.int .i64 971) := J0.at 2; have e3 : w4.cell? ⟨w.heap.size, 3, none⟩ = some (.int .i64 52) := J0.at 3; have c0 : w4.cell? ⟨w.heap.size + 1, 0, none⟩ = some (.int .i64 0) := J1.at 0; have c1 : w4.cell? ⟨w.heap.size + 1, 1, none⟩ = some (.bool false) := J1.at 1; have c2 : w4.cell? ⟨w.heap.size + 1, 2, none⟩ = some (.int .u64 0) := J1.at 2; have c3 : w4.cell? ⟨w.heap.size + 1, 3, none⟩ = some (.int .i64 0) := J1.at 3; have z0 := J1.free 0; have z1 := J1.free 1; have z2 := J1.free 2; have z3 := J1.free 3; have q0 : w4.cell? ⟨w3.heap.size, 0, none⟩ = some (.int .i64 0) := K2.at 0; have q1 : w4.cell? ⟨w3.heap.size, 1, none⟩ = some (.bool g) := K2.at 1; have q2 : w4.cell? ⟨w3.heap.size, 2, none⟩ = some (.int .u64 0) := K2.at 2; have q3 : w4.cell? ⟨w3.heap.size, 3, none⟩ = some (.int .i64 0) := K2.at 3; have y0 := K2.free 0; have y1 := K2.free 1; have y2 := K2.free 2; have y3 := K2.free 3; have n1 : w.heap.size + 1 ≠ w3.heap.size := (by omega); have n2 : w3.heap.size ≠ w.heap.size + 1 := (by omega))
    | (go_at_call 25; (refine (top_w _).mono ?_; rintro e w4 ⟨rfl, b4⟩; obtain ⟨b5, K2⟩ := var4 b4; clear b4; replace J0 := J0.below b5 J0.lt; replace J1 := J1.below b5 J1.lt; replace pr := bel pr b5; clear b5; have e0 : w4.cell? ⟨w.heap.size, 0, none⟩ = some (.int .i64 53) := J0.at 0; have e1 : w4.cell? ⟨w.heap.size, 1, none⟩ = some (.int .i64 (-1074)) := J0.at 1; have e2 : w4.cell? ⟨w.heap.size, 2, none⟩ = some (.int .i64 971) := J0.at 2; have e3 : w4.cell? ⟨w.heap.size, 3, none⟩ = some (.int .i64 52) := J0.at 3; have c0 : w4.cell? ⟨w.heap.size + 1, 0, none⟩ = some (.int .i64 0) := J1.at 0; have c1 : w4.cell? ⟨w.heap.size + 1, 1, none⟩ = some (.bool false) := J1.at 1; have c2 : w4.cell? ⟨w.heap.size + 1, 2, none⟩ = some (.int .u64 0) := J1.at 2; have c3 : w4.cell? ⟨w.heap.size + 1, 3, none⟩ = some (.int .i64 0) := J1.at 3; have z0 := J1.free 0; have z1 := J1.free 1; have z2 := J1.free 2; have z3 := J1.free 3; have q0 : w4.cell? ⟨w3.heap.size, 0, none⟩ = some (.int .i64 0) := K2.at 0; have q1 : w4.cell? ⟨w3.heap.size, 1, none⟩ = some (.bool g) := K2.at 1; have q2 : w4.cell? ⟨w3.heap.size, 2, none⟩ = some (.int .u64 0) := K2.at 2; have q3 : w4.cell? ⟨w3.heap.size, 3, none⟩ = some (.int .i64 0) := K2.at 3; have y0 := K2.free 0; have y1 := K2.free 1; have y2 := K2.free 2; have y3 := K2.free 3; have n1 : w.heap.size + 1 ≠ w3.heap.size := (by omega); have n2 : w3.heap.size ≠ w.heap.size + 1 := (by omega)))
    | fail)
  replace J1 := J1.skip n2 0 (.int .i64 1)
  replace pr := pr.setCell (p := ⟨w3.heap.size, 0, none⟩) (Nat.le_of_lt l0) (.int .i64 1)
  replace J1 := J1.skip n2 2 (.int .u64 f)
  replace pr := pr.setCell (p := ⟨w3.heap.size, 2, none⟩) (Nat.le_of_lt l0) (.int .u64 f)
  replace J1 := J1.skip n2 3 (.int .i64 (-1074))
  replace pr := pr.setCell (p := ⟨w3.heap.size, 3, none⟩) (Nat.le_of_lt l0) (.int .i64 (-1074))
  obtain ⟨F0, F1, F2, F3, FB⟩ := put4 (.int .i64 1) (.bool g) (.int .u64 f) (.int .i64 (-1074)) (J1.at 0) (J1.at 1) (J1.at 2) (J1.at 3)
  exact bodyPost_ret (v := prt 1 g f (-1074)) (by simp [results, Tryz.results26, go_sem, F0, F1, F2, F3]) rfl ⟨rfl, FB _ _ (by omega) pr⟩
set_option maxRecDepth 100000 in
set_option maxHeartbeats 1600000 in
theorem Split_w_nought (n d f : Int) (g : Bool) (hg : (bits .and .u64 (n / 9223372036854775808) 1 == 1) = g) (hd : bits .and .u64 (n / 4503599627370496) 2047 = d) (hf : bits .and .u64 n 4503599627370495 = f) (d1 : d = 0) (f1 : (decide (f > 0)) = false) (w : World) :
    Calls Tryz.prog 26 #[szW, .int .u64 n] w fun e w' => e = .returned (prt 0 g 0 0) ∧ Below w.heap.size w w' := by
  go_enter Tryz.func26, Tryz.ntmps26
  go_wp2_with fail
  have K0 : Blk ((w.alloc (.cells #[.int .i64 53, .int .i64 (-1074), .int .i64 971, .int .i64 52] 36)).alloc (.cells #[.int .i64 0, .bool false, .int .u64 0, .int .i64 0] 42)) w.heap.size #[.int .i64 53, .int .i64 (-1074), .int .i64 971, .int .i64 52] 36 := (Blk.new w _ _).alloc _
  have K1 := Blk.new (w.alloc (.cells #[.int .i64 53, .int .i64 (-1074), .int .i64 971, .int .i64 52] 36)) #[.int .i64 0, .bool false, .int .u64 0, .int .i64 0] 42
  have pr : Below w.heap.size w ((w.alloc (.cells #[.int .i64 53, .int .i64 (-1074), .int .i64 971, .int .i64 52] 36)).alloc (.cells #[.int .i64 0, .bool false, .int .u64 0, .int .i64 0] 42)) := ((Below.refl _ _).alloc (Nat.le_refl _) _).alloc (by simp) _
  simp only [World.size_alloc] at K1
  generalize (w.alloc (.cells #[.int .i64 53, .int .i64 (-1074), .int .i64 971, .int .i64 52] 36)).alloc (.cells #[.int .i64 0, .bool false, .int .u64 0, .int .i64 0] 42) = W at *
  have L0 := K0.lt
  have e0 : W.cell? ⟨w.heap.size, 0, none⟩ = some (.int .i64 53) := K0.at 0
  have e1 : W.cell? ⟨w.heap.size, 1, none⟩ = some (.int .i64 (-1074)) := K0.at 1
  have e2 : W.cell? ⟨w.heap.size, 2, none⟩ = some (.int .i64 971) := K0.at 2
  have e3 : W.cell? ⟨w.heap.size, 3, none⟩ = some (.int .i64 52) := K0.at 3
  go_region_held3 (fun x => x.cell? ⟨w.heap.size, 0, none⟩ = some (.int .i64 53) ∧ x.cell? ⟨w.heap.size, 1, none⟩ = some (.int .i64 (-1074)) ∧ x.cell? ⟨w.heap.size, 2, none⟩ = some (.int .i64 971) ∧ x.cell? ⟨w.heap.size, 3, none⟩ = some (.int .i64 52)) (go_keep) (first
    | (go_at_call 25; refine (top_w _).mono ?_; rintro e w2 ⟨rfl, b2⟩; have J0 := K0.below (below_undrew b2) K0.lt; have f0 : w2.cell? ⟨w.heap.size, 0, none⟩ = some (.int .i64 53) := J0.at 0; have f1 : w2.cell? ⟨w.heap.size, 1, none⟩ = some (.int .i64 (-1074)) := J0.at 1; have f2 : w2.cell? ⟨w.heap.size, 2, none⟩ = some (.int .i64 971) := J0.at 2; have f3 : w2.cell? ⟨w.heap.size, 3, none⟩ = some (.int .i64 52) := J0.at 3)
    | fail)
  have J1 := K1.below (below_undrew b2) K1.lt
  replace pr := bel_drew pr b2
  have c0 : w2.cell? ⟨w.heap.size + 1, 0, none⟩ = some (.int .i64 0) := J1.at 0
  have c1 : w2.cell? ⟨w.heap.size + 1, 1, none⟩ = some (.bool false) := J1.at 1
  have c2 : w2.cell? ⟨w.heap.size + 1, 2, none⟩ = some (.int .u64 0) := J1.at 2
  have c3 : w2.cell? ⟨w.heap.size + 1, 3, none⟩ = some (.int .i64 0) := J1.at 3
  have z0 := J1.free 0
  have z1 := J1.free 1
  have z2 := J1.free 2
  have z3 := J1.free 3
  have l0 := J0.lt
  have l1 := J1.lt
  go_wp2_with (first
    | (go_at_call 41; refine (Neg_w n g hg _).mono ?_; rintro e w3 ⟨rfl, b3⟩; replace J0 := J0.below b3 J0.lt; replace J1 := J1.below b3 J1.lt; replace pr := bel pr b3; have l0 := J0.lt; have l1 := J1.lt; clear b3; have m0 := J0.alloc (.cells #[.int .i64 0, .bool g, .int .u64 0, .int .i64 0] 42); have e0 : (w3.alloc (.cells #[.int .i64 0, .bool g, .int .u64 0, .int .i64 0] 42)).cell? ⟨w.heap.size, 0, none⟩ = some (.int .i64 53) := m0.at 0; have e1 : (w3.alloc (.cells #[.int .i64 0, .bool g, .int .u64 0, .int .i64 0] 42)).cell? ⟨w.heap.size, 1, none⟩ = some (.int .i64 (-1074)) := m0.at 1; have e2 : (w3.alloc (.cells #[.int .i64 0, .bool g, .int .u64 0, .int .i64 0] 42)).cell? ⟨w.heap.size, 2, none⟩ = some (.int .i64 971) := m0.at 2; have e3 : (w3.alloc (.cells #[.int .i64 0, .bool g, .int .u64 0, .int .i64 0] 42)).cell? ⟨w.heap.size, 3, none⟩ = some (.int .i64 52) := m0.at 3; clear m0)
    | (go_at_call 25; refine (top_w _).mono ?_; rintro e w4 ⟨rfl, b4⟩; replace K2 := K2.below b4 K2.lt; replace J0 := J0.below b4 J0.lt; replace J1 := J1.below b4 J1.lt; replace pr := bel pr b4; clear b4; have e0 : w4.cell? ⟨w.heap.size, 0, none⟩ = some (.int .i64 53) := J0.at 0; have e1 : w4.cell? ⟨w.heap.size, 1, none⟩ = some (.int .i64 (-1074)) := J0.at 1; have e2 : w4.cell? ⟨w.heap.size, 2, none⟩ = some (.int .i64 971) := J0.at 2; have e3 : w4.cell? ⟨w.heap.size, 3, none⟩ = some (.int .i64 52) := J0.at 3; have c0 : w4.cell? ⟨w.heap.size + 1, 0, none⟩ = some (.int .i64 0) := J1.at 0; have c1 : w4.cell? ⟨w.heap.size + 1, 1, none⟩ = some (.bool false) := J1.at 1; have c2 : w4.cell? ⟨w.heap.size + 1, 2, none⟩ = some (.int .u64 0) := J1.at 2; have c3 : w4.cell? ⟨w.heap.size + 1, 3, none⟩ = some (.int .i64 0) := J1.at 3; have z0 := J1.free 0; have z1 := J1.free 1; have z2 := J1.free 2; have z3 := J1.free 3; have q0 : w4.cell? ⟨w3.heap.size, 0, none⟩ = some (.int .i64 0) := K2.at 0; have q1 : w4.cell? ⟨w3.heap.size, 1, none⟩ = some (.bool g) := K2.at 1; have q2 : w4.cell? ⟨w3.heap.size, 2, none⟩ = some (.int .u64 0) := K2.at 2; have q3 : w4.cell? ⟨w3.heap.size, 3, none⟩ = some (.int .i64 0) := K2.at 3; have y0 := K2.free 0; have y1 := K2.free 1; have y2 := K2.free 2; have y3 := K2.free 3; have n1 : w.heap.size + 1 ≠ w3.heap.size := (by omega); have n2 : w3.heap.size ≠ w.heap.size + 1 := (by omega))
    | (go_at_call 25; (refine (top_w _).mono ?_; rintro e w4 ⟨rfl, b4⟩; obtain ⟨b5, K2⟩ := var4 b4; clear b4; replace J0 := J0.below b5 J0.lt; replace J1 := J1.below b5 J1.lt; replace pr := bel pr b5; clear b5; have e0 : w4.cell? ⟨w.heap.size, 0, none⟩ = some (.int .i64 53) := J0.at 0; have e1 : w4.cell? ⟨w.heap.size, 1, none⟩ = some (.int .i64 (-1074)) := J0.at 1; have e2 : w4.cell? ⟨w.heap.size, 2, none⟩ = some (.int .i64 971) := J0.at 2; have e3 : w4.cell? ⟨w.heap.size, 3, none⟩ = some (.int .i64 52) := J0.at 3; have c0 : w4.cell? ⟨w.heap.size + 1, 0, none⟩ = some (.int .i64 0) := J1.at 0; have c1 : w4.cell? ⟨w.heap.size + 1, 1, none⟩ = some (.bool false) := J1.at 1; have c2 : w4.cell? ⟨w.heap.size + 1, 2, none⟩ = some (.int .u64 0) := J1.at 2; have c3 : w4.cell? ⟨w.heap.size + 1, 3, none⟩ = some (.int .i64 0) := J1.at 3; have z0 := J1.free 0; have z1 := J1.free 1; have z2 := J1.free 2; have z3 := J1.free 3; have q0 : w4.cell? ⟨w3.heap.size, 0, none⟩ = some (.int .i64 0) := K2.at 0; have q1 : w4.cell? ⟨w3.heap.size, 1, none⟩ = some (.bool g) := K2.at 1; have q2 : w4.cell? ⟨w3.heap.size, 2, none⟩ = some (.int .u64 0) := K2.at 2; have q3 : w4.cell? ⟨w3.heap.size, 3, none⟩ = some (.int .i64 0) := K2.at 3; have y0 := K2.free 0; have y1 := K2.free 1; have y2 := K2.free 2; have y3 := K2.free 3; have n1 : w.heap.size + 1 ≠ w3.heap.size := (by omega); have n2 : w3.heap.size ≠ w.heap.size + 1 := (by omega)))
    | fail)
  obtain ⟨F0, F1, F2, F3, FB⟩ := put4 (.int .i64 0) (.bool g) (.int .u64 0) (.int .i64 0) (J1.at 0) (J1.at 1) (J1.at 2) (J1.at 3)
  exact bodyPost_ret (v := prt 0 g 0 0) (by simp [results, Tryz.results26, go_sem, F0, F1, F2, F3]) rfl ⟨rfl, FB _ _ (by omega) pr⟩
set_option maxRecDepth 100000 in
set_option maxHeartbeats 1600000 in
theorem Split_w_normal (n d f s : Int) (g : Bool) (hg : (bits .and .u64 (n / 9223372036854775808) 1 == 1) = g) (hd : bits .and .u64 (n / 4503599627370496) 2047 = d) (hf : bits .and .u64 n 4503599627370495 = f) (d1 : (decide (d > 0)) = true) (d2 : (d == 2047) = false) (hs : IntKind.u64.wrap (f + 4503599627370496) = s) (hx1 : IntKind.i64.wrap d = d) (hx2 : IntKind.i64.wrap (-1074 + d) = -1074 + d) (hx3 : IntKind.i64.wrap (-1074 + d - 1) = -1074 + d - 1) (w : World) :
    Calls Tryz.prog 26 #[szW, .int .u64 n] w fun e w' => e = .returned (prt 2 g s (-1074 + d - 1)) ∧ Below w.heap.size w w' := by
  go_enter Tryz.func26, Tryz.ntmps26
  go_wp2_with fail
  have K0 : Blk ((w.alloc (.cells #[.int .i64 53, .int .i64 (-1074), .int .i64 971, .int .i64 52] 36)).alloc (.cells #[.int .i64 0, .bool false, .int .u64 0, .int .i64 0] 42)) w.heap.size #[.int .i64 53, .int .i64 (-1074), .int .i64 971, .int .i64 52] 36 := (Blk.new w _ _).alloc _
  have K1 := Blk.new (w.alloc (.cells #[.int .i64 53, .int .i64 (-1074), .int .i64 971, .int .i64 52] 36)) #[.int .i64 0, .bool false, .int .u64 0, .int .i64 0] 42
  have pr : Below w.heap.size w ((w.alloc (.cells #[.int .i64 53, .int .i64 (-1074), .int .i64 971, .int .i64 52] 36)).alloc (.cells #[.int .i64 0, .bool false, .int .u64 0, .int .i64 0] 42)) := ((Below.refl _ _).alloc (Nat.le_refl _) _).alloc (by simp) _
  simp only [World.size_alloc] at K1
  generalize (w.alloc (.cells #[.int .i64 53, .int .i64 (-1074), .int .i64 971, .int .i64 52] 36)).alloc (.cells #[.int .i64 0, .bool false, .int .u64 0, .int .i64 0] 42) = W at *
  have L0 := K0.lt
  have e0 : W.cell? ⟨w.heap.size, 0, none⟩ = some (.int .i64 53) := K0.at 0
  have e1 : W.cell? ⟨w.heap.size, 1, none⟩ = some (.int .i64 (-1074)) := K0.at 1
  have e2 : W.cell? ⟨w.heap.size, 2, none⟩ = some (.int .i64 971) := K0.at 2
  have e3 : W.cell? ⟨w.heap.size, 3, none⟩ = some (.int .i64 52) := K0.at 3
  go_region_held3 (fun x => x.cell? ⟨w.heap.size, 0, none⟩ = some (.int .i64 53) ∧ x.cell? ⟨w.heap.size, 1, none⟩ = some (.int .i64 (-1074)) ∧ x.cell? ⟨w.heap.size, 2, none⟩ = some (.int .i64 971) ∧ x.cell? ⟨w.heap.size, 3, none⟩ = some (.int .i64 52)) (go_keep) (first
    | (go_at_call 25; refine (top_w _).mono ?_; rintro e w2 ⟨rfl, b2⟩; have J0 := K0.below (below_undrew b2) K0.lt; have f0 : w2.cell? ⟨w.heap.size, 0, none⟩ = some (.int .i64 53) := J0.at 0; have f1 : w2.cell? ⟨w.heap.size, 1, none⟩ = some (.int .i64 (-1074)) := J0.at 1; have f2 : w2.cell? ⟨w.heap.size, 2, none⟩ = some (.int .i64 971) := J0.at 2; have f3 : w2.cell? ⟨w.heap.size, 3, none⟩ = some (.int .i64 52) := J0.at 3)
    | fail)
  have J1 := K1.below (below_undrew b2) K1.lt
  replace pr := bel_drew pr b2
  have c0 : w2.cell? ⟨w.heap.size + 1, 0, none⟩ = some (.int .i64 0) := J1.at 0
  have c1 : w2.cell? ⟨w.heap.size + 1, 1, none⟩ = some (.bool false) := J1.at 1
  have c2 : w2.cell? ⟨w.heap.size + 1, 2, none⟩ = some (.int .u64 0) := J1.at 2
  have c3 : w2.cell? ⟨w.heap.size + 1, 3, none⟩ = some (.int .i64 0) := J1.at 3
  have z0 := J1.free 0
  have z1 := J1.free 1
  have z2 := J1.free 2
  have z3 := J1.free 3
  have l0 := J0.lt
  have l1 := J1.lt
  go_wp2_with (first
    | (go_at_call 41; refine (Neg_w n g hg _).mono ?_; rintro e w3 ⟨rfl, b3⟩; replace J0 := J0.below b3 J0.lt; replace J1 := J1.below b3 J1.lt; replace pr := bel pr b3; have l0 := J0.lt; have l1 := J1.lt; clear b3; have m0 := J0.alloc (.cells #[.int .i64 0, .bool g, .int .u64 0, .int .i64 0] 42); have e0 : (w3.alloc (.cells #[.int .i64 0, .bool g, .int .u64 0, .int .i64 0] 42)).cell? ⟨w.heap.size, 0, none⟩ = some (.int .i64 53) := m0.at 0; have e1 : (w3.alloc (.cells #[.int .i64 0, .bool g, .int .u64 0, .int .i64 0] 42)).cell? ⟨w.heap.size, 1, none⟩ = some (.int .i64 (-1074)) := m0.at 1; have e2 : (w3.alloc (.cells #[.int .i64 0, .bool g, .int .u64 0, .int .i64 0] 42)).cell? ⟨w.heap.size, 2, none⟩ = some (.int .i64 971) := m0.at 2; have e3 : (w3.alloc (.cells #[.int .i64 0, .bool g, .int .u64 0, .int .i64 0] 42)).cell? ⟨w.heap.size, 3, none⟩ = some (.int .i64 52) := m0.at 3; clear m0)
    | (go_at_call 25; refine (top_w _).mono ?_; rintro e w4 ⟨rfl, b4⟩; replace K2 := K2.below b4 K2.lt; replace J0 := J0.below b4 J0.lt; replace J1 := J1.below b4 J1.lt; replace pr := bel pr b4; clear b4; have e0 : w4.cell? ⟨w.heap.size, 0, none⟩ = some (.int .i64 53) := J0.at 0; have e1 : w4.cell? ⟨w.heap.size, 1, none⟩ = some (.int .i64 (-1074)) := J0.at 1; have e2 : w4.cell? ⟨w.heap.size, 2, none⟩ = some (.int .i64 971) := J0.at 2; have e3 : w4.cell? ⟨w.heap.size, 3, none⟩ = some (.int .i64 52) := J0.at 3; have c0 : w4.cell? ⟨w.heap.size + 1, 0, none⟩ = some (.int .i64 0) := J1.at 0; have c1 : w4.cell? ⟨w.heap.size + 1, 1, none⟩ = some (.bool false) := J1.at 1; have c2 : w4.cell? ⟨w.heap.size + 1, 2, none⟩ = some (.int .u64 0) := J1.at 2; have c3 : w4.cell? ⟨w.heap.size + 1, 3, none⟩ = some (.int .i64 0) := J1.at 3; have z0 := J1.free 0; have z1 := J1.free 1; have z2 := J1.free 2; have z3 := J1.free 3; have q0 : w4.cell? ⟨w3.heap.size, 0, none⟩ = some (.int .i64 0) := K2.at 0; have q1 : w4.cell? ⟨w3.heap.size, 1, none⟩ = some (.bool g) := K2.at 1; have q2 : w4.cell? ⟨w3.heap.size, 2, none⟩ = some (.int .u64 0) := K2.at 2; have q3 : w4.cell? ⟨w3.heap.size, 3, none⟩ = some (.int .i64 0) := K2.at 3; have y0 := K2.free 0; have y1 := K2.free 1; have y2 := K2.free 2; have y3 := K2.free 3; have n1 : w.heap.size + 1 ≠ w3.heap.size := (by omega); have n2 : w3.heap.size ≠ w.heap.size + 1 := (by omega))
    | (go_at_call 25; (refine (top_w _).mono ?_; rintro e w4 ⟨rfl, b4⟩; obtain ⟨b5, K2⟩ := var4 b4; clear b4; replace J0 := J0.below b5 J0.lt; replace J1 := J1.below b5 J1.lt; replace pr := bel pr b5; clear b5; have e0 : w4.cell? ⟨w.heap.size, 0, none⟩ = some (.int .i64 53) := J0.at 0; have e1 : w4.cell? ⟨w.heap.size, 1, none⟩ = some (.int .i64 (-1074)) := J0.at 1; have e2 : w4.cell? ⟨w.heap.size, 2, none⟩ = some (.int .i64 971) := J0.at 2; have e3 : w4.cell? ⟨w.heap.size, 3, none⟩ = some (.int .i64 52) := J0.at 3; have c0 : w4.cell? ⟨w.heap.size + 1, 0, none⟩ = some (.int .i64 0) := J1.at 0; have c1 : w4.cell? ⟨w.heap.size + 1, 1, none⟩ = some (.bool false) := J1.at 1; have c2 : w4.cell? ⟨w.heap.size + 1, 2, none⟩ = some (.int .u64 0) := J1.at 2; have c3 : w4.cell? ⟨w.heap.size + 1, 3, none⟩ = some (.int .i64 0) := J1.at 3; have z0 := J1.free 0; have z1 := J1.free 1; have z2 := J1.free 2; have z3 := J1.free 3; have q0 : w4.cell? ⟨w3.heap.size, 0, none⟩ = some (.int .i64 0) := K2.at 0; have q1 : w4.cell? ⟨w3.heap.size, 1, none⟩ = some (.bool g) := K2.at 1; have q2 : w4.cell? ⟨w3.heap.size, 2, none⟩ = some (.int .u64 0) := K2.at 2; have q3 : w4.cell? ⟨w3.heap.size, 3, none⟩ = some (.int .i64 0) := K2.at 3; have y0 := K2.free 0; have y1 := K2.free 1; have y2 := K2.free 2; have y3 := K2.free 3; have n1 : w.heap.size + 1 ≠ w3.heap.size := (by omega); have n2 : w3.heap.size ≠ w.heap.size + 1 := (by omega)))
    | fail)
  replace J1 := J1.skip n2 0 (.int .i64 2)
  replace pr := pr.setCell (p := ⟨w3.heap.size, 0, none⟩) (Nat.le_of_lt l0) (.int .i64 2)
  replace J1 := J1.skip n2 2 (.int .u64 s)
  replace pr := pr.setCell (p := ⟨w3.heap.size, 2, none⟩) (Nat.le_of_lt l0) (.int .u64 s)
  replace J1 := J1.skip n2 3 (.int .i64 (-1074 + d - 1))
  replace pr := pr.setCell (p := ⟨w3.heap.size, 3, none⟩) (Nat.le_of_lt l0) (.int .i64 (-1074 + d - 1))
  obtain ⟨F0, F1, F2, F3, FB⟩ := put4 (.int .i64 2) (.bool g) (.int .u64 s) (.int .i64 (-1074 + d - 1)) (J1.at 0) (J1.at 1) (J1.at 2) (J1.at 3)
  exact bodyPost_ret (v := prt 2 g s (-1074 + d - 1)) (by simp [results, Tryz.results26, go_sem, F0, F1, F2, F3]) rfl ⟨rfl, FB _ _ (by omega) pr⟩
set_option maxRecDepth 100000 in
set_option maxHeartbeats 1600000 in
theorem Split_s_none (n d f : Int) (g : Bool) (hg : (bits .and .u64 (n / 2147483648) 1 == 1) = g) (hd : bits .and .u64 (n / 8388608) 255 = d) (hf : bits .and .u64 n 8388607 = f) (d1 : d = 255) (f1 : (f != 0) = true) (w : World) :
    Calls Tryz.prog 26 #[szS, .int .u64 n] w fun e w' => e = .returned (prt 4 false 0 0) ∧ Below w.heap.size w w' := by
  go_enter Tryz.func26, Tryz.ntmps26
  go_wp2_with fail
  have K0 : Blk ((w.alloc (.cells #[.int .i64 24, .int .i64 (-149), .int .i64 104, .int .i64 23] 36)).alloc (.cells #[.int .i64 0, .bool false, .int .u64 0, .int .i64 0] 42)) w.heap.size #[.int .i64 24, .int .i64 (-149), .int .i64 104, .int .i64 23] 36 := (Blk.new w _ _).alloc _
  have K1 := Blk.new (w.alloc (.cells #[.int .i64 24, .int .i64 (-149), .int .i64 104, .int .i64 23] 36)) #[.int .i64 0, .bool false, .int .u64 0, .int .i64 0] 42
  have pr : Below w.heap.size w ((w.alloc (.cells #[.int .i64 24, .int .i64 (-149), .int .i64 104, .int .i64 23] 36)).alloc (.cells #[.int .i64 0, .bool false, .int .u64 0, .int .i64 0] 42)) := ((Below.refl _ _).alloc (Nat.le_refl _) _).alloc (by simp) _
  simp only [World.size_alloc] at K1
  generalize (w.alloc (.cells #[.int .i64 24, .int .i64 (-149), .int .i64 104, .int .i64 23] 36)).alloc (.cells #[.int .i64 0, .bool false, .int .u64 0, .int .i64 0] 42) = W at *
  have L0 := K0.lt
  have e0 : W.cell? ⟨w.heap.size, 0, none⟩ = some (.int .i64 24) := K0.at 0
  have e1 : W.cell? ⟨w.heap.size, 1, none⟩ = some (.int .i64 (-149)) := K0.at 1
  have e2 : W.cell? ⟨w.heap.size, 2, none⟩ = some (.int .i64 104) := K0.at 2
  have e3 : W.cell? ⟨w.heap.size, 3, none⟩ = some (.int .i64 23) := K0.at 3
  go_region_held3 (fun x => x.cell? ⟨w.heap.size, 0, none⟩ = some (.int .i64 24) ∧ x.cell? ⟨w.heap.size, 1, none⟩ = some (.int .i64 (-149)) ∧ x.cell? ⟨w.heap.size, 2, none⟩ = some (.int .i64 104) ∧ x.cell? ⟨w.heap.size, 3, none⟩ = some (.int .i64 23)) (go_keep) (first
    | (go_at_call 25; refine (top_s _).mono ?_; rintro e w2 ⟨rfl, b2⟩; have J0 := K0.below (below_undrew b2) K0.lt; have f0 : w2.cell? ⟨w.heap.size, 0, none⟩ = some (.int .i64 24) := J0.at 0; have f1 : w2.cell? ⟨w.heap.size, 1, none⟩ = some (.int .i64 (-149)) := J0.at 1; have f2 : w2.cell? ⟨w.heap.size, 2, none⟩ = some (.int .i64 104) := J0.at 2; have f3 : w2.cell? ⟨w.heap.size, 3, none⟩ = some (.int .i64 23) := J0.at 3)
    | fail)
  have J1 := K1.below (below_undrew b2) K1.lt
  replace pr := bel_drew pr b2
  have c0 : w2.cell? ⟨w.heap.size + 1, 0, none⟩ = some (.int .i64 0) := J1.at 0
  have c1 : w2.cell? ⟨w.heap.size + 1, 1, none⟩ = some (.bool false) := J1.at 1
  have c2 : w2.cell? ⟨w.heap.size + 1, 2, none⟩ = some (.int .u64 0) := J1.at 2
  have c3 : w2.cell? ⟨w.heap.size + 1, 3, none⟩ = some (.int .i64 0) := J1.at 3
  have z0 := J1.free 0
  have z1 := J1.free 1
  have z2 := J1.free 2
  have z3 := J1.free 3
  have l0 := J0.lt
  have l1 := J1.lt
  go_wp2_with (first
    | (go_at_call 41; refine (Neg_s n g hg _).mono ?_; rintro e w3 ⟨rfl, b3⟩; replace J0 := J0.below b3 J0.lt; replace J1 := J1.below b3 J1.lt; replace pr := bel pr b3; have l0 := J0.lt; have l1 := J1.lt; clear b3; have m0 := J0.alloc (.cells #[.int .i64 0, .bool g, .int .u64 0, .int .i64 0] 42); have e0 : (w3.alloc (.cells #[.int .i64 0, .bool g, .int .u64 0, .int .i64 0] 42)).cell? ⟨w.heap.size, 0, none⟩ = some (.int .i64 24) := m0.at 0; have e1 : (w3.alloc (.cells #[.int .i64 0, .bool g, .int .u64 0, .int .i64 0] 42)).cell? ⟨w.heap.size, 1, none⟩ = some (.int .i64 (-149)) := m0.at 1; have e2 : (w3.alloc (.cells #[.int .i64 0, .bool g, .int .u64 0, .int .i64 0] 42)).cell? ⟨w.heap.size, 2, none⟩ = some (.int .i64 104) := m0.at 2; have e3 : (w3.alloc (.cells #[.int .i64 0, .bool g, .int .u64 0, .int .i64 0] 42)).cell? ⟨w.heap.size, 3, none⟩ = some (.int .i64 23) := m0.at 3; clear m0)
    | (go_at_call 25; refine (top_s _).mono ?_; rintro e w4 ⟨rfl, b4⟩; replace K2 := K2.below b4 K2.lt; replace J0 := J0.below b4 J0.lt; replace J1 := J1.below b4 J1.lt; replace pr := bel pr b4; clear b4; have e0 : w4.cell? ⟨w.heap.size, 0, none⟩ = some (.int .i64 24) := J0.at 0; have e1 : w4.cell? ⟨w.heap.size, 1, none⟩ = some (.int .i64 (-149)) := J0.at 1; have e2 : w4.cell? ⟨w.heap.size, 2, none⟩ = some (.int .i64 104) := J0.at 2; have e3 : w4.cell? ⟨w.heap.size, 3, none⟩ = some (.int .i64 23) := J0.at 3; have c0 : w4.cell? ⟨w.heap.size + 1, 0, none⟩ = some (.int .i64 0) := J1.at 0; have c1 : w4.cell? ⟨w.heap.size + 1, 1, none⟩ = some (.bool false) := J1.at 1; have c2 : w4.cell? ⟨w.heap.size + 1, 2, none⟩ = some (.int .u64 0) := J1.at 2; have c3 : w4.cell? ⟨w.heap.size + 1, 3, none⟩ = some (.int .i64 0) := J1.at 3; have z0 := J1.free 0; have z1 := J1.free 1; have z2 := J1.free 2; have z3 := J1.free 3; have q0 : w4.cell? ⟨w3.heap.size, 0, none⟩ = some (.int .i64 0) := K2.at 0; have q1 : w4.cell? ⟨w3.heap.size, 1, none⟩ = some (.bool g) := K2.at 1; have q2 : w4.cell? ⟨w3.heap.size, 2, none⟩ = some (.int .u64 0) := K2.at 2; have q3 : w4.cell? ⟨w3.heap.size, 3, none⟩ = some (.int .i64 0) := K2.at 3; have y0 := K2.free 0; have y1 := K2.free 1; have y2 := K2.free 2; have y3 := K2.free 3; have n1 : w.heap.size + 1 ≠ w3.heap.size := (by omega); have n2 : w3.heap.size ≠ w.heap.size + 1 := (by omega))
    | (go_at_call 25; (refine (top_s _).mono ?_; rintro e w4 ⟨rfl, b4⟩; obtain ⟨b5, K2⟩ := var4 b4; clear b4; replace J0 := J0.below b5 J0.lt; replace J1 := J1.below b5 J1.lt; replace pr := bel pr b5; clear b5; have e0 : w4.cell? ⟨w.heap.size, 0, none⟩ = some (.int .i64 24) := J0.at 0; have e1 : w4.cell? ⟨w.heap.size, 1, none⟩ = some (.int .i64 (-149)) := J0.at 1; have e2 : w4.cell? ⟨w.heap.size, 2, none⟩ = some (.int .i64 104) := J0.at 2; have e3 : w4.cell? ⟨w.heap.size, 3, none⟩ = some (.int .i64 23) := J0.at 3; have c0 : w4.cell? ⟨w.heap.size + 1, 0, none⟩ = some (.int .i64 0) := J1.at 0; have c1 : w4.cell? ⟨w.heap.size + 1, 1, none⟩ = some (.bool false) := J1.at 1; have c2 : w4.cell? ⟨w.heap.size + 1, 2, none⟩ = some (.int .u64 0) := J1.at 2; have c3 : w4.cell? ⟨w.heap.size + 1, 3, none⟩ = some (.int .i64 0) := J1.at 3; have z0 := J1.free 0; have z1 := J1.free 1; have z2 := J1.free 2; have z3 := J1.free 3; have q0 : w4.cell? ⟨w3.heap.size, 0, none⟩ = some (.int .i64 0) := K2.at 0; have q1 : w4.cell? ⟨w3.heap.size, 1, none⟩ = some (.bool g) := K2.at 1; have q2 : w4.cell? ⟨w3.heap.size, 2, none⟩ = some (.int .u64 0) := K2.at 2; have q3 : w4.cell? ⟨w3.heap.size, 3, none⟩ = some (.int .i64 0) := K2.at 3; have y0 := K2.free 0; have y1 := K2.free 1; have y2 := K2.free 2; have y3 := K2.free 3; have n1 : w.heap.size + 1 ≠ w3.heap.size := (by omega); have n2 : w3.heap.size ≠ w.heap.size + 1 := (by omega)))
    | fail)
  obtain ⟨F0, F1, F2, F3, FB⟩ := put4 (.int .i64 4) (.bool false) (.int .u64 0) (.int .i64 0) (J1.at 0) (J1.at 1) (J1.at 2) (J1.at 3)
  exact bodyPost_ret (v := prt 4 false 0 0) (by simp [results, Tryz.results26, go_sem, F0, F1, F2, F3]) rfl ⟨rfl, FB _ _ (by omega) pr⟩
set_option maxRecDepth 100000 in
set_option maxHeartbeats 1600000 in
theorem Split_s_inf (n d f : Int) (g : Bool) (hg : (bits .and .u64 (n / 2147483648) 1 == 1) = g) (hd : bits .and .u64 (n / 8388608) 255 = d) (hf : bits .and .u64 n 8388607 = f) (d1 : d = 255) (f1 : (f != 0) = false) (w : World) :
    Calls Tryz.prog 26 #[szS, .int .u64 n] w fun e w' => e = .returned (prt 3 g 0 0) ∧ Below w.heap.size w w' := by
  go_enter Tryz.func26, Tryz.ntmps26
  go_wp2_with fail
  have K0 : Blk ((w.alloc (.cells #[.int .i64 24, .int .i64 (-149), .int .i64 104, .int .i64 23] 36)).alloc (.cells #[.int .i64 0, .bool false, .int .u64 0, .int .i64 0] 42)) w.heap.size #[.int .i64 24, .int .i64 (-149), .int .i64 104, .int .i64 23] 36 := (Blk.new w _ _).alloc _
  have K1 := Blk.new (w.alloc (.cells #[.int .i64 24, .int .i64 (-149), .int .i64 104, .int .i64 23] 36)) #[.int .i64 0, .bool false, .int .u64 0, .int .i64 0] 42
  have pr : Below w.heap.size w ((w.alloc (.cells #[.int .i64 24, .int .i64 (-149), .int .i64 104, .int .i64 23] 36)).alloc (.cells #[.int .i64 0, .bool false, .int .u64 0, .int .i64 0] 42)) := ((Below.refl _ _).alloc (Nat.le_refl _) _).alloc (by simp) _
  simp only [World.size_alloc] at K1
  generalize (w.alloc (.cells #[.int .i64 24, .int .i64 (-149), .int .i64 104, .int .i64 23] 36)).alloc (.cells #[.int .i64 0, .bool false, .int .u64 0, .int .i64 0] 42) = W at *
  have L0 := K0.lt
  have e0 : W.cell? ⟨w.heap.size, 0, none⟩ = some (.int .i64 24) := K0.at 0
  have e1 : W.cell? ⟨w.heap.size, 1, none⟩ = some (.int .i64 (-149)) := K0.at 1
  have e2 : W.cell? ⟨w.heap.size, 2, none⟩ = some (.int .i64 104) := K0.at 2
  have e3 : W.cell? ⟨w.heap.size, 3, none⟩ = some (.int .i64 23) := K0.at 3
  go_region_held3 (fun x => x.cell? ⟨w.heap.size, 0, none⟩ = some (.int .i64 24) ∧ x.cell? ⟨w.heap.size, 1, none⟩ = some (.int .i64 (-149)) ∧ x.cell? ⟨w.heap.size, 2, none⟩ = some (.int .i64 104) ∧ x.cell? ⟨w.heap.size, 3, none⟩ = some (.int .i64 23)) (go_keep) (first
    | (go_at_call 25; refine (top_s _).mono ?_; rintro e w2 ⟨rfl, b2⟩; have J0 := K0.below (below_undrew b2) K0.lt; have f0 : w2.cell? ⟨w.heap.size, 0, none⟩ = some (.int .i64 24) := J0.at 0; have f1 : w2.cell? ⟨w.heap.size, 1, none⟩ = some (.int .i64 (-149)) := J0.at 1; have f2 : w2.cell? ⟨w.heap.size, 2, none⟩ = some (.int .i64 104) := J0.at 2; have f3 : w2.cell? ⟨w.heap.size, 3, none⟩ = some (.int .i64 23) := J0.at 3)
    | fail)
  have J1 := K1.below (below_undrew b2) K1.lt
  replace pr := bel_drew pr b2
  have c0 : w2.cell? ⟨w.heap.size + 1, 0, none⟩ = some (.int .i64 0) := J1.at 0
  have c1 : w2.cell? ⟨w.heap.size + 1, 1, none⟩ = some (.bool false) := J1.at 1
  have c2 : w2.cell? ⟨w.heap.size + 1, 2, none⟩ = some (.int .u64 0) := J1.at 2
  have c3 : w2.cell? ⟨w.heap.size + 1, 3, none⟩ = some (.int .i64 0) := J1.at 3
  have z0 := J1.free 0
  have z1 := J1.free 1
  have z2 := J1.free 2
  have z3 := J1.free 3
  have l0 := J0.lt
  have l1 := J1.lt
  go_wp2_with (first
    | (go_at_call 41; refine (Neg_s n g hg _).mono ?_; rintro e w3 ⟨rfl, b3⟩; replace J0 := J0.below b3 J0.lt; replace J1 := J1.below b3 J1.lt; replace pr := bel pr b3; have l0 := J0.lt; have l1 := J1.lt; clear b3; have m0 := J0.alloc (.cells #[.int .i64 0, .bool g, .int .u64 0, .int .i64 0] 42); have e0 : (w3.alloc (.cells #[.int .i64 0, .bool g, .int .u64 0, .int .i64 0] 42)).cell? ⟨w.heap.size, 0, none⟩ = some (.int .i64 24) := m0.at 0; have e1 : (w3.alloc (.cells #[.int .i64 0, .bool g, .int .u64 0, .int .i64 0] 42)).cell? ⟨w.heap.size, 1, none⟩ = some (.int .i64 (-149)) := m0.at 1; have e2 : (w3.alloc (.cells #[.int .i64 0, .bool g, .int .u64 0, .int .i64 0] 42)).cell? ⟨w.heap.size, 2, none⟩ = some (.int .i64 104) := m0.at 2; have e3 : (w3.alloc (.cells #[.int .i64 0, .bool g, .int .u64 0, .int .i64 0] 42)).cell? ⟨w.heap.size, 3, none⟩ = some (.int .i64 23) := m0.at 3; clear m0)
    | (go_at_call 25; refine (top_s _).mono ?_; rintro e w4 ⟨rfl, b4⟩; replace K2 := K2.below b4 K2.lt; replace J0 := J0.below b4 J0.lt; replace J1 := J1.below b4 J1.lt; replace pr := bel pr b4; clear b4; have e0 : w4.cell? ⟨w.heap.size, 0, none⟩ = some (.int .i64 24) := J0.at 0; have e1 : w4.cell? ⟨w.heap.size, 1, none⟩ = some (.int .i64 (-149)) := J0.at 1; have e2 : w4.cell? ⟨w.heap.size, 2, none⟩ = some (.int .i64 104) := J0.at 2; have e3 : w4.cell? ⟨w.heap.size, 3, none⟩ = some (.int .i64 23) := J0.at 3; have c0 : w4.cell? ⟨w.heap.size + 1, 0, none⟩ = some (.int .i64 0) := J1.at 0; have c1 : w4.cell? ⟨w.heap.size + 1, 1, none⟩ = some (.bool false) := J1.at 1; have c2 : w4.cell? ⟨w.heap.size + 1, 2, none⟩ = some (.int .u64 0) := J1.at 2; have c3 : w4.cell? ⟨w.heap.size + 1, 3, none⟩ = some (.int .i64 0) := J1.at 3; have z0 := J1.free 0; have z1 := J1.free 1; have z2 := J1.free 2; have z3 := J1.free 3; have q0 : w4.cell? ⟨w3.heap.size, 0, none⟩ = some (.int .i64 0) := K2.at 0; have q1 : w4.cell? ⟨w3.heap.size, 1, none⟩ = some (.bool g) := K2.at 1; have q2 : w4.cell? ⟨w3.heap.size, 2, none⟩ = some (.int .u64 0) := K2.at 2; have q3 : w4.cell? ⟨w3.heap.size, 3, none⟩ = some (.int .i64 0) := K2.at 3; have y0 := K2.free 0; have y1 := K2.free 1; have y2 := K2.free 2; have y3 := K2.free 3; have n1 : w.heap.size + 1 ≠ w3.heap.size := (by omega); have n2 : w3.heap.size ≠ w.heap.size + 1 := (by omega))
    | (go_at_call 25; (refine (top_s _).mono ?_; rintro e w4 ⟨rfl, b4⟩; obtain ⟨b5, K2⟩ := var4 b4; clear b4; replace J0 := J0.below b5 J0.lt; replace J1 := J1.below b5 J1.lt; replace pr := bel pr b5; clear b5; have e0 : w4.cell? ⟨w.heap.size, 0, none⟩ = some (.int .i64 24) := J0.at 0; have e1 : w4.cell? ⟨w.heap.size, 1, none⟩ = some (.int .i64 (-149)) := J0.at 1; have e2 : w4.cell? ⟨w.heap.size, 2, none⟩ = some (.int .i64 104) := J0.at 2; have e3 : w4.cell? ⟨w.heap.size, 3, none⟩ = some (.int .i64 23) := J0.at 3; have c0 : w4.cell? ⟨w.heap.size + 1, 0, none⟩ = some (.int .i64 0) := J1.at 0; have c1 : w4.cell? ⟨w.heap.size + 1, 1, none⟩ = some (.bool false) := J1.at 1; have c2 : w4.cell? ⟨w.heap.size + 1, 2, none⟩ = some (.int .u64 0) := J1.at 2; have c3 : w4.cell? ⟨w.heap.size + 1, 3, none⟩ = some (.int .i64 0) := J1.at 3; have z0 := J1.free 0; have z1 := J1.free 1; have z2 := J1.free 2; have z3 := J1.free 3; have q0 : w4.cell? ⟨w3.heap.size, 0, none⟩ = some (.int .i64 0) := K2.at 0; have q1 : w4.cell? ⟨w3.heap.size, 1, none⟩ = some (.bool g) := K2.at 1; have q2 : w4.cell? ⟨w3.heap.size, 2, none⟩ = some (.int .u64 0) := K2.at 2; have q3 : w4.cell? ⟨w3.heap.size, 3, none⟩ = some (.int .i64 0) := K2.at 3; have y0 := K2.free 0; have y1 := K2.free 1; have y2 := K2.free 2; have y3 := K2.free 3; have n1 : w.heap.size + 1 ≠ w3.heap.size := (by omega); have n2 : w3.heap.size ≠ w.heap.size + 1 := (by omega)))
    | fail)
  replace J1 := J1.skip n2 0 (.int .i64 3)
  replace pr := pr.setCell (p := ⟨w3.heap.size, 0, none⟩) (Nat.le_of_lt l0) (.int .i64 3)
  obtain ⟨F0, F1, F2, F3, FB⟩ := put4 (.int .i64 3) (.bool g) (.int .u64 0) (.int .i64 0) (J1.at 0) (J1.at 1) (J1.at 2) (J1.at 3)
  exact bodyPost_ret (v := prt 3 g 0 0) (by simp [results, Tryz.results26, go_sem, F0, F1, F2, F3]) rfl ⟨rfl, FB _ _ (by omega) pr⟩
set_option maxRecDepth 100000 in
set_option maxHeartbeats 1600000 in
theorem Split_s_small (n d f : Int) (g : Bool) (hg : (bits .and .u64 (n / 2147483648) 1 == 1) = g) (hd : bits .and .u64 (n / 8388608) 255 = d) (hf : bits .and .u64 n 8388607 = f) (d1 : d = 0) (f1 : (decide (f > 0)) = true) (w : World) :
    Calls Tryz.prog 26 #[szS, .int .u64 n] w fun e w' => e = .returned (prt 1 g f (-149)) ∧ Below w.heap.size w w' := by
  go_enter Tryz.func26, Tryz.ntmps26
  go_wp2_with fail
  have K0 : Blk ((w.alloc (.cells #[.int .i64 24, .int .i64 (-149), .int .i64 104, .int .i64 23] 36)).alloc (.cells #[.int .i64 0, .bool false, .int .u64 0, .int .i64 0] 42)) w.heap.size #[.int .i64 24, .int .i64 (-149), .int .i64 104, .int .i64 23] 36 := (Blk.new w _ _).alloc _
  have K1 := Blk.new (w.alloc (.cells #[.int .i64 24, .int .i64 (-149), .int .i64 104, .int .i64 23] 36)) #[.int .i64 0, .bool false, .int .u64 0, .int .i64 0] 42
  have pr : Below w.heap.size w ((w.alloc (.cells #[.int .i64 24, .int .i64 (-149), .int .i64 104, .int .i64 23] 36)).alloc (.cells #[.int .i64 0, .bool false, .int .u64 0, .int .i64 0] 42)) := ((Below.refl _ _).alloc (Nat.le_refl _) _).alloc (by simp) _
  simp only [World.size_alloc] at K1
  generalize (w.alloc (.cells #[.int .i64 24, .int .i64 (-149), .int .i64 104, .int .i64 23] 36)).alloc (.cells #[.int .i64 0, .bool false, .int .u64 0, .int .i64 0] 42) = W at *
  have L0 := K0.lt
  have e0 : W.cell? ⟨w.heap.size, 0, none⟩ = some (.int .i64 24) := K0.at 0
  have e1 : W.cell? ⟨w.heap.size, 1, none⟩ = some (.int .i64 (-149)) := K0.at 1
  have e2 : W.cell? ⟨w.heap.size, 2, none⟩ = some (.int .i64 104) := K0.at 2
  have e3 : W.cell? ⟨w.heap.size, 3, none⟩ = some (.int .i64 23) := K0.at 3
  go_region_held3 (fun x => x.cell? ⟨w.heap.size, 0, none⟩ = some (.int .i64 24) ∧ x.cell? ⟨w.heap.size, 1, none⟩ = some (.int .i64 (-149)) ∧ x.cell? ⟨w.heap.size, 2, none⟩ = some (.int .i64 104) ∧ x.cell? ⟨w.heap.size, 3, none⟩ = some (.int .i64 23)) (go_keep) (first
    | (go_at_call 25; refine (top_s _).mono ?_; rintro e w2 ⟨rfl, b2⟩; have J0 := K0.below (below_undrew b2) K0.lt; have f0 : w2.cell? ⟨w.heap.size, 0, none⟩ = some (.int .i64 24) := J0.at 0; have f1 : w2.cell? ⟨w.heap.size, 1, none⟩ = some (.int .i64 (-149)) := J0.at 1; have f2 : w2.cell? ⟨w.heap.size, 2, none⟩ = some (.int .i64 104) := J0.at 2; have f3 : w2.cell? ⟨w.heap.size, 3, none⟩ = some (.int .i64 23) := J0.at 3)
    | fail)
  have J1 := K1.below (below_undrew b2) K1.lt
  replace pr := bel_drew pr b2
  have c0 : w2.cell? ⟨w.heap.size + 1, 0, none⟩ = some (.int .i64 0) := J1.at 0
  have c1 : w2.cell? ⟨w.heap.size + 1, 1, none⟩ = some (.bool false) := J1.at 1
  have c2 : w2.cell? ⟨w.heap.size + 1, 2, none⟩ = some (.int .u64 0) := J1.at 2
  have c3 : w2.cell? ⟨w.heap.size + 1, 3, none⟩ = some (.int .i64 0) := J1.at 3
  have z0 := J1.free 0
  have z1 := J1.free 1
  have z2 := J1.free 2
  have z3 := J1.free 3
  have l0 := J0.lt
  have l1 := J1.lt
  go_wp2_with (first
    | (go_at_call 41; refine (Neg_s n g hg _).mono ?_; rintro e w3 ⟨rfl, b3⟩; replace J0 := J0.below b3 J0.lt; replace J1 := J1.below b3 J1.lt; replace pr := bel pr b3; have l0 := J0.lt; have l1 := J1.lt; clear b3; have m0 := J0.alloc (.cells #[.int .i64 0, .bool g, .int .u64 0, .int .i64 0] 42); have e0 : (w3.alloc (.cells #[.int .i64 0, .bool g, .int .u64 0, .int .i64 0] 42)).cell? ⟨w.heap.size, 0, none⟩ = some (.int .i64 24) := m0.at 0; have e1 : (w3.alloc (.cells #[.int .i64 0, .bool g, .int .u64 0, .int .i64 0] 42)).cell? ⟨w.heap.size, 1, none⟩ = some (.int .i64 (-149)) := m0.at 1; have e2 : (w3.alloc (.cells #[.int .i64 0, .bool g, .int .u64 0, .int .i64 0] 42)).cell? ⟨w.heap.size, 2, none⟩ = some (.int .i64 104) := m0.at 2; have e3 : (w3.alloc (.cells #[.int .i64 0, .bool g, .int .u64 0, .int .i64 0] 42)).cell? ⟨w.heap.size, 3, none⟩ = some (.int .i64 23) := m0.at 3; clear m0)
    | (go_at_call 25; refine (top_s _).mono ?_; rintro e w4 ⟨rfl, b4⟩; replace K2 := K2.below b4 K2.lt; replace J0 := J0.below b4 J0.lt; replace J1 := J1.below b4 J1.lt; replace pr := bel pr b4; clear b4; have e0 : w4.cell? ⟨w.heap.size, 0, none⟩ = some (.int .i64 24) := J0.at 0; have e1 : w4.cell? ⟨w.heap.size, 1, none⟩ = some (.int .i64 (-149)) := J0.at 1; have e2 : w4.cell? ⟨w.heap.size, 2, none⟩ = some (.int .i64 104) := J0.at 2; have e3 : w4.cell? ⟨w.heap.size, 3, none⟩ = some (.int .i64 23) := J0.at 3; have c0 : w4.cell? ⟨w.heap.size + 1, 0, none⟩ = some (.int .i64 0) := J1.at 0; have c1 : w4.cell? ⟨w.heap.size + 1, 1, none⟩ = some (.bool false) := J1.at 1; have c2 : w4.cell? ⟨w.heap.size + 1, 2, none⟩ = some (.int .u64 0) := J1.at 2; have c3 : w4.cell? ⟨w.heap.size + 1, 3, none⟩ = some (.int .i64 0) := J1.at 3; have z0 := J1.free 0; have z1 := J1.free 1; have z2 := J1.free 2; have z3 := J1.free 3; have q0 : w4.cell? ⟨w3.heap.size, 0, none⟩ = some (.int .i64 0) := K2.at 0; have q1 : w4.cell? ⟨w3.heap.size, 1, none⟩ = some (.bool g) := K2.at 1; have q2 : w4.cell? ⟨w3.heap.size, 2, none⟩ = some (.int .u64 0) := K2.at 2; have q3 : w4.cell? ⟨w3.heap.size, 3, none⟩ = some (.int .i64 0) := K2.at 3; have y0 := K2.free 0; have y1 := K2.free 1; have y2 := K2.free 2; have y3 := K2.free 3; have n1 : w.heap.size + 1 ≠ w3.heap.size := (by omega); have n2 : w3.heap.size ≠ w.heap.size + 1 := (by omega))
    | (go_at_call 25; (refine (top_s _).mono ?_; rintro e w4 ⟨rfl, b4⟩; obtain ⟨b5, K2⟩ := var4 b4; clear b4; replace J0 := J0.below b5 J0.lt; replace J1 := J1.below b5 J1.lt; replace pr := bel pr b5; clear b5; have e0 : w4.cell? ⟨w.heap.size, 0, none⟩ = some (.int .i64 24) := J0.at 0; have e1 : w4.cell? ⟨w.heap.size, 1, none⟩ = some (.int .i64 (-149)) := J0.at 1; have e2 : w4.cell? ⟨w.heap.size, 2, none⟩ = some (.int .i64 104) := J0.at 2; have e3 : w4.cell? ⟨w.heap.size, 3, none⟩ = some (.int .i64 23) := J0.at 3; have c0 : w4.cell? ⟨w.heap.size + 1, 0, none⟩ = some (.int .i64 0) := J1.at 0; have c1 : w4.cell? ⟨w.heap.size + 1, 1, none⟩ = some (.bool false) := J1.at 1; have c2 : w4.cell? ⟨w.heap.size + 1, 2, none⟩ = some (.int .u64 0) := J1.at 2; have c3 : w4.cell? ⟨w.heap.size + 1, 3, none⟩ = some (.int .i64 0) := J1.at 3; have z0 := J1.free 0; have z1 := J1.free 1; have z2 := J1.free 2; have z3 := J1.free 3; have q0 : w4.cell? ⟨w3.heap.size, 0, none⟩ = some (.int .i64 0) := K2.at 0; have q1 : w4.cell? ⟨w3.heap.size, 1, none⟩ = some (.bool g) := K2.at 1; have q2 : w4.cell? ⟨w3.heap.size, 2, none⟩ = some (.int .u64 0) := K2.at 2; have q3 : w4.cell? ⟨w3.heap.size, 3, none⟩ = some (.int .i64 0) := K2.at 3; have y0 := K2.free 0; have y1 := K2.free 1; have y2 := K2.free 2; have y3 := K2.free 3; have n1 : w.heap.size + 1 ≠ w3.heap.size := (by omega); have n2 : w3.heap.size ≠ w.heap.size + 1 := (by omega)))
    | fail)
  replace J1 := J1.skip n2 0 (.int .i64 1)
  replace pr := pr.setCell (p := ⟨w3.heap.size, 0, none⟩) (Nat.le_of_lt l0) (.int .i64 1)
  replace J1 := J1.skip n2 2 (.int .u64 f)
  replace pr := pr.setCell (p := ⟨w3.heap.size, 2, none⟩) (Nat.le_of_lt l0) (.int .u64 f)
  replace J1 := J1.skip n2 3 (.int .i64 (-149))
  replace pr := pr.setCell (p := ⟨w3.heap.size, 3, none⟩) (Nat.le_of_lt l0) (.int .i64 (-149))
  obtain ⟨F0, F1, F2, F3, FB⟩ := put4 (.int .i64 1) (.bool g) (.int .u64 f) (.int .i64 (-149)) (J1.at 0) (J1.at 1) (J1.at 2) (J1.at 3)
  exact bodyPost_ret (v := prt 1 g f (-149)) (by simp [results, Tryz.results26, go_sem, F0, F1, F2, F3]) rfl ⟨rfl, FB _ _ (by omega) pr⟩
set_option maxRecDepth 100000 in
set_option maxHeartbeats 1600000 in
theorem Split_s_nought (n d f : Int) (g : Bool) (hg : (bits .and .u64 (n / 2147483648) 1 == 1) = g) (hd : bits .and .u64 (n / 8388608) 255 = d) (hf : bits .and .u64 n 8388607 = f) (d1 : d = 0) (f1 : (decide (f > 0)) = false) (w : World) :
    Calls Tryz.prog 26 #[szS, .int .u64 n] w fun e w' => e = .returned (prt 0 g 0 0) ∧ Below w.heap.size w w' := by
  go_enter Tryz.func26, Tryz.ntmps26
  go_wp2_with fail
  have K0 : Blk ((w.alloc (.cells #[.int .i64 24, .int .i64 (-149), .int .i64 104, .int .i64 23] 36)).alloc (.cells #[.int .i64 0, .bool false, .int .u64 0, .int .i64 0] 42)) w.heap.size #[.int .i64 24, .int .i64 (-149), .int .i64 104, .int .i64 23] 36 := (Blk.new w _ _).alloc _
  have K1 := Blk.new (w.alloc (.cells #[.int .i64 24, .int .i64 (-149), .int .i64 104, .int .i64 23] 36)) #[.int .i64 0, .bool false, .int .u64 0, .int .i64 0] 42
  have pr : Below w.heap.size w ((w.alloc (.cells #[.int .i64 24, .int .i64 (-149), .int .i64 104, .int .i64 23] 36)).alloc (.cells #[.int .i64 0, .bool false, .int .u64 0, .int .i64 0] 42)) := ((Below.refl _ _).alloc (Nat.le_refl _) _).alloc (by simp) _
  simp only [World.size_alloc] at K1
  generalize (w.alloc (.cells #[.int .i64 24, .int .i64 (-149), .int .i64 104, .int .i64 23] 36)).alloc (.cells #[.int .i64 0, .bool false, .int .u64 0, .int .i64 0] 42) = W at *
  have L0 := K0.lt
  have e0 : W.cell? ⟨w.heap.size, 0, none⟩ = some (.int .i64 24) := K0.at 0
  have e1 : W.cell? ⟨w.heap.size, 1, none⟩ = some (.int .i64 (-149)) := K0.at 1
  have e2 : W.cell? ⟨w.heap.size, 2, none⟩ = some (.int .i64 104) := K0.at 2
  have e3 : W.cell? ⟨w.heap.size, 3, none⟩ = some (.int .i64 23) := K0.at 3
  go_region_held3 (fun x => x.cell? ⟨w.heap.size, 0, none⟩ = some (.int .i64 24) ∧ x.cell? ⟨w.heap.size, 1, none⟩ = some (.int .i64 (-149)) ∧ x.cell? ⟨w.heap.size, 2, none⟩ = some (.int .i64 104) ∧ x.cell? ⟨w.heap.size, 3, none⟩ = some (.int .i64 23)) (go_keep) (first
    | (go_at_call 25; refine (top_s _).mono ?_; rintro e w2 ⟨rfl, b2⟩; have J0 := K0.below (below_undrew b2) K0.lt; have f0 : w2.cell? ⟨w.heap.size, 0, none⟩ = some (.int .i64 24) := J0.at 0; have f1 : w2.cell? ⟨w.heap.size, 1, none⟩ = some (.int .i64 (-149)) := J0.at 1; have f2 : w2.cell? ⟨w.heap.size, 2, none⟩ = some (.int .i64 104) := J0.at 2; have f3 : w2.cell? ⟨w.heap.size, 3, none⟩ = some (.int .i64 23) := J0.at 3)
    | fail)
  have J1 := K1.below (below_undrew b2) K1.lt
  replace pr := bel_drew pr b2
  have c0 : w2.cell? ⟨w.heap.size + 1, 0, none⟩ = some (.int .i64 0) := J1.at 0
  have c1 : w2.cell? ⟨w.heap.size + 1, 1, none⟩ = some (.bool false) := J1.at 1
  have c2 : w2.cell? ⟨w.heap.size + 1, 2, none⟩ = some (.int .u64 0) := J1.at 2
  have c3 : w2.cell? ⟨w.heap.size + 1, 3, none⟩ = some (.int .i64 0) := J1.at 3
  have z0 := J1.free 0
  have z1 := J1.free 1
  have z2 := J1.free 2
  have z3 := J1.free 3
  have l0 := J0.lt
  have l1 := J1.lt
  go_wp2_with (first
    | (go_at_call 41; refine (Neg_s n g hg _).mono ?_; rintro e w3 ⟨rfl, b3⟩; replace J0 := J0.below b3 J0.lt; replace J1 := J1.below b3 J1.lt; replace pr := bel pr b3; have l0 := J0.lt; have l1 := J1.lt; clear b3; have m0 := J0.alloc (.cells #[.int .i64 0, .bool g, .int .u64 0, .int .i64 0] 42); have e0 : (w3.alloc (.cells #[.int .i64 0, .bool g, .int .u64 0, .int .i64 0] 42)).cell? ⟨w.heap.size, 0, none⟩ = some (.int .i64 24) := m0.at 0; have e1 : (w3.alloc (.cells #[.int .i64 0, .bool g, .int .u64 0, .int .i64 0] 42)).cell? ⟨w.heap.size, 1, none⟩ = some (.int .i64 (-149)) := m0.at 1; have e2 : (w3.alloc (.cells #[.int .i64 0, .bool g, .int .u64 0, .int .i64 0] 42)).cell? ⟨w.heap.size, 2, none⟩ = some (.int .i64 104) := m0.at 2; have e3 : (w3.alloc (.cells #[.int .i64 0, .bool g, .int .u64 0, .int .i64 0] 42)).cell? ⟨w.heap.size, 3, none⟩ = some (.int .i64 23) := m0.at 3; clear m0)
    | (go_at_call 25; refine (top_s _).mono ?_; rintro e w4 ⟨rfl, b4⟩; replace K2 := K2.below b4 K2.lt; replace J0 := J0.below b4 J0.lt; replace J1 := J1.below b4 J1.lt; replace pr := bel pr b4; clear b4; have e0 : w4.cell? ⟨w.heap.size, 0, none⟩ = some (.int .i64 24) := J0.at 0; have e1 : w4.cell? ⟨w.heap.size, 1, none⟩ = some (.int .i64 (-149)) := J0.at 1; have e2 : w4.cell? ⟨w.heap.size, 2, none⟩ = some (.int .i64 104) := J0.at 2; have e3 : w4.cell? ⟨w.heap.size, 3, none⟩ = some (.int .i64 23) := J0.at 3; have c0 : w4.cell? ⟨w.heap.size + 1, 0, none⟩ = some (.int .i64 0) := J1.at 0; have c1 : w4.cell? ⟨w.heap.size + 1, 1, none⟩ = some (.bool false) := J1.at 1; have c2 : w4.cell? ⟨w.heap.size + 1, 2, none⟩ = some (.int .u64 0) := J1.at 2; have c3 : w4.cell? ⟨w.heap.size + 1, 3, none⟩ = some (.int .i64 0) := J1.at 3; have z0 := J1.free 0; have z1 := J1.free 1; have z2 := J1.free 2; have z3 := J1.free 3; have q0 : w4.cell? ⟨w3.heap.size, 0, none⟩ = some (.int .i64 0) := K2.at 0; have q1 : w4.cell? ⟨w3.heap.size, 1, none⟩ = some (.bool g) := K2.at 1; have q2 : w4.cell? ⟨w3.heap.size, 2, none⟩ = some (.int .u64 0) := K2.at 2; have q3 : w4.cell? ⟨w3.heap.size, 3, none⟩ = some (.int .i64 0) := K2.at 3; have y0 := K2.free 0; have y1 := K2.free 1; have y2 := K2.free 2; have y3 := K2.free 3; have n1 : w.heap.size + 1 ≠ w3.heap.size := (by omega); have n2 : w3.heap.size ≠ w.heap.size + 1 := (by omega))
    | (go_at_call 25; (refine (top_s _).mono ?_; rintro e w4 ⟨rfl, b4⟩; obtain ⟨b5, K2⟩ := var4 b4; clear b4; replace J0 := J0.below b5 J0.lt; replace J1 := J1.below b5 J1.lt; replace pr := bel pr b5; clear b5; have e0 : w4.cell? ⟨w.heap.size, 0, none⟩ = some (.int .i64 24) := J0.at 0; have e1 : w4.cell? ⟨w.heap.size, 1, none⟩ = some (.int .i64 (-149)) := J0.at 1; have e2 : w4.cell? ⟨w.heap.size, 2, none⟩ = some (.int .i64 104) := J0.at 2; have e3 : w4.cell? ⟨w.heap.size, 3, none⟩ = some (.int .i64 23) := J0.at 3; have c0 : w4.cell? ⟨w.heap.size + 1, 0, none⟩ = some (.int .i64 0) := J1.at 0; have c1 : w4.cell? ⟨w.heap.size + 1, 1, none⟩ = some (.bool false) := J1.at 1; have c2 : w4.cell? ⟨w.heap.size + 1, 2, none⟩ = some (.int .u64 0) := J1.at 2; have c3 : w4.cell? ⟨w.heap.size + 1, 3, none⟩ = some (.int .i64 0) := J1.at 3; have z0 := J1.free 0; have z1 := J1.free 1; have z2 := J1.free 2; have z3 := J1.free 3; have q0 : w4.cell? ⟨w3.heap.size, 0, none⟩ = some (.int .i64 0) := K2.at 0; have q1 : w4.cell? ⟨w3.heap.size, 1, none⟩ = some (.bool g) := K2.at 1; have q2 : w4.cell? ⟨w3.heap.size, 2, none⟩ = some (.int .u64 0) := K2.at 2; have q3 : w4.cell? ⟨w3.heap.size, 3, none⟩ = some (.int .i64 0) := K2.at 3; have y0 := K2.free 0; have y1 := K2.free 1; have y2 := K2.free 2; have y3 := K2.free 3; have n1 : w.heap.size + 1 ≠ w3.heap.size := (by omega); have n2 : w3.heap.size ≠ w.heap.size + 1 := (by omega)))
    | fail)
  obtain ⟨F0, F1, F2, F3, FB⟩ := put4 (.int .i64 0) (.bool g) (.int .u64 0) (.int .i64 0) (J1.at 0) (J1.at 1) (J1.at 2) (J1.at 3)
  exact bodyPost_ret (v := prt 0 g 0 0) (by simp [results, Tryz.results26, go_sem, F0, F1, F2, F3]) rfl ⟨rfl, FB _ _ (by omega) pr⟩
set_option maxRecDepth 100000 in
set_option maxHeartbeats 1600000 in
theorem Split_s_normal (n d f s : Int) (g : Bool) (hg : (bits .and .u64 (n / 2147483648) 1 == 1) = g) (hd : bits .and .u64 (n / 8388608) 255 = d) (hf : bits .and .u64 n 8388607 = f) (d1 : (decide (d > 0)) = true) (d2 : (d == 255) = false) (hs : IntKind.u64.wrap (f + 8388608) = s) (hx1 : IntKind.i64.wrap d = d) (hx2 : IntKind.i64.wrap (-149 + d) = -149 + d) (hx3 : IntKind.i64.wrap (-149 + d - 1) = -149 + d - 1) (w : World) :
    Calls Tryz.prog 26 #[szS, .int .u64 n] w fun e w' => e = .returned (prt 2 g s (-149 + d - 1)) ∧ Below w.heap.size w w' := by
  go_enter Tryz.func26, Tryz.ntmps26
  go_wp2_with fail
  have K0 : Blk ((w.alloc (.cells #[.int .i64 24, .int .i64 (-149), .int .i64 104, .int .i64 23] 36)).alloc (.cells #[.int .i64 0, .bool false, .int .u64 0, .int .i64 0] 42)) w.heap.size #[.int .i64 24, .int .i64 (-149), .int .i64 104, .int .i64 23] 36 := (Blk.new w _ _).alloc _
  have K1 := Blk.new (w.alloc (.cells #[.int .i64 24, .int .i64 (-149), .int .i64 104, .int .i64 23] 36)) #[.int .i64 0, .bool false, .int .u64 0, .int .i64 0] 42
  have pr : Below w.heap.size w ((w.alloc (.cells #[.int .i64 24, .int .i64 (-149), .int .i64 104, .int .i64 23] 36)).alloc (.cells #[.int .i64 0, .bool false, .int .u64 0, .int .i64 0] 42)) := ((Below.refl _ _).alloc (Nat.le_refl _) _).alloc (by simp) _
  simp only [World.size_alloc] at K1
  generalize (w.alloc (.cells #[.int .i64 24, .int .i64 (-149), .int .i64 104, .int .i64 23] 36)).alloc (.cells #[.int .i64 0, .bool false, .int .u64 0, .int .i64 0] 42) = W at *
  have L0 := K0.lt
  have e0 : W.cell? ⟨w.heap.size, 0, none⟩ = some (.int .i64 24) := K0.at 0
  have e1 : W.cell? ⟨w.heap.size, 1, none⟩ = some (.int .i64 (-149)) := K0.at 1
  have e2 : W.cell? ⟨w.heap.size, 2, none⟩ = some (.int .i64 104) := K0.at 2
  have e3 : W.cell? ⟨w.heap.size, 3, none⟩ = some (.int .i64 23) := K0.at 3
  go_region_held3 (fun x => x.cell? ⟨w.heap.size, 0, none⟩ = some (.int .i64 24) ∧ x.cell? ⟨w.heap.size, 1, none⟩ = some (.int .i64 (-149)) ∧ x.cell? ⟨w.heap.size, 2, none⟩ = some (.int .i64 104) ∧ x.cell? ⟨w.heap.size, 3, none⟩ = some (.int .i64 23)) (go_keep) (first
    | (go_at_call 25; refine (top_s _).mono ?_; rintro e w2 ⟨rfl, b2⟩; have J0 := K0.below (below_undrew b2) K0.lt; have f0 : w2.cell? ⟨w.heap.size, 0, none⟩ = some (.int .i64 24) := J0.at 0; have f1 : w2.cell? ⟨w.heap.size, 1, none⟩ = some (.int .i64 (-149)) := J0.at 1; have f2 : w2.cell? ⟨w.heap.size, 2, none⟩ = some (.int .i64 104) := J0.at 2; have f3 : w2.cell? ⟨w.heap.size, 3, none⟩ = some (.int .i64 23) := J0.at 3)
    | fail)
  have J1 := K1.below (below_undrew b2) K1.lt
  replace pr := bel_drew pr b2
  have c0 : w2.cell? ⟨w.heap.size + 1, 0, none⟩ = some (.int .i64 0) := J1.at 0
  have c1 : w2.cell? ⟨w.heap.size + 1, 1, none⟩ = some (.bool false) := J1.at 1
  have c2 : w2.cell? ⟨w.heap.size + 1, 2, none⟩ = some (.int .u64 0) := J1.at 2
  have c3 : w2.cell? ⟨w.heap.size + 1, 3, none⟩ = some (.int .i64 0) := J1.at 3
  have z0 := J1.free 0
  have z1 := J1.free 1
  have z2 := J1.free 2
  have z3 := J1.free 3
  have l0 := J0.lt
  have l1 := J1.lt
  go_wp2_with (first
    | (go_at_call 41; refine (Neg_s n g hg _).mono ?_; rintro e w3 ⟨rfl, b3⟩; replace J0 := J0.below b3 J0.lt; replace J1 := J1.below b3 J1.lt; replace pr := bel pr b3; have l0 := J0.lt; have l1 := J1.lt; clear b3; have m0 := J0.alloc (.cells #[.int .i64 0, .bool g, .int .u64 0, .int .i64 0] 42); have e0 : (w3.alloc (.cells #[.int .i64 0, .bool g, .int .u64 0, .int .i64 0] 42)).cell? ⟨w.heap.size, 0, none⟩ = some (.int .i64 24) := m0.at 0; have e1 : (w3.alloc (.cells #[.int .i64 0, .bool g, .int .u64 0, .int .i64 0] 42)).cell? ⟨w.heap.size, 1, none⟩ = some (.int .i64 (-149)) := m0.at 1; have e2 : (w3.alloc (.cells #[.int .i64 0, .bool g, .int .u64 0, .int .i64 0] 42)).cell? ⟨w.heap.size, 2, none⟩ = some (.int .i64 104) := m0.at 2; have e3 : (w3.alloc (.cells #[.int .i64 0, .bool g, .int .u64 0, .int .i64 0] 42)).cell? ⟨w.heap.size, 3, none⟩ = some (.int .i64 23) := m0.at 3; clear m0)
    | (go_at_call 25; refine (top_s _).mono ?_; rintro e w4 ⟨rfl, b4⟩; replace K2 := K2.below b4 K2.lt; replace J0 := J0.below b4 J0.lt; replace J1 := J1.below b4 J1.lt; replace pr := bel pr b4; clear b4; have e0 : w4.cell? ⟨w.heap.size, 0, none⟩ = some (.int .i64 24) := J0.at 0; have e1 : w4.cell? ⟨w.heap.size, 1, none⟩ = some (.int .i64 (-149)) := J0.at 1; have e2 : w4.cell? ⟨w.heap.size, 2, none⟩ = some (.int .i64 104) := J0.at 2; have e3 : w4.cell? ⟨w.heap.size, 3, none⟩ = some (.int .i64 23) := J0.at 3; have c0 : w4.cell? ⟨w.heap.size + 1, 0, none⟩ = some (.int .i64 0) := J1.at 0; have c1 : w4.cell? ⟨w.heap.size + 1, 1, none⟩ = some (.bool false) := J1.at 1; have c2 : w4.cell? ⟨w.heap.size + 1, 2, none⟩ = some (.int .u64 0) := J1.at 2; have c3 : w4.cell? ⟨w.heap.size + 1, 3, none⟩ = some (.int .i64 0) := J1.at 3; have z0 := J1.free 0; have z1 := J1.free 1; have z2 := J1.free 2; have z3 := J1.free 3; have q0 : w4.cell? ⟨w3.heap.size, 0, none⟩ = some (.int .i64 0) := K2.at 0; have q1 : w4.cell? ⟨w3.heap.size, 1, none⟩ = some (.bool g) := K2.at 1; have q2 : w4.cell? ⟨w3.heap.size, 2, none⟩ = some (.int .u64 0) := K2.at 2; have q3 : w4.cell? ⟨w3.heap.size, 3, none⟩ = some (.int .i64 0) := K2.at 3; have y0 := K2.free 0; have y1 := K2.free 1; have y2 := K2.free 2; have y3 := K2.free 3; have n1 : w.heap.size + 1 ≠ w3.heap.size := (by omega); have n2 : w3.heap.size ≠ w.heap.size + 1 := (by omega))
    | (go_at_call 25; (refine (top_s _).mono ?_; rintro e w4 ⟨rfl, b4⟩; obtain ⟨b5, K2⟩ := var4 b4; clear b4; replace J0 := J0.below b5 J0.lt; replace J1 := J1.below b5 J1.lt; replace pr := bel pr b5; clear b5; have e0 : w4.cell? ⟨w.heap.size, 0, none⟩ = some (.int .i64 24) := J0.at 0; have e1 : w4.cell? ⟨w.heap.size, 1, none⟩ = some (.int .i64 (-149)) := J0.at 1; have e2 : w4.cell? ⟨w.heap.size, 2, none⟩ = some (.int .i64 104) := J0.at 2; have e3 : w4.cell? ⟨w.heap.size, 3, none⟩ = some (.int .i64 23) := J0.at 3; have c0 : w4.cell? ⟨w.heap.size + 1, 0, none⟩ = some (.int .i64 0) := J1.at 0; have c1 : w4.cell? ⟨w.heap.size + 1, 1, none⟩ = some (.bool false) := J1.at 1; have c2 : w4.cell? ⟨w.heap.size + 1, 2, none⟩ = some (.int .u64 0) := J1.at 2; have c3 : w4.cell? ⟨w.heap.size + 1, 3, none⟩ = some (.int .i64 0) := J1.at 3; have z0 := J1.free 0; have z1 := J1.free 1; have z2 := J1.free 2; have z3 := J1.free 3; have q0 : w4.cell? ⟨w3.heap.size, 0, none⟩ = some (.int .i64 0) := K2.at 0; have q1 : w4.cell? ⟨w3.heap.size, 1, none⟩ = some (.bool g) := K2.at 1; have q2 : w4.cell? ⟨w3.heap.size, 2, none⟩ = some (.int .u64 0) := K2.at 2; have q3 : w4.cell? ⟨w3.heap.size, 3, none⟩ = some (.int .i64 0) := K2.at 3; have y0 := K2.free 0; have y1 := K2.free 1; have y2 := K2.free 2; have y3 := K2.free 3; have n1 : w.heap.size + 1 ≠ w3.heap.size := (by omega); have n2 : w3.heap.size ≠ w.heap.size + 1 := (by omega)))
    | fail)
  replace J1 := J1.skip n2 0 (.int .i64 2)
  replace pr := pr.setCell (p := ⟨w3.heap.size, 0, none⟩) (Nat.le_of_lt l0) (.int .i64 2)
  replace J1 := J1.skip n2 2 (.int .u64 s)
  replace pr := pr.setCell (p := ⟨w3.heap.size, 2, none⟩) (Nat.le_of_lt l0) (.int .u64 s)
  replace J1 := J1.skip n2 3 (.int .i64 (-149 + d - 1))
  replace pr := pr.setCell (p := ⟨w3.heap.size, 3, none⟩) (Nat.le_of_lt l0) (.int .i64 (-149 + d - 1))
  obtain ⟨F0, F1, F2, F3, FB⟩ := put4 (.int .i64 2) (.bool g) (.int .u64 s) (.int .i64 (-149 + d - 1)) (J1.at 0) (J1.at 1) (J1.at 2) (J1.at 3)
  exact bodyPost_ret (v := prt 2 g s (-149 + d - 1)) (by simp [results, Tryz.results26, go_sem, F0, F1, F2, F3]) rfl ⟨rfl, FB _ _ (by omega) pr⟩
end Go.Proofs.YtiobnojcmeeikaaGreatDoor
